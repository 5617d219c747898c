/- slices.Grow, slices.Concat over ints; TodoPut of the program. -/
import Derived.Test.YtlflgflmlfileaaRows
import Derived.Test.YtlflgflmlfileaaTd
import Derived.Test.YtlflgflmlfileaaCmpI
import Derived.Lib.AppendZeros
namespace Go.Proofs.Ytlflgflmlfileaa
open Go.RowKit
set_option linter.unusedSimpArgs false
set_option linter.unusedVariables false
def iC (x : Int) : List Value := [.int .i64 x]
theorem iC_len (x : Int) : (iC x).length = 1 := rfl
theorem iC_one (l : List Int) : ∀ u ∈ l.flatMap iC, u.oneCell' = true := by
  intro u hu
  obtain ⟨x, _, hx⟩ := List.mem_flatMap.1 hu
  simp [iC] at hx
  rw [hx]; rfl
theorem iC_ints (l : List Int) : l.flatMap iC = ints l := by
  unfold ints
  induction l with
  | nil => rfl
  | cons a l ih => rw [List.flatMap_cons, ih]; rfl
set_option maxRecDepth 100000 in
set_option maxHeartbeats 800000 in
theorem growZ_im (n : Nat) (w : World) (hn : n ≤ 1073741824) :
    Calls Try.prog 94 #[.slice none 0 0, .int .i64 (n : Int)] w (NewR 3 1 w 0 []) := by
  by_cases h0 : n = 0
  · subst h0
    have R : Hid (NewR 3 1 w 0 [] (.returned (.slice none 0 0)) w) := ⟨none, 0, rfl, World.ownsRow_nil _ _ _ _, Below.refl _ _⟩
    go_enter Try.func94, Try.ntmps94
    go_wp2
    go_ret
    exact R.out
  · obtain ⟨i0, hi, hz0, hz1, hz2⟩ := info_parts rowInt.inf
    have hpos : 0 < n := by omega
    have HR := Lib.hid (fun ty => Lib.run_append_nil_zeros (P := Try.prog) w 32 3 ty 3 i0 _ .i64 .i64 rowInt.ut Try.underlying3 hi hz0 n hpos (by rw [hz1]; omega) (by omega) (by rw [hz2]; omega))
    have hm : grownCap w n 0 3 ≤ maxLen := grownCap_le_maxLen _ _ _ _ (by unfold maxLen; omega)
    have hge := grownCap_ge w n 0 3
    have hO := World.ownsRow_made (base := w.heap.size) (e := 3) (size := 1) w.drew (Builtin.zeroCells (Value.int .i64 0).cells n ++ Builtin.zeroCells (Value.int .i64 0).cells (grownCap w n 0 3 - n)) (grownCap w n 0 3) (by simp) hm
      (by rw [Array.size_append, size_zeroCells, size_zeroCells]; show n * 1 + _ * 1 = _; omega)
    have hB : Below w.heap.size w (w.drew.alloc (.cells (Builtin.zeroCells (Value.int .i64 0).cells n ++ Builtin.zeroCells (Value.int .i64 0).cells (grownCap w n 0 3 - n)) 3)) := (Below.refl _ _).drew.alloc (by simp) _
    have R : Hid (NewR 3 1 w 0 [] (.returned (.slice (some ⟨w.heap.size, 0, none⟩) 0 (grownCap w n 0 3))) _) := ⟨_, _, rfl, hO, hB⟩
    clear hO hB hm
    generalize grownCap w n 0 3 = G at *
    generalize w.drew.alloc (.cells (Builtin.zeroCells (Value.int .i64 0).cells n ++ Builtin.zeroCells (Value.int .i64 0).cells (G - n)) 3) = W at *
    go_enter Try.func94, Try.ntmps94
    go_wp2_with (at_builtin; refine Lib.wpList_append_run _ rfl _ _ _ _ rfl _ _ rfl rfl _ _ (HR.out _) ?_)
    go_ret
    exact R.out
/-- A slice of entries. -/
structure Pz where
  A : Option Addr
  c : Nat
  l : List Int
def Pz.v (p : Pz) : Value := .slice p.A p.l.length p.c
def pz0 : Pz := ⟨none, 0, []⟩
def Pz.ok (w : World) (p : Pz) : Prop := p.l.length ≤ 2097153 ∧ (p.A = none → p.c = 0) ∧ Rws w w.heap.size p.A (p.l.flatMap iC)
def catZ (L : List Pz) (k : Nat) : List Int := (L.take k).flatMap (·.l)
theorem catZ_succ (L : List Pz) (k : Nat) (hk : k < L.length) : catZ L (k + 1) = catZ L k ++ (L.getD k pz0).l := by
  unfold catZ
  rw [List.take_add_one, List.flatMap_append, List.getD_eq_getElem?_getD, List.getElem?_eq_getElem hk]
  simp
theorem catZ_le (L : List Pz) (h : ∀ i, i < L.length → (L.getD i pz0).l.length ≤ 2097153) : ∀ k, k ≤ L.length → (catZ L k).length ≤ k * 2097153
  | 0, _ => by simp [catZ]
  | k + 1, hk => by
    rw [catZ_succ L k (by omega), List.length_append]
    have h1 := catZ_le L h k (by omega)
    have h2 := h k (by omega)
    omega
set_option maxRecDepth 100000 in
set_option maxHeartbeats 1600000 in
theorem concatZ_im (L : List Pz) (g off : Nat) (w : World) (hL : L.length ≤ 3) (hgl : g < w.heap.size) (hc : ∀ i, i < L.length → w.cell? ⟨g, off + i, none⟩ = some (L.getD i pz0).v) (hp : ∀ i, i < L.length → (L.getD i pz0).ok w) :
    Calls Try.prog 68 #[.slice (some ⟨g, off, none⟩) L.length L.length] w (NewR 3 1 w (catZ L L.length).length ((catZ L L.length).flatMap iC)) := by
  have HL := Lib.hid (fun k hk => catZ_le L (fun i hi => (hp i hi).1) k hk)
  have HC := Lib.hid hc
  have HP := Lib.hid hp
  clear hc hp
  go_enter Try.func68, Try.ntmps68
  go_wp2
  go_loop [3, 11] (fun z i => ∃ k : Nat, k ≤ L.length ∧ i = .int .i64 k ∧ z = .int .i64 ((catZ L k).length : Nat)) (fun _ i => L.length - (intOf i).toNat)
  case atStart => exact ⟨0, by omega, rfl, rfl⟩
  case round =>
    obtain ⟨k, hk, rfl, rfl⟩ := hrel
    by_cases hlt : k < L.length
    · have hc := HC.out k hlt
      unfold Pz.v at hc
      have hl1 := HL.out k hk
      have hl2 := HL.out (k + 1) hlt
      have HE := Lib.hid (catZ_succ L k hlt)
      have hl3 : (catZ L (k + 1)).length = (catZ L k).length + (L.getD k pz0).l.length := by rw [HE.out, List.length_append]
      rw [hl3] at hl2
      have H3 := Lib.hid hl3
      clear hl3 HE
      generalize L.getD k pz0 = p at *
      generalize (catZ L k).length = n at *
      go_wp2
      go_round
      case rel => exact ⟨k + 1, by omega, by go_num, by rw [H3.out]; go_num⟩
      case measure => simp [intOf]; omega
    · obtain rfl : k = L.length := by omega
      have hl1 := HL.out L.length (Nat.le_refl _)
      have CG := Lib.hid (growZ_im (catZ L L.length).length w (by omega))
      go_wp2_with fail
      refine CG.out.mono ?_
      rintro e w1 ⟨GA, gc, rfl, o1, b1⟩
      have HO := Lib.hid o1
      have HB := Lib.hid b1
      clear CG o1 b1
      go_wp2
      go_loopw [6, 27] (fun v i wr => ∃ k : Nat, k ≤ L.length ∧ i = .int .i64 k ∧ Hid (wr.ownsRow w.heap.size 3 1 v (catZ L k).length ((catZ L k).flatMap iC)) ∧ Hid (Below w.heap.size w wr)) (fun _ i _ => L.length - (intOf i).toNat)
      case atStart => exact ⟨0, by omega, rfl, HO, HB⟩
      case round =>
        obtain ⟨k, hk, rfl, ho, hb⟩ := hrel
        by_cases hlt : k < L.length
        · have hc := (hb.out.cell (by exact hgl)).trans (HC.out k hlt)
          unfold Pz.v at hc
          obtain ⟨hp1, hp2, hp3⟩ := HP.out k hlt
          have hl1 := HL.out k hk
          have HE := Lib.hid (catZ_succ L k hlt)
          have HR := Lib.hid (rws_below hp3 hb.out)
          clear hp3
          generalize L.getD k pz0 = p at *
          go_wp2_with (at_builtin; refine wpList_appR rowInt _ rfl (.tmp 31) (.tmp 32) rfl w.heap.size _ (catZ L k).length ((catZ L k).flatMap iC) rfl ho.out _ p.A p.l.length p.c (p.l.flatMap iC) rfl (flat_len iC 1 iC_len p.l) HR.out hp2 (iC_one _) (by omega) hb.out.size ?_)
          intro v2 w2 o2 g2
          have B2 := Lib.hid (hb.out.grown g2 hb.out.size (own_low ho.out))
          have O2 : Hid (w2.ownsRow w.heap.size 3 1 v2 (catZ L (k + 1)).length ((catZ L (k + 1)).flatMap iC)) := by
            show w2.ownsRow _ _ _ _ _ _
            rw [HE.out, List.length_append, List.flatMap_append]; exact o2
          clear o2 g2 HR HE ho hb hc
          go_wp2
          go_roundw
          case rel => exact ⟨k + 1, by omega, by go_num, O2, B2⟩
          case measure => simp [intOf]; omega
        · obtain rfl : k = L.length := by omega
          have R := Lib.hid (NewR.of_own ho.out hb.out)
          clear ho hb
          go_wp2
          go_ret
          exact R.out
set_option maxRecDepth 100000 in
/-- slices.Concat of slices that have just been laid in a row. -/
theorem concatZ_new (L : List Pz) (w : World) (hL : L.length ≤ 3) (hp : ∀ p ∈ L, p.ok w) (t : TypeId) :
    Calls Try.prog 68 #[.slice (some ⟨w.heap.size, 0, none⟩) L.length L.length] (w.alloc (.cells (L.map Pz.v).toArray t)) fun e w' => NewR 3 1 w (L.flatMap (·.l)).length ((L.flatMap (·.l)).flatMap iC) e w' := by
  have b0 : Below w.heap.size w (w.alloc (.cells (L.map Pz.v).toArray t)) := (Below.refl _ _).alloc (Nat.le_refl _) _
  have hc := Rws.new w (L.map Pz.v) t
  have h := concatZ_im L w.heap.size 0 (w.alloc (.cells (L.map Pz.v).toArray t)) hL (by simp) (fun i hi => by
      rcases hc with hc | ⟨b, off, e, _, hc⟩
      · simp at hc; subst hc; simp at hi
      · injection e with e; injection e with e1 e2; subst e1 e2
        rw [hc i (by simpa using hi)]
        simp [List.getD_eq_getElem?_getD, hi]) (fun i hi => by
      have hm : L.getD i pz0 ∈ L := by simp [List.getD_eq_getElem?_getD, hi]
      obtain ⟨h1, h2, h3⟩ := hp _ hm
      exact ⟨h1, h2, rws_below h3 b0⟩)
  have hcat : catZ L L.length = L.flatMap (·.l) := by unfold catZ; rw [List.take_length]
  rw [hcat] at h
  refine h.mono ?_
  rintro e w' ⟨B, d, rfl, o, bb⟩
  exact ⟨B, d, rfl, own_weak o b0.size, b0.trans (bb.mono b0.size)⟩
set_option maxRecDepth 100000 in
set_option maxHeartbeats 1600000 in
theorem todoPut_impl (A : Option Addr) (l : List Int) (c : Nat) (z : Int) (w : World) (hl : l.length ≤ 2097152) (hn : A = none → c = 0) (hA : Rws w w.heap.size A (ints l)) :
    Calls Try.prog 31 #[.slice A l.length c, .int .i64 z] w (NewR 3 1 w (todoV l z).length (ints (todoV l z))) := by
  have CI := Lib.hid (contains_im A l c z w hl hA)
  have hA2 : ∀ w', Below w.heap.size w w' → Rws w' w'.heap.size A (l.flatMap iC) := fun w' h => by rw [iC_ints]; exact rws_below hA h
  by_cases hz : z ∈ l
  · have e1 : todoV l z = l := by unfold todoV; rw [if_pos hz]
    have C2 := Lib.hid (fun w' (h : Below w.heap.size w w') => concatZ_new [⟨A, c, l⟩] w' (by simp) (fun p hp => by
      have : p = ⟨A, c, l⟩ := by simpa using hp
      subst this
      exact ⟨by show l.length ≤ _; omega, hn, hA2 w' h⟩) 32)
    simp only [List.map_cons, List.map_nil, Pz.v, List.flatMap_cons, List.flatMap_nil, List.append_nil, List.length_cons, List.length_nil, Nat.zero_add, iC_ints] at C2
    rw [e1]
    have hd : decide (z ∈ l) = true := by simp [hz]
    try rw [hd] at CI
    clear hz e1 hA2 hd
    go_enter Try.func31, Try.ntmps31
    go_wp2_with fail
    refine CI.out.mono ?_
    rintro e _ ⟨rfl, rfl⟩
    have B1 := Lib.hid (Below.refl w.heap.size w)
    have C2 := Lib.hid (C2.out w B1.out)
    clear CI
    go_wp2_with fail
    refine C2.out.mono ?_
    rintro e w3 ⟨CB, cc, rfl, o3, b3⟩
    have R : Hid (NewR 3 1 w l.length (ints l) (.returned (.slice CB l.length cc)) w3) := ⟨CB, cc, rfl, own_weak o3 B1.out.size, B1.out.trans (b3.mono B1.out.size)⟩
    clear C2 o3 b3
    go_wp2
    go_ret
    exact R.out
  · have e1 : todoV l z = l ++ [z] := by unfold todoV; rw [if_neg hz]
    have C2 : Hid (∀ w', Below w.heap.size w w' → Calls Try.prog 68 #[.slice (some ⟨w'.heap.size + 1, 0, none⟩) 2 2] ((w'.alloc (.cells #[.int .i64 z] 3)).alloc (.cells #[.slice A l.length c, .slice (some ⟨w'.heap.size, 0, none⟩) 1 1] 32)) fun e u => NewR 3 1 w (l ++ [z]).length (ints (l ++ [z])) e u) := fun w' hb => by
      have hb2 : Below w.heap.size w (w'.alloc (.cells #[.int .i64 z] 3)) := hb.alloc hb.size _
      have h3 := (Rws.new w' [.int .i64 z] 3)
      have := concatZ_new [⟨A, c, l⟩, ⟨some ⟨w'.heap.size, 0, none⟩, 1, [z]⟩] (w'.alloc (.cells #[.int .i64 z] 3)) (by simp) (fun p hp => by
        rcases (show p = ⟨A, c, l⟩ ∨ p = ⟨some ⟨w'.heap.size, 0, none⟩, 1, [z]⟩ by simpa using hp) with rfl | rfl
        · exact ⟨by show l.length ≤ _; omega, hn, hA2 _ hb2⟩
        · refine ⟨by show [z].length ≤ _; simp, (fun h => by cases h), ?_⟩
          show Rws _ _ _ ([z].flatMap iC)
          rw [show [z].flatMap iC = [.int .i64 z] by rfl]
          exact h3.more (by simp)) 32
      have hsz : (w'.alloc (.cells #[.int .i64 z] 3)).heap.size = w'.heap.size + 1 := by simp
      have hcat : [({ A := A, c := c, l := l } : Pz), ⟨some ⟨w'.heap.size, 0, none⟩, 1, [z]⟩].flatMap (·.l) = l ++ [z] := by simp
      rw [hcat, hsz, iC_ints] at this
      simp only [List.map_cons, List.map_nil, Pz.v, List.length_cons, List.length_nil, Nat.zero_add, Nat.reduceAdd] at this
      refine this.mono ?_
      rintro e u ⟨B, d, rfl, o, bb⟩
      exact ⟨B, d, rfl, own_weak o hb2.size, hb2.trans (bb.mono hb2.size)⟩
    rw [e1]
    have hd : decide (z ∈ l) = false := by simp [hz]
    try rw [hd] at CI
    clear hz e1 hA2 hd
    generalize l ++ [z] = P at *
    go_enter Try.func31, Try.ntmps31
    go_wp2_with fail
    refine CI.out.mono ?_
    rintro e _ ⟨rfl, rfl⟩
    have C2 := Lib.hid (C2.out w (Below.refl _ _))
    clear CI
    go_wp2_with fail
    refine C2.out.mono ?_
    rintro e w3 ⟨CB, cc, rfl, o3, b3⟩
    have R : Hid (NewR 3 1 w P.length (ints P) (.returned (.slice CB P.length cc)) w3) := ⟨CB, cc, rfl, o3, b3⟩
    clear C2 o3 b3
    go_wp2
    go_ret
    exact R.out
end Go.Proofs.Ytlflgflmlfileaa
