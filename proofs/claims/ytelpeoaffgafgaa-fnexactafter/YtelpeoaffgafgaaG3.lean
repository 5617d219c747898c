/- Texts laid together: Aft, AftL, AftW, Draw, L2, AftD, AftF. -/
import Derived.Test.YtelpeoaffgafgaaRows
import Derived.Test.YtelpeoaffgafgaaG2
import Derived.Deep.AppendLies
namespace Go.Proofs.Ytelpeoaffgafgaa
open Go.RowKit
set_option linter.unusedSimpArgs false
set_option linter.unusedVariables false
/-- What After selects. -/
def afterOf : List Fr → Int → List Fr
  | [], _ => []
  | f :: r, q => if f.seq ≤ q then afterOf r q else if f.seq = q + 1 then f :: afterOf r f.seq else []
theorem afterOf_len (l : List Fr) (q : Int) : (afterOf l q).length ≤ l.length := by
  induction l generalizing q with
  | nil => simp [afterOf]
  | cons f r ih =>
    simp only [afterOf]
    split
    · have := ih q; simp only [List.length_cons]; omega
    · split
      · have := ih f.seq; simp only [List.length_cons]; omega
      · simp
theorem dropF (l : List Fr) (k : Nat) (h : k < l.length) : l.drop k = l.getD k fr0 :: l.drop (k + 1) := by
  rw [List.drop_eq_getElem_cons h, List.getD_eq_getElem?_getD, List.getElem?_eq_getElem h]; rfl
/-- Where the loop of After stands. -/
def AftAt (l : List Fr) (seq : Int) (k : Nat) (p : List Fr) (q : Int) : Prop := p ++ afterOf (l.drop k) q = afterOf l seq ∧ p.length ≤ k
theorem AftAt.skip {l : List Fr} {seq q : Int} {k : Nat} {p : List Fr} (h : AftAt l seq k p q) (hk : k < l.length) (hq : (l.getD k fr0).seq ≤ q) : AftAt l seq (k + 1) p q := by
  refine ⟨?_, by have := h.2; omega⟩
  rw [← h.1, dropF l k hk]
  simp only [afterOf]
  rw [if_pos hq]
theorem AftAt.take {l : List Fr} {seq q : Int} {k : Nat} {p : List Fr} (h : AftAt l seq k p q) (hk : k < l.length) (hq : (l.getD k fr0).seq = q + 1) : AftAt l seq (k + 1) (p ++ [l.getD k fr0]) (q + 1) := by
  refine ⟨?_, by have := h.2; simp; omega⟩
  rw [← h.1, dropF l k hk]
  simp only [afterOf]
  rw [if_neg (by omega), if_pos hq, List.append_assoc, hq]; rfl
theorem AftAt.stop {l : List Fr} {seq q : Int} {k : Nat} {p : List Fr} (h : AftAt l seq k p q) (hk : k < l.length) (hq : q < (l.getD k fr0).seq) (hn : (l.getD k fr0).seq ≠ q + 1) : p = afterOf l seq := by
  have h1 := h.1
  rw [dropF l k hk] at h1
  simp only [afterOf] at h1
  rw [if_neg (by omega), if_neg hn, List.append_nil] at h1
  exact h1
theorem AftAt.last {l : List Fr} {seq q : Int} {p : List Fr} (h : AftAt l seq l.length p q) : p = afterOf l seq := by
  have h1 := h.1
  rw [List.drop_length] at h1
  simpa [afterOf] using h1
/-- Every number of the list is an int. -/
def FrWf (l : List Fr) : Prop := ∀ f ∈ l, -9223372036854775808 ≤ f.seq ∧ f.seq ≤ 9223372036854775807
theorem FrWf.getD {l : List Fr} (h : FrWf l) {k : Nat} (hk : k < l.length) : -9223372036854775808 ≤ (l.getD k fr0).seq ∧ (l.getD k fr0).seq ≤ 9223372036854775807 := by
  rw [List.getD_eq_getElem?_getD, List.getElem?_eq_getElem hk]; exact h _ (List.getElem_mem hk)
set_option maxRecDepth 100000 in
set_option maxHeartbeats 800000 in
theorem after_impl (A : Option Addr) (l : List Fr) (c : Nat) (seq : Int) (w : World) (hl : l.length ≤ 2097152) (hA : Rws w w.heap.size A (l.flatMap frC)) (hwf : FrWf l) (h1 : -9223372036854775808 ≤ seq) (h2 : seq ≤ 9223372036854775807) :
    Calls Try.prog 20 #[.slice A l.length c, .int .i64 seq] w (NewR 38 3 w (afterOf l seq).length ((afterOf l seq).flatMap frC)) := by
  go_enter Try.func20, Try.ntmps20
  go_wp2
  go_loopw [5, 6, 12] (fun v q i wr => ∃ (k : Nat) (p : List Fr) (z : Int), k ≤ l.length ∧ i = .int .i64 k ∧ q = .int .i64 z ∧ -9223372036854775808 ≤ z ∧ z ≤ 9223372036854775807 ∧ wr.ownsRow w.heap.size 38 3 v p.length (p.flatMap frC) ∧ AftAt l seq k p z ∧ Below w.heap.size w wr) (fun _ _ i _ => l.length - (intOf i).toNat)
  case atStart => exact ⟨0, [], seq, by omega, rfl, rfl, h1, h2, World.ownsRow_nil _ _ _ _, ⟨rfl, by simp⟩, Below.refl _ _⟩
  case round =>
    obtain ⟨k, p, z, hk, rfl, rfl, hz1, hz2, hown, hat, hb⟩ := hrel
    have hpl := hat.2
    have hbs := hb.size
    by_cases hlt : k < l.length
    · obtain ⟨b, off, rfl, hbB, c0, c1, c2⟩ := (hA.below hb).fr hlt
      have hw := hwf.getD hlt
      by_cases hs : (l.getD k fr0).seq ≤ z
      · have HA := Lib.hid (hat.skip hlt hs)
        have HO := Lib.hid hown
        have HB := Lib.hid hb
        generalize l.getD k fr0 = x at *
        clear hat hown hb
        go_wp2
        go_roundw
        case rel => exact ⟨k + 1, p, z, by omega, by go_num, rfl, hz1, hz2, HO.out.alloc _, HA.out, HB.out.alloc hbs _⟩
        case measure => simp [intOf]; omega
      · by_cases hn : (l.getD k fr0).seq = z + 1
        · have HA := Lib.hid (hat.take hlt hn)
          generalize l.getD k fr0 = x at *
          have hne : (x.seq != z + 1) = false := by simp [hn]
          have hzz : z + 1 ≤ 9223372036854775807 := by omega
          have HN := Lib.hid hn
          have hs2 : z < x.seq := by omega
          clear hat hn hs
          go_wp2_with (at_builtin; refine wpList_app1F _ rfl (.tmp 25) (.tmp 27) rfl w.heap.size _ p rfl (World.ownsRow.alloc (World.ownsRow.alloc hown _) _) (wr.heap.size + 1) x rfl (by simp [go_sem]) (by omega) (by simp; omega) ?_)
          intro v' w2 o2 g2
          have b3 : Hid (Below w.heap.size w w2) := ((hb.alloc hbs _).alloc (by simp; omega) _).grown g2 (by simp; omega) (own_low hown)
          have O2 : Hid (w2.ownsRow w.heap.size 38 3 v' (p ++ [x]).length ((p ++ [x]).flatMap frC)) := by
            show World.ownsRow _ _ _ _ _ _ _
            rw [List.flatMap_append, List.length_append]; simpa using o2
          clear g2 hown o2 hb
          go_wp2
          go_roundw
          case rel => exact ⟨k + 1, _, z + 1, by omega, by go_num, rfl, by omega, hzz, O2.out, HA.out, b3.out⟩
          case measure => simp [intOf]; omega
        · have hs2 : z < (l.getD k fr0).seq := by omega
          have HE := Lib.hid (hat.stop hlt hs2 hn)
          generalize l.getD k fr0 = x at *
          have hne : (x.seq != z + 1) = true := by simp [hn]
          have hzz : z + 1 ≤ 9223372036854775807 := by omega
          have R := Lib.hid (NewR.of_own (World.ownsRow.alloc hown (.cells #[.int .i64 x.seq, .string x.body, .int .i64 x.next] 38)) (hb.alloc hbs _))
          rw [HE.out] at R
          clear hat hn hs hown hb
          go_wp2
          go_ret
          exact R.out
    · obtain rfl : k = l.length := by omega
      have HE := Lib.hid hat.last
      have R := Lib.hid (NewR.of_own hown hb)
      rw [HE.out] at R
      clear hat hown hb
      go_wp2
      go_ret
      exact R.out
set_option maxRecDepth 100000 in
set_option maxHeartbeats 800000 in
theorem after_spec (A : Option Addr) (l : List Fr) (c : Nat) (seq : Int) (w : World) (hl : l.length ≤ 2097152) (hA : Rws w w.heap.size A (l.flatMap frC)) (hwf : FrWf l) (h1 : -9223372036854775808 ≤ seq) (h2 : seq ≤ 9223372036854775807) :
    Calls Try.prog 32 #[.slice A l.length c, .int .i64 seq] w (NewR 38 3 w (afterOf l seq).length ((afterOf l seq).flatMap frC)) := by
  go_enter Try.func32, Try.ntmps32
  go_wp2
  go_loopw [1, 5, 6] (fun q v i wr => ∃ (k : Nat) (p : List Fr) (z : Int), k ≤ l.length ∧ i = .int .i64 k ∧ q = .int .i64 z ∧ -9223372036854775808 ≤ z ∧ z ≤ 9223372036854775807 ∧ wr.ownsRow w.heap.size 38 3 v p.length (p.flatMap frC) ∧ AftAt l seq k p z ∧ Below w.heap.size w wr) (fun _ _ i _ => l.length - (intOf i).toNat)
  case atStart => exact ⟨0, [], seq, by omega, rfl, rfl, h1, h2, own_empty _ _ _ _ (Nat.le_refl _), ⟨rfl, by simp⟩, (Below.refl _ _).alloc (Nat.le_refl _) _⟩
  case round =>
    obtain ⟨k, p, z, hk, rfl, rfl, hz1, hz2, hown, hat, hb⟩ := hrel
    have hpl := hat.2
    have hbs := hb.size
    by_cases hlt : k < l.length
    · obtain ⟨b, off, rfl, hbB, c0, c1, c2⟩ := (hA.below hb).fr hlt
      have hw := hwf.getD hlt
      by_cases hs : (l.getD k fr0).seq ≤ z
      · have HA := Lib.hid (hat.skip hlt hs)
        have HO := Lib.hid hown
        have HB := Lib.hid hb
        generalize l.getD k fr0 = x at *
        clear hat hown hb
        go_wp2
        go_roundw
        case rel => exact ⟨k + 1, p, z, by omega, by go_num, rfl, hz1, hz2, HO.out, HA.out, HB.out⟩
        case measure => simp [intOf]; omega
      · by_cases hn : (l.getD k fr0).seq = z + 1
        · have HA := Lib.hid (hat.take hlt hn)
          generalize l.getD k fr0 = x at *
          have hne : (x.seq - 1 != z) = false := by simp; omega
          have hzz : z + 1 ≤ 9223372036854775807 := by omega
          have HN := Lib.hid hn
          have hs2 : z < x.seq := by omega
          clear hat hn hs
          go_wp2_with (at_builtin; refine wpList_app1F _ rfl (.tmp 34) (.tmp 39) rfl w.heap.size _ p rfl (World.ownsRow.alloc hown _) wr.heap.size x rfl (by simp [go_sem]) (by omega) (by simp; omega) ?_)
          intro v' w2 o2 g2
          have b3 : Hid (Below w.heap.size w w2) := (hb.alloc hbs _).grown g2 (by simp; omega) (own_low hown)
          have O2 : Hid (w2.ownsRow w.heap.size 38 3 v' (p ++ [x]).length ((p ++ [x]).flatMap frC)) := by
            show World.ownsRow _ _ _ _ _ _ _
            rw [List.flatMap_append, List.length_append]; simpa using o2
          clear g2 hown o2 hb
          go_wp2
          go_roundw
          case rel => exact ⟨k + 1, _, x.seq, by omega, by go_num, rfl, by omega, by omega, O2.out, by rw [HN.out]; exact HA.out, b3.out⟩
          case measure => simp [intOf]; omega
        · have hs2 : z < (l.getD k fr0).seq := by omega
          have HE := Lib.hid (hat.stop hlt hs2 hn)
          generalize l.getD k fr0 = x at *
          have hne : (x.seq - 1 != z) = true := by simp; omega
          have R := Lib.hid (NewR.of_own hown hb)
          rw [HE.out] at R
          clear hat hn hs hown hb
          go_wp2
          go_ret
          exact R.out
    · obtain rfl : k = l.length := by omega
      have HE := Lib.hid hat.last
      have R := Lib.hid (NewR.of_own hown hb)
      rw [HE.out] at R
      clear hat hown hb
      go_wp2
      go_ret
      exact R.out
set_option maxRecDepth 100000 in
theorem szFrame_any (f : Fr) (q : Int) (w : World) (hq : 0 ≤ q) (hq2 : q ≤ 1048576) (hf : f.body.size ≤ 9223372036854775807) :
    Calls Try.prog 57 #[frA f, .int .i64 q] w fun e w' => (∃ r : Int, e = .returned (.int .i64 r) ∧ r ≤ 1048576 ∧ -1 ≤ r) ∧ Below w.heap.size w w' := by
  unfold frA
  by_cases h : q - f.body.size < 0
  · go_enter Try.func57, Try.ntmps57
    go_wp2
    go_ret
    exact ⟨⟨_, rfl, by omega, by omega⟩, (Below.refl _ _).alloc (Nat.le_refl _) _⟩
  · go_enter Try.func57, Try.ntmps57
    go_wp2
    go_ret
    exact ⟨⟨_, rfl, by omega, by omega⟩, (Below.refl _ _).alloc (Nat.le_refl _) _⟩
/-- Every body of the list is a string. -/
def FrSz (l : List Fr) : Prop := ∀ f ∈ l, f.body.size ≤ 9223372036854775807
theorem FrSz.getD {l : List Fr} (h : FrSz l) {k : Nat} (hk : k < l.length) : (l.getD k fr0).body.size ≤ 9223372036854775807 := by
  rw [List.getD_eq_getElem?_getD, List.getElem?_eq_getElem hk]; exact h _ (List.getElem_mem hk)
set_option maxRecDepth 100000 in
set_option maxHeartbeats 400000 in
theorem szFrS_any (A : Option Addr) (l : List Fr) (c : Nat) (w : World) (hl : l.length ≤ 9223372036854775807) (hA : Rws w w.heap.size A (l.flatMap frC)) (hz : FrSz l) :
    Calls Try.prog 31 #[.slice A l.length c, .int .i64 1048576] w fun e w' => (∃ r : Int, e = .returned (.int .i64 r) ∧ (0 ≤ r → l.length ≤ 1048576)) ∧ Below w.heap.size w w' := by
  by_cases hbig : 1048576 < l.length
  · have h0 : (1048576 : Int) - l.length < 0 := by omega
    go_enter Try.func31, Try.ntmps31
    go_wp2
    go_ret
    exact ⟨⟨_, rfl, fun h => by omega⟩, Below.refl _ _⟩
  · have h0 : ¬ (1048576 : Int) - l.length < 0 := by omega
    go_enter Try.func31, Try.ntmps31
    go_wp2
    go_loopw [1, 5] (fun q i wr => ∃ (k : Nat) (z : Int), k ≤ l.length ∧ i = .int .i64 k ∧ q = .int .i64 z ∧ 0 ≤ z ∧ z ≤ 1048576 ∧ Below w.heap.size w wr) (fun _ i _ => l.length - (intOf i).toNat)
    case atStart => exact ⟨0, _, by omega, rfl, rfl, by omega, by omega, Below.refl _ _⟩
    case round =>
      obtain ⟨k, z, hk, rfl, rfl, hz1, hz2, hb⟩ := hrel
      by_cases hlt : k < l.length
      · obtain ⟨b, off, rfl, hbB, c0, c1, c2⟩ := (hA.below hb).fr hlt
        have C := Lib.hid (fun w => szFrame_any (l.getD k fr0) z w hz1 hz2 (hz.getD hlt))
        unfold frA at C
        generalize l.getD k fr0 = x at *
        go_wp2_with fail
        refine (C.out _).mono ?_
        rintro e w1 ⟨⟨r, rfl, hr1, hr2⟩, b1⟩
        have b2 : Hid (Below w.heap.size w w1) := hb.trans (b1.mono hb.size)
        clear b1 hb c0 c1 c2
        by_cases hr : r < 0
        · go_wp2
          go_ret
          exact ⟨⟨_, rfl, fun h => by omega⟩, b2.out⟩
        · go_wp2
          go_roundw
          case rel => exact ⟨k + 1, r, by omega, by go_num, rfl, by omega, by omega, b2.out⟩
          case measure => simp [intOf]; omega
      · go_wp2
        go_ret
        exact ⟨⟨_, rfl, fun h => by omega⟩, hb⟩
set_option maxRecDepth 100000 in
set_option maxHeartbeats 400000 in
theorem toFrame_any (f : Fr) (w : World) : Calls Try.prog 58 #[frA f] w fun e w' => e = .returned (frA f) ∧ Below w.heap.size w w' := by
  unfold frA
  go_enter Try.func58, Try.ntmps58
  go_wp2
  simp [bodyPost, results, Try.results58, go_sem]
  exact (((Below.refl _ _).alloc (Nat.le_refl _) _).alloc (by simp) _).alloc (by simp; omega) _
/-- toFrameS halfway: k frames are copied over the cells Z. -/
def halfF (Z : List Value) (l : List Fr) (k : Nat) : List Value := (l.take k).flatMap frC ++ Z.drop (k * 3)
theorem halfF_zero (Z : List Value) (l : List Fr) : halfF Z l 0 = Z := by simp [halfF]
theorem halfF_all (Z : List Value) (l : List Fr) (hZ : Z.length = l.length * 3) : halfF Z l l.length = l.flatMap frC := by
  unfold halfF; rw [List.take_length, List.drop_of_length_le (by omega), List.append_nil]
theorem halfF_len (Z : List Value) (l : List Fr) (k : Nat) (hZ : Z.length = l.length * 3) (hk : k ≤ l.length) : (halfF Z l k).length = l.length * 3 := by
  unfold halfF
  rw [List.length_append, flat_len frC 3 frC_len, List.length_take, List.length_drop, hZ, Nat.min_eq_left hk]; omega
theorem halfF_set (Z : List Value) (l : List Fr) (k : Nat) (hZ : Z.length = l.length * 3) (hk : k < l.length) :
    (((halfF Z l k).set (k * 3) (.int .i64 (l.getD k fr0).seq)).set (k * 3 + 1) (.string (l.getD k fr0).body)).set (k * 3 + 2) (.int .i64 (l.getD k fr0).next) = halfF Z l (k + 1) := by
  have hlen : ((l.take k).flatMap frC).length = k * 3 := by rw [flat_len frC 3 frC_len, List.length_take, Nat.min_eq_left (by omega)]
  obtain ⟨x0, x1, x2, r, hd⟩ : ∃ x0 x1 x2 r, Z.drop (k * 3) = x0 :: x1 :: x2 :: r := by
    have : 3 ≤ (Z.drop (k * 3)).length := by rw [List.length_drop, hZ]; omega
    match h : Z.drop (k * 3), this with
    | x0 :: x1 :: x2 :: r, _ => exact ⟨x0, x1, x2, r, rfl⟩
  have hd3 : Z.drop ((k + 1) * 3) = r := by
    rw [show (k + 1) * 3 = 3 + k * 3 by omega, Nat.add_comm, ← List.drop_drop, hd]; rfl
  unfold halfF
  rw [hd, hd3, take_snoc l k fr0 hk, List.flatMap_append, List.append_assoc]
  rw [List.set_append_right _ _ (by omega), hlen, Nat.sub_self, List.set_cons_zero]
  rw [List.set_append_right _ _ (by omega), hlen, show k * 3 + 1 - k * 3 = 1 by omega]
  rw [List.set_append_right _ _ (by omega), hlen, show k * 3 + 2 - k * 3 = 2 by omega]
  rfl
set_option maxRecDepth 100000 in
set_option maxHeartbeats 800000 in
theorem toFrS_any (A : Option Addr) (l : List Fr) (c : Nat) (w : World) (hl : l.length ≤ 2097152) (hA : Rws w w.heap.size A (l.flatMap frC)) :
    Calls Try.prog 33 #[.slice A l.length c] w (NewR 38 3 w l.length (l.flatMap frC)) := by
  obtain ⟨i0, hi, hz0, hz1, hz2⟩ := info_parts infoFr
  obtain ⟨w1, hmk, o1, g1⟩ := run_make_full (P := Try.prog) w w.heap.size 33 38 i0 _ 3 Try.underlying33 hi hz0 hz1 .i64 .i64 l.length (by rw [hz2]; omega) (by unfold maxLen; omega) (Nat.le_refl _)
  have b1 : Below w.heap.size w w1 := (Below.refl _ _).grown g1 (Nat.le_refl _) (fun k hk => by cases hk)
  have hZ := o1.1
  generalize hZe : (madeCells (Value.agg #[.int .i64 0, .string ⟨#[]⟩, .int .i64 0]).cells (l.length * 3)).toList = Z at *
  clear hi hz0 hz1 hz2 g1 hZe
  go_enter Try.func33, Try.ntmps33
  go_wp2
  go_loopw [4] (fun i wr => ∃ k : Nat, k ≤ l.length ∧ i = .int .i64 k ∧ wr.ownsRow w.heap.size 38 3 (.slice (some ⟨w.heap.size, 0, none⟩) l.length l.length) l.length (halfF Z l k) ∧ Below w.heap.size w wr) (fun i _ => l.length - (intOf i).toNat)
  case atStart => exact ⟨0, by omega, rfl, by rw [halfF_zero]; exact o1, b1⟩
  case round =>
    clear hmk o1 b1
    obtain ⟨k, hk, rfl, hown, hb⟩ := hrel
    by_cases hlt : k < l.length
    · obtain ⟨b, off, rfl, hbB, c0, c1, c2⟩ := (hA.below hb).fr hlt
      have HS := Lib.hid (halfF_set Z l k hZ hlt)
      have hln := halfF_len Z l k hZ hk
      have C := Lib.hid (fun w => toFrame_any (l.getD k fr0) w)
      unfold frA at C
      generalize hx : l.getD k fr0 = x at *
      clear hx
      generalize hcs : halfF Z l k = cs at *
      clear hcs
      have HO := Lib.hid hown
      clear hown
      go_wp2_with fail
      refine (C.out _).mono ?_
      rintro e w2 ⟨rfl, b2⟩
      have own1 := own_below HO.out b2
      have b3 : Below w.heap.size w w2 := hb.trans (b2.mono hb.size)
      obtain ⟨u0, hu0⟩ : ∃ u, w2.cell? ⟨w.heap.size, k * 3, none⟩ = some u := by rw [own1.cellAt _ (by omega)]; exact ⟨_, List.getElem?_eq_getElem (by omega)⟩
      obtain ⟨u1, hu1⟩ : ∃ u, w2.cell? ⟨w.heap.size, k * 3 + 1, none⟩ = some u := by rw [own1.cellAt _ (by omega)]; exact ⟨_, List.getElem?_eq_getElem (by omega)⟩
      obtain ⟨u2, hu2⟩ : ∃ u, w2.cell? ⟨w.heap.size, k * 3 + 2, none⟩ = some u := by rw [own1.cellAt _ (by omega)]; exact ⟨_, List.getElem?_eq_getElem (by omega)⟩
      have hf0 := own1.frozenAt (k * 3)
      have hf1 := own1.frozenAt (k * 3 + 1)
      have hf2 := own1.frozenAt (k * 3 + 2)
      have S1 := own1.stored (k * 3) (.int .i64 x.seq)
      have S2 := S1.1.stored (k * 3 + 1) (.string x.body)
      have S3 := Lib.hid (S2.1.stored (k * 3 + 2) (.int .i64 x.next))
      have B3 := Lib.hid (((b3.setCell (p := ⟨w.heap.size, k * 3, none⟩) (by simp) (.int .i64 x.seq)).setCell (p := ⟨w.heap.size, k * 3 + 1, none⟩) (by simp) (.string x.body)).setCell (p := ⟨w.heap.size, k * 3 + 2, none⟩) (by simp) (.int .i64 x.next))
      clear S1 S2 own1 b2 b3 hb
      go_wp2
      go_roundw
      case rel => exact ⟨k + 1, by omega, by go_num, by rw [← HS.out]; exact S3.out.1, B3.out⟩
      case measure => simp [intOf]; omega
    · obtain rfl : k = l.length := by omega
      rw [halfF_all Z l hZ] at hown
      have R := Lib.hid (NewR.of_own hown hb)
      clear hown hb
      go_wp2
      go_ret
      exact R.out
/-- What is owned from B on stays where a row below B is written. -/
theorem own_apart {w w' : World} {e sz n B : Nat} {v : Value} {cs : List Value} {row : Option Nat} (h : w.ownsRow B e sz v n cs) (g : w.grownBy w' row) (hr : ∀ k, row = some k → k < B) : w'.ownsRow B e sz v n cs := by
  refine h.kept g ?_
  rcases hv : v.ownBlock with _ | k
  · exact .inl rfl
  · refine .inr fun e => ?_
    have h1 := (World.ownsRow.lt h k hv).1
    have h2 := hr k e.symm
    omega
theorem own_block_lt {w : World} {base e sz n : Nat} {v : Value} {cs : List Value} (h : w.ownsRow base e sz v n cs) : ∀ k, v.ownBlock = some k → k < w.heap.size := fun k hk => (World.ownsRow.lt h k hk).2
set_option maxRecDepth 100000 in
set_option maxHeartbeats 1600000 in
theorem FnExactAfter_walk (A : Option Addr) (l : List Fr) (c : Nat) (seq : Int) (w : World) (hl : l.length ≤ 9223372036854775807) (hA : Rws w w.heap.size A (l.flatMap frC)) (hwf : FrWf l) (hsz : FrSz l) (h1 : -9223372036854775808 ≤ seq) (h2 : seq ≤ 9223372036854775807) :
    Calls Try.prog 10 #[.slice A l.length c, .int .i64 seq] w fun e w' => e = .returned (.bool true) ∧ Below w.heap.size w w' := by
  have CS := Lib.hid (szFrS_any A l c w hl hA hsz)
  by_cases hbig : 1048576 < l.length
  · go_enter Try.func10, Try.ntmps10
    go_wp2_with fail
    refine CS.out.mono ?_
    rintro e w1 ⟨⟨r, rfl, hr⟩, b1⟩
    have hr0 : r < 0 := by
      rcases Int.lt_or_le r 0 with h | h
      · exact h
      · have := hr h; omega
    clear hr
    go_wp2
    go_ret
    exact ⟨rfl, b1⟩
  have hle : l.length ≤ 2097152 := by omega
  have CT := Lib.hid (fun A c w h => toFrS_any A l c w hle h)
  have CI := Lib.hid (fun A c w h => after_impl A l c seq w hle h hwf h1 h2)
  have CP := Lib.hid (fun A c w h => after_spec A l c seq w hle h hwf h1 h2)
  have hal := afterOf_len l seq
  generalize afterOf l seq = a at *
  have hale : a.length ≤ 2097152 := by omega
  have hq1 : decide (((1 + a.length * 3 : Nat) : Int) < 0) = false := by simp; omega
  have hq2 : (((1 + a.length * 3 : Nat) : Int) != ((1 + a.length * 3 : Nat) : Int)) = false := by simp
  have hq3 : decide (((1 + l.length * 3 : Nat) : Int) < 0) = false := by simp; omega
  generalize hqq : 1 + a.length * 3 = qq at hq1 hq2
  generalize hqr : 1 + l.length * 3 = qr at hq3
  have HQ := Lib.hid hqq
  have HQR := Lib.hid hqr
  clear hqq hqr
  go_enter Try.func10, Try.ntmps10
  go_wp2_with fail
  refine CS.out.mono ?_
  rintro e w1 ⟨⟨r, rfl, hr⟩, b1⟩
  clear hr
  by_cases hr : r < 0
  · go_wp2
    go_ret
    exact ⟨rfl, b1⟩
  go_wp2_with fail
  refine (CT.out A c _ ((hA.below b1).more b1.size)).mono ?_
  rintro e w2 ⟨X, x, rfl, ox, b2⟩
  have B2 : Below w.heap.size w w2 := b1.trans (b2.mono b1.size)
  go_wp2_with fail
  refine (CP.out X x _ (own_rws ox)).mono ?_
  rintro e w3 ⟨W, y, rfl, ow, b3⟩
  have B3 : Below w.heap.size w w3 := B2.trans (b3.mono B2.size)
  clear ox b2 b3
  go_wp2_with fail
  refine (CT.out A c _ ((hA.below B3).more B3.size)).mono ?_
  rintro e w4 ⟨X0, x0, rfl, o0, b4⟩
  have B4 : Below w.heap.size w w4 := B3.trans (b4.mono B3.size)
  go_wp2_with fail
  refine (CI.out X0 x0 _ (own_rws o0)).mono ?_
  rintro e w5 ⟨G, g, rfl, og, b5⟩
  have B5 : Below w.heap.size w w5 := B4.trans (b5.mono B4.size)
  have ow5 := own_below (own_below ow b4) b5
  have o05 := own_below o0 b5
  go_wp2_with fail
  refine (eqFrS_same G W a g y _ hale (own_rws og) (own_rws ow5)).mono ?_
  rintro e w6 ⟨rfl, b6⟩
  have B6 : Below w.heap.size w w6 := B5.trans (b6.mono B5.size)
  go_wp2_with fail
  refine (CT.out A c _ ((hA.below B6).more B6.size)).mono ?_
  rintro e w7 ⟨Y, yy, rfl, oy, b7⟩
  have B7 : Below w.heap.size w w7 := B6.trans (b7.mono B6.size)
  have o07 := own_below (own_below o05 b6) b7
  go_wp2_with fail
  refine (eqFrS_same X0 Y l x0 yy _ hle (own_rws o07) (own_rws oy)).mono ?_
  rintro e w8 ⟨rfl, b8⟩
  have B8 : Below w.heap.size w w8 := B7.trans (b8.mono B7.size)
  have o08 := own_below o07 b8
  have og8 := own_below (own_below (own_below og b6) b7) b8
  have ow8 := own_below (own_below (own_below ow5 b6) b7) b8
  clear oy o05 ow5 o07 b6 b7 b8
  have hX := own_block_lt o0
  go_wp2_with fail
  refine (markFrS_any X0 l 1 x0 _ _ hle (by omega) o08).mono ?_
  rintro e w9 ⟨rfl, o09, g9⟩
  rw [HQR.out]
  have B9 : Below w.heap.size w w9 := B8.grown g9 B8.size (fun k hk => Nat.le_trans B3.size (own_low o08 k hk))
  have og9 := own_apart og8 g9 hX
  have ow9 : w9.ownsRow w2.heap.size 38 3 (.slice W a.length y) a.length (a.flatMap frC) := ow8.kept g9 (by
    rcases hv : Value.ownBlock (.slice W a.length y) with _ | k
    · exact .inl rfl
    · refine .inr fun e => ?_
      have h1 := own_block_lt ow k hv
      have h2 := own_low o08 k e.symm
      omega)
  clear og8 ow8 o08 o09 g9
  go_wp2_with fail
  refine (eqFrS_same G W a g y _ hale (own_rws og9) (own_rws ow9)).mono ?_
  rintro e w10 ⟨rfl, b10⟩
  have B10 : Below w.heap.size w w10 := B9.trans (b10.mono B9.size)
  have og10 := own_below og9 b10
  have ow10 := own_below ow9 b10
  clear og9 ow9 b10
  go_wp2_with fail
  refine (markFrS_any G a 1 g _ _ hale (by omega) og10).mono ?_
  rintro e w11 ⟨rfl, og11, g11⟩
  rw [HQ.out]
  have B11 : Below w.heap.size w w11 := B10.grown g11 B10.size (fun k hk => Nat.le_trans B4.size (own_low og10 k hk))
  have ow11 : w11.ownsRow w2.heap.size 38 3 (.slice W a.length y) a.length (a.flatMap frC) := ow10.kept g11 (by
    rcases hv : Value.ownBlock (.slice W a.length y) with _ | k
    · exact .inl rfl
    · refine .inr fun e => ?_
      have h1 := own_block_lt ow k hv
      have h2 := own_low og10 k e.symm
      have h3 := b4.size
      omega)
  clear ow10 og10 g11
  go_wp2_with fail
  refine (heldFrS_any G 1 a.length g _ hale (by omega) (own_rws og11)).mono ?_
  rintro e w12 ⟨rfl, b12⟩
  rw [HQ.out]
  have B12 : Below w.heap.size w w12 := B11.trans (b12.mono B11.size)
  have og12 := own_below og11 b12
  have ow12 := own_below ow11 b12
  clear og11 ow11 b12
  go_wp2_with fail
  refine (CT.out A c _ ((hA.below B12).more B12.size)).mono ?_
  rintro e w13 ⟨Z, z, rfl, oz, b13⟩
  have B13 : Below w.heap.size w w13 := B12.trans (b13.mono B12.size)
  go_wp2_with fail
  refine (CI.out Z z _ (own_rws oz)).mono ?_
  rintro e w14 ⟨V, v, rfl, ov, b14⟩
  have B14 : Below w.heap.size w w14 := B13.trans (b14.mono B13.size)
  have ow14 := own_below (own_below ow12 b13) b14
  have og14 := own_below (own_below og12 b13) b14
  clear ow12 og12 b13 b14 oz
  go_wp2_with fail
  refine (eqFrS_same V W a v y _ hale (own_rws ov) (own_rws ow14)).mono ?_
  rintro e w15 ⟨rfl, b15⟩
  have B15 : Below w.heap.size w w15 := B14.trans (b15.mono B14.size)
  have og15 := own_below og14 b15
  go_wp2_with fail
  refine (heldFrS_any G 1 a.length g _ hale (by omega) (own_rws og15)).mono ?_
  rintro e w16 ⟨rfl, b16⟩
  rw [HQ.out]
  have B16 : Below w.heap.size w w16 := B15.trans (b16.mono B15.size)
  clear og14 og15 b15 b16 ow14 ov
  go_wp2
  go_ret
  exact ⟨rfl, B16⟩
theorem Cur.grown {w w' : World} {g : Nat} {A : Option Addr} {l : List Nat} {c : Nat} {row : Option Nat} (h : Cur w g A l c) (gr : w.grownBy w' row) (hr : ∀ k, row = some k → g < k) : Cur w' g A l c :=
  h.below (B := g + 1) ((Below.refl _ _).grown gr (by have := h.lt; omega) (fun k hk => hr k hk)) (by omega)
theorem Cur.alloc {w : World} {g : Nat} {A : Option Addr} {l : List Nat} {c : Nat} (h : Cur w g A l c) (o : Obj) : Cur (w.alloc o) g A l c := h.grown (World.grownBy_alloc w o none) (fun k hk => by cases hk)
theorem Cur.mem {w w' : World} {g : Nat} {A : Option Addr} {l : List Nat} {c : Nat} (h : Cur w g A l c) (b : Below w.heap.size w w') : Cur w' g A l c := h.below b h.lt
/-- Behind the cursor's own writes what is owned above it stays. -/
theorem own_cur {w w' : World} {e sz n B g : Nat} {v : Value} {cs : List Value} (h : w.ownsRow B e sz v n cs) (gr : w.grownBy w' (some g)) (hg : g < B) : w'.ownsRow B e sz v n cs := by
  refine h.kept gr ?_
  rcases hv : v.ownBlock with _ | k
  · exact .inl rfl
  · refine .inr fun e => ?_
    have h1 := (World.ownsRow.lt h k hv).1
    injection e with e
    omega
theorem grown_step {a b c : World} {g : Nat} {row : Option Nat} (h : a.grownBy b (some g)) (k : b.grownBy c row) (hr : ∀ j, row = some j → a.heap.size ≤ j) : a.grownBy c (some g) :=
  h.andThen k (fun j hj => .inl (hr j hj))
theorem grown_below {a b c : World} {g : Nat} (h : a.grownBy b (some g)) (k : Below b.heap.size b c) : a.grownBy c (some g) := h.trans (grown_of_below k _)
theorem below_grown {w w' : World} {g B : Nat} (h : w.grownBy w' (some g)) (hB : B ≤ g) (hs : B ≤ w.heap.size) : Below B w w' := (Below.refl _ _).grown h hs (fun k hk => by injection hk with hk; omega)
def GotBool (w : World) (g : Nat) (A : Option Addr) (l : List Nat) (c : Nat) (e : Ending) (w' : World) : Prop :=
  ∃ b : Bool, e = .returned (.bool b) ∧ Cur w' g A l c ∧ w.grownBy w' (some g)
set_option maxRecDepth 100000 in
theorem l1Once_any (A : Option Addr) (l : List Nat) (c g n : Nat) (w : World) (hl : l.length ≤ 2097152) (hb : AllB l) (hn : 0 < n) (hn2 : n ≤ 2147483648) (hc : Cur w g A l c) :
    Calls Try.prog 38 #[.pointer (some ⟨g, 0, none⟩), .int .i64 n] w (GotBool w g A l c) := by
  go_enter Try.func38, Try.ntmps38
  go_wp2_with fail
  refine (l1Below_any A l c g n _ hl hb hn hn2 hc).mono ?_
  rintro e w1 ⟨x, hx, rfl, hc1, gr1⟩
  go_wp2
  go_ret
  exact ⟨_, rfl, hc1, gr1⟩
def GotBytes (w : World) (g : Nat) (A : Option Addr) (l : List Nat) (c n : Nat) (e : Ending) (w' : World) : Prop :=
  ∃ (bs : List Nat) (B : Option Addr) (cb : Nat), bs.length = n ∧ AllB bs ∧ e = .returned (.slice B n cb) ∧ OwnB w' w.heap.size (.slice B n cb) bs ∧ Cur w' g A l c ∧ w.grownBy w' (some g)
set_option maxRecDepth 100000 in
set_option maxHeartbeats 400000 in
theorem l1Bytes_any (A : Option Addr) (l : List Nat) (c g n : Nat) (w : World) (hl : l.length ≤ 2097152) (hb : AllB l) (hn : n ≤ 2097152) (hc : Cur w g A l c) :
    Calls Try.prog 72 #[.pointer (some ⟨g, 0, none⟩), .int .i64 n] w (GotBytes w g A l c n) := by
  have hgw := hc.lt
  go_enter Try.func72, Try.ntmps72
  go_wp2
  go_loopw [5, 6] (fun v i wr => ∃ (k : Nat) (bs : List Nat), k ≤ n ∧ i = .int .i64 k ∧ bs.length = k ∧ AllB bs ∧ OwnB wr w.heap.size v bs ∧ Cur wr g A l c ∧ w.grownBy wr (some g)) (fun _ i _ => n - (intOf i).toNat)
  case atStart => exact ⟨0, [], by omega, rfl, rfl, (fun b hb => by cases hb), Own_new w _ [] (Nat.le_refl _) (by simp), hc.alloc _, World.grownBy_alloc _ _ _⟩
  case round =>
    obtain ⟨k, bs, hk, rfl, hbl, hba, hown, hcr, hgr⟩ := hrel
    have hgs := hgr.size
    by_cases hlt : k < n
    · go_wp2_with fail
      refine (l1Byte_any A l c g _ hl hb hcr).mono ?_
      rintro e w1 ⟨x, hx, rfl, hc1, gr1⟩
      have own1 : OwnB w1 w.heap.size u5 bs := own_cur hown gr1 hgw
      have hg1 := hgr.trans gr1
      have hs1 := hg1.size
      clear hown hcr hgr gr1
      go_wp2_with (at_builtin; refine wpList_appB _ rfl (.tmp 13) (.tmp 17) rfl w.heap.size _ bs rfl (own_alloc own1 _) w1.heap.size 0 1 [x] 1 rfl rfl (one_new _ _ _ rfl) (by simp; omega) (by simp; omega) ?_)
      intro v' w2 o2 g2 _
      have hr2 : ∀ j, Value.ownBlock u5 = some j → w.heap.size ≤ j := own_lo own1
      have R : Hid (AllB (bs ++ [x]) ∧ Cur w2 g A l c ∧ w.grownBy w2 (some g)) :=
        ⟨AllB.append hba (fun b hb => by simp at hb; omega), (hc1.alloc _).grown g2 (fun j hj => by have := hr2 j hj; omega), grown_step (grown_step hg1 (World.grownBy_alloc _ _ none) (fun j hj => by cases hj)) g2 hr2⟩
      clear own1 g2 hc1 hg1
      go_wp2
      go_roundw
      case rel => exact ⟨k + 1, bs ++ [x], by omega, by go_num, by simp; omega, R.out.1, o2, R.out.2.1, R.out.2.2⟩
      case measure => simp [intOf]; omega
    · obtain rfl : k = n := by omega
      obtain ⟨B, cb, hv, _, _⟩ := OwnB.form hown
      rw [hbl] at hv
      have R : Hid (GotBytes w g A l c k (.returned u5) wr) := ⟨bs, B, cb, hbl, hba, by rw [hv], by rw [← hv]; exact hown, hcr, hgr⟩
      clear hown hcr hgr hv
      go_wp2
      go_ret
      exact R.out
/-- One of those that may come up yields v. -/
theorem ready_op {P : Program} {md : Region.Mode} {ops : Array Oper} {Q : Exit → Act → World → Prop} {S : World → Prop} {fuel : Nat} {listed : Array Bool} {a : Act} {w w' : World} (i d : Nat) (v : Value) {oi : Oper} {rs : List Nat}
    (hi : ops[i]? = some oi) (hd : oi.dst = some d) (hw : Region.wanted oi (yielded ops a.tmps) = true)
    (he : (execOp a.eval oi).run P w = .ok (.value v) w') (hS : S w')
    (h : wpAnyH P md ops Q S fuel (listed.setIfInBounds i true) (a.put (some d) v) w') (hrs : AllReadyH P md ops Q S fuel listed a w rs) : AllReadyH P md ops Q S fuel listed a w (i :: rs) := by
  refine AllReadyH.cons hi (fun K hK => ?_) hrs
  rw [if_pos hw]
  unfold Oper.wp
  rw [he, Oper.upon_value, hd]
  exact hK.out _ _ hS (fun _ => h)
/-- One of those that may come up is a call. -/
theorem ready_call {P : Program} {md : Region.Mode} {ops : Array Oper} {Q : Exit → Act → World → Prop} {S : World → Prop} {fuel : Nat} {listed : Array Bool} {a : Act} {w : World} (i d : Nat) (f : FuncId) (args : Array Value) {oi : Oper} {rs : List Nat}
    (hi : ops[i]? = some oi) (hd : oi.dst = some d) (hw : Region.wanted oi (yielded ops a.tmps) = true)
    (he : (execOp a.eval oi).run P w = .ok (.enter f args) w)
    (h : Calls P f args w fun e w' => ∃ v, e = .returned v ∧ S w' ∧ wpAnyH P md ops Q S fuel (listed.setIfInBounds i true) (a.put (some d) v) w') (hrs : AllReadyH P md ops Q S fuel listed a w rs) : AllReadyH P md ops Q S fuel listed a w (i :: rs) := by
  refine AllReadyH.cons hi (fun K hK => ?_) hrs
  rw [if_pos hw]
  unfold Oper.wp
  rw [he, Oper.upon_enter]
  refine h.mono ?_
  rintro e w' ⟨v, rfl, hS, hh⟩
  rw [hd]
  exact hK.out _ _ hS (fun _ => hh)
/-- The one operation that may come up stores. -/
theorem held_store {P : Program} {md : Region.Mode} {ops : Array Oper} {Q : Exit → Act → World → Prop} {S : World → Prop} {fuel : Nat} {listed : Array Bool} {a : Act} {w w' : World} (i : Nat) {oi : Oper}
    (hi : ops[i]? = some oi) (hd : oi.dst = none) (hr : Region.ready md ops listed = [i]) (hw : Region.wanted oi (yielded ops a.tmps) = true)
    (he : (execOp a.eval oi).run P w = .ok .skip w') (hS : S w')
    (h : wpAnyH P md ops Q S fuel (listed.setIfInBounds i true) a w') : wpAnyH P md ops Q S (fuel + 1) listed a w := by
  refine wpAnyH_ready hr (by simp) (AllReadyH.cons hi (fun K hK => ?_) AllReadyH.nil)
  rw [if_pos hw]
  unfold Oper.wp
  rw [he, Oper.upon_skip, hd]
  exact hK.out _ _ hS (fun _ => h)
set_option maxRecDepth 100000 in
/-- []byte(s), with what a store into it wants. -/
theorem bytes_new (w : World) (s : ByteArray) : ∃ (c : Nat) (w' : World), (convert 9 22 (.string s)).run Try.prog w = .ok (.slice (some ⟨w.heap.size, 0, none⟩) s.size c) w' ∧
    (∀ k, k < (strN s).length → w'.cell? ⟨w.heap.size, 0 + k, none⟩ = some (.int .u8 (((strN s).getD k 0 : Nat) : Int))) ∧ (∀ k, k < s.size → w'.frozen? ⟨w.heap.size, k, none⟩ = false) ∧ s.size ≤ c ∧ w'.heap.size = w.heap.size + 1 ∧ Below w.heap.size w w' := by
  refine ⟨_, _, run_bytes_of_string (P := Try.prog) w 9 22 5 s Try.underlying9 Try.underlying22 Try.underlying5, row_cells w.drew s _ _, ?_, grownCap_ge _ _ _ _, by simp, ?_⟩
  · intro k hk
    have h1 : s.size ≤ (bytesRow s (grownCap w s.size 0 5)).size := by unfold bytesRow; simp
    have h2 := heap_alloc_new w.drew (.cells (bytesRow s (grownCap w s.size 0 5)) 5 ((bytesRow s (grownCap w s.size 0 5)).size, (bytesRow s (grownCap w s.size 0 5)).size + 1))
    unfold World.frozen?
    simp only
    rw [show w.heap.size = w.drew.heap.size from rfl, h2]
    simp only [Bool.and_eq_false_iff, decide_eq_false_iff_not]
    left
    omega
  · exact ((Below.refl _ _).drew).alloc (Nat.le_refl _) _
set_option maxRecDepth 100000 in
theorem exec_idxB {ρ : Operand → Value} {o : Oper} {x y : Operand} (b off n c k : Nat) (w : World) (h : k < n) (ho : o.op = .indexAddr 22 x y := by rfl) (hx : ρ x = .slice (some ⟨b, off, none⟩) n c := by rfl) (hy : ρ y = .int .i64 (k : Int) := by rfl) :
    (execOp ρ o).run Try.prog w = .ok (.value (.pointer (some ⟨b, off + k, none⟩))) w := by
  have h1 : (k : Int) < (n : Int) := by omega
  unfold execOp
  rw [ho]
  simp [go_sem, hx, hy, h]
set_option maxRecDepth 100000 in
theorem exec_load1 {ρ : Operand → Value} {o : Oper} {x : Operand} (t : TypeId) (b off : Nat) (v : Value) (w : World) (ht : t = 3 ∨ t = 4 ∨ t = 5 ∨ t = 9) (h : w.cell? ⟨b, off, none⟩ = some v) (ho : o.op = .load t x := by rfl) (hx : ρ x = .pointer (some ⟨b, off, none⟩) := by rfl) :
    (execOp ρ o).run Try.prog w = .ok (.value v) w := by
  unfold execOp
  rw [ho]
  rcases ht with rfl | rfl | rfl | rfl <;> simp [go_sem, hx, h]
set_option maxRecDepth 100000 in
theorem exec_u8 {ρ : Operand → Value} {o : Oper} {x : Operand} (z : Int) (w : World) (h1 : 0 ≤ z) (h2 : z < 256) (ho : o.op = .convert 3 5 x := by rfl) (hx : ρ x = .int .i64 z := by rfl) :
    (execOp ρ o).run Try.prog w = .ok (.value (.int .u8 z)) w := by
  unfold execOp
  rw [ho]
  have h3 : IntKind.u8.wrap z = z := by rw [IntKind.wrap_u8]; exact Int.emod_eq_of_lt h1 h2
  simp [go_sem, hx, h3]
set_option maxRecDepth 100000 in
theorem exec_xorU {ρ : Operand → Value} {o : Oper} {x y : Operand} (X Y : Int) (w : World) (ho : o.op = .binOp .xor 5 x y 5 := by rfl) (hx : ρ x = .int .u8 X := by rfl) (hy : ρ y = .int .u8 Y := by rfl) :
    (execOp ρ o).run Try.prog w = .ok (.value (.int .u8 (bits .xor .u8 X Y))) w := by
  unfold execOp
  rw [ho]
  simp [go_sem, hx, hy]
set_option maxRecDepth 100000 in
theorem exec_storeI {ρ : Operand → Value} {o : Oper} {x y : Operand} (t : TypeId) (b off : Nat) (k : IntKind) (z : Int) (u : Value) (w : World) (ht : t = 3 ∨ t = 5) (h : w.cell? ⟨b, off, none⟩ = some u) (hz : w.frozen? ⟨b, off, none⟩ = false) (ho : o.op = .store t x y := by rfl) (hx : ρ x = .pointer (some ⟨b, off, none⟩) := by rfl) (hy : ρ y = .int k z := by rfl) :
    (execOp ρ o).run Try.prog w = .ok .skip (w.setCell ⟨b, off, none⟩ (.int k z)) := by
  unfold execOp
  rw [ho]
  rcases ht with rfl | rfl <;> simp [go_sem, hx, hy, h, hz]
set_option maxRecDepth 100000 in
theorem exec_lssI {ρ : Operand → Value} {o : Oper} {x y : Operand} (X Y : Int) (d : Bool) (w : World) (hd : decide (X < Y) = d) (ho : o.op = .binOp .lss 3 x y 3 := by rfl) (hx : ρ x = .int .i64 X := by rfl) (hy : ρ y = .int .i64 Y := by rfl) :
    (execOp ρ o).run Try.prog w = .ok (.value (.bool d)) w := by
  subst hd
  unfold execOp
  rw [ho]
  simp [go_sem, hx, hy]
def GotStr (w : World) (g : Nat) (A : Option Addr) (l : List Nat) (c n : Nat) (e : Ending) (w' : World) : Prop :=
  ∃ s : ByteArray, s.size ≤ n ∧ e = .returned (.string s) ∧ Cur w' g A l c ∧ w.grownBy w' (some g)
theorem GotStr.more {w : World} {g : Nat} {A : Option Addr} {l : List Nat} {c n m : Nat} {e : Ending} {w' : World} (h : GotStr w g A l c n e w') (hm : n ≤ m) : GotStr w g A l c m e w' := by
  obtain ⟨s, hs, r⟩ := h; exact ⟨s, by omega, r⟩
set_option maxRecDepth 100000 in
/-- string(b) behind the store of one byte. -/
theorem spoil_conv (w : World) (b : Nat) (L : List Nat) (at_ nv n c : Nat) (hn : L.length = n) (hc : ∀ k, k < L.length → w.cell? ⟨b, k, none⟩ = some (.int .u8 ((L.getD k 0 : Nat) : Int))) :
    (convert 22 9 (.slice (some ⟨b, 0, none⟩) n c)).run Try.prog (w.setCell ⟨b, at_, none⟩ (.int .u8 (nv : Int))) = .ok (.string (strB (L.set at_ nv))) (w.setCell ⟨b, at_, none⟩ (.int .u8 (nv : Int))) := by
  refine conv_bytes _ b 0 n c (L.set at_ nv) (by rw [List.length_set]; exact hn) (fun k hk => ?_)
  rw [Nat.zero_add]
  rw [List.length_set] at hk
  by_cases he : k = at_
  · subst he
    rw [World.cell?_setCell_same _ _ _ (hc k hk)]
    simp [hk]
  · rw [World.cell?_setCell_other _ _ _ _ (by intro e; injection e with _ e2 _; exact he e2.symm), hc k hk]
    simp [List.getD_eq_getElem?_getD, List.getElem?_set_ne (Ne.symm he)]
set_option maxRecDepth 100000 in
theorem exec_idxB0 {ρ : Operand → Value} {o : Oper} {x y : Operand} (b n c k : Nat) (w : World) (h : k < n) (ho : o.op = .indexAddr 22 x y := by rfl) (hx : ρ x = .slice (some ⟨b, 0, none⟩) n c := by rfl) (hy : ρ y = .int .i64 (k : Int) := by rfl) :
    (execOp ρ o).run Try.prog w = .ok (.value (.pointer (some ⟨b, k, none⟩))) w := by
  have := exec_idxB b 0 n c k w h ho hx hy
  rw [Nat.zero_add] at this
  exact this
theorem spoil_got {w w1 w2 w3 : World} {g b off : Nat} {A : Option Addr} {l : List Nat} {c n : Nat} {v : Value} {S : ByteArray} (hcw : Cur w g A l c) (h1 : Below w.heap.size w w1) (g12 : w1.grownBy w2 (some g)) (g23 : w2.grownBy w3 (some g)) (hc : Cur w3 g A l c) (hS : S.size ≤ n) (hb : b = w.heap.size := by rfl) :
    GotStr w g A l c n (.returned (.string S)) (w3.setCell ⟨b, off, none⟩ v) := by
  have hlt := hcw.lt
  have gs : w3.grownBy (w3.setCell ⟨b, off, none⟩ v) (some b) := ⟨rfl, rfl, rfl, by simp [World.setCell], fun k _ hk => by
    unfold World.setCell
    simp
    rw [Array.getElem?_modify]
    rw [if_neg (by intro e; exact hk (by rw [← e]))]⟩
  refine ⟨S, hS, rfl, hc.grown gs (fun k hk => by injection hk with hk; omega), ?_⟩
  exact grown_step (((grown_of_below h1 _).trans g12).trans g23) gs (fun k hk => by injection hk with hk; omega)
set_option maxRecDepth 100000 in
set_option maxHeartbeats 800000 in
theorem l1Spoil_any (A : Option Addr) (l : List Nat) (c g : Nat) (s : ByteArray) (w : World) (hl : l.length ≤ 2097152) (hb : AllB l) (hs : s.size ≤ 2097152) (hcw : Cur w g A l c) :
    Calls Try.prog 73 #[.pointer (some ⟨g, 0, none⟩), .string s] w (GotStr w g A l c (s.size + 2)) := by
  by_cases h0 : s.size = 0
  · have he : s = ⟨#[]⟩ := by
      apply ByteArray.ext
      exact Array.eq_empty_of_size_eq_zero h0
    subst he
    go_enter Try.func73, Try.ntmps73
    go_wp2_with fail
    refine (l1Bytes_any A l c g 2 _ hl hb (by omega) hcw).mono ?_
    rintro e w1 ⟨bs, B, cb, hbl, hba, rfl, o1, hc1, gr1⟩
    have hcv := OwnB.conv o1 (by omega)
    have R : Hid (GotStr w g A l c ((⟨#[]⟩ : ByteArray).size + 2) (.returned (.string (strB bs))) w1) := ⟨_, by rw [strB_size]; omega, rfl, hc1, gr1⟩
    clear o1 hc1 gr1
    go_wp2
    go_ret
    exact R.out
  · have hne : s.toList.isEmpty = false := by
      rw [Bool.eq_false_iff]
      intro h
      rw [List.isEmpty_iff, ByteArray.toList_eq] at h
      exact h0 (by have := congrArg List.length h; simpa using this)
    have hlt := hcw.lt
    obtain ⟨cb, w1, hcv, cell1, frz1, hcb, hsz1, hcv0⟩ := bytes_new w s
    have hLs : (strN s).length = s.size := strN_length s
    have hLa := strN_all s
    generalize strN s = L at *
    have hc1 := hcw.mem hcv0
    go_enter Try.func73, Try.ntmps73
    go_wp2_with fail
    refine (l1Below_any A l c g s.size _ hl hb (by omega) (by omega) hc1).mono ?_
    rintro e w2 ⟨at_, hat, rfl, hc2, gr12⟩
    have cell : ∀ k, k < L.length → w2.cell? ⟨w.heap.size, k, none⟩ = some (.int .u8 ((L.getD k 0 : Nat) : Int)) := fun k hk => gr12.cell (by have := cell1 k hk; rw [Nat.zero_add] at this; exact this) (by simp; omega)
    have c0 := cell at_ (by omega)
    have f0 : w2.frozen? ⟨w.heap.size, at_, none⟩ = false := by
      rw [gr12.frozen_far ⟨w.heap.size, at_, none⟩ (by simp; omega) (by simp; omega)]; exact frz1 at_ hat
    have hv := hLa.getD at_
    have gs12 := gr12.size
    generalize hve : L.getD at_ 0 = v at *
    clear hve hcv cell1 frz1
    go_wp2
    refine wp_region_held_drew (S := fun _ => True) (by kernel_rfl) trivial (fun hHeld => ?_)
    refine held_take 0 18 (.slice (some ⟨w.heap.size, 0, none⟩) s.size cb) rfl rfl (by kernel_rfl) (by kernel_rfl) (by kernel_rfl) (fun _ _ _ h => h) rfl hHeld (fun w _ => rfl) ?_
    refine held_take 1 19 (.int .i64 (at_ : Int)) rfl rfl (by kernel_rfl) (by kernel_rfl) (by kernel_rfl) (fun _ _ _ h => h) rfl hHeld (fun w _ => rfl) ?_
    refine held_take 2 20 (.slice (some ⟨w.heap.size, 0, none⟩) s.size cb) rfl rfl (by kernel_rfl) (by kernel_rfl) (by kernel_rfl) (fun _ _ _ h => h) rfl hHeld (fun w _ => rfl) ?_
    simp only [Act.put, List.setIfInBounds_toArray, List.set_cons_zero, List.set_cons_succ]
    refine held_take 3 21 (.int .i64 (at_ : Int)) rfl rfl (by kernel_rfl) (by kernel_rfl) (by kernel_rfl) (fun _ _ _ h => h) rfl hHeld (fun w _ => rfl) ?_
    refine held_take 4 22 (.pointer (some ⟨w.heap.size, at_, none⟩)) rfl rfl (by kernel_rfl) (by kernel_rfl) (by kernel_rfl) (fun _ _ _ h => h) rfl hHeld (fun w _ => exec_idxB0 _ s.size cb at_ w hat) ?_
    simp only [Act.put, List.setIfInBounds_toArray, List.set_cons_zero, List.set_cons_succ]
    refine held_take 6 24 (.pointer (some ⟨g, 0, none⟩)) rfl rfl (by kernel_rfl) (by kernel_rfl) (by kernel_rfl) (fun _ _ _ h => h) rfl hHeld (fun w _ => rfl) ?_
    simp only [Act.put, List.setIfInBounds_toArray, List.set_cons_zero, List.set_cons_succ]
    refine wpAnyH_ready (rs := [5, 7]) (by kernel_rfl) (by simp) (ready_op 5 23 (.int .u8 (v : Int)) rfl rfl rfl (exec_load1 5 _ _ _ _ (by simp) c0) trivial ?_ (ready_call 7 25 36 #[.pointer (some ⟨g, 0, none⟩), .int .i64 255] rfl rfl rfl (exec_call Try.func36 (by kernel_rfl) (by kernel_rfl) _) ?_ AllReadyH.nil))
    · simp only [Act.put, List.setIfInBounds_toArray, List.set_cons_zero, List.set_cons_succ]
      refine held_call 7 25 36 #[.pointer (some ⟨g, 0, none⟩), .int .i64 255] rfl rfl (by kernel_rfl) rfl (exec_call Try.func36 (by kernel_rfl) (by kernel_rfl) _) ?_
      refine (l1Below_any A l c g 255 w2.drew hl hb (by omega) (by omega) hc2).mono ?_
      rintro e w3 ⟨x, hx, rfl, hc3, gr3'⟩
      have gr3 : w2.grownBy w3 (some g) := (grown_of_below (below_drawn (Below.refl w2.heap.size w2) 1) _).trans gr3'
      obtain ⟨nv, hnv⟩ : ∃ nv, nv = v ^^^ (1 + x) := ⟨_, rfl⟩
      have hnl : nv < 256 := by rw [hnv]; exact Nat.xor_lt_two_pow (n := 8) (by omega) (by omega)
      have hxor : bits .xor .u8 (v : Int) (1 + (x : Int)) = (nv : Int) := by rw [hnv]; exact u8_xor_nat v (1 + x) (by omega) (by omega)
      have d0 : w3.cell? ⟨w.heap.size, at_, none⟩ = some (.int .u8 (v : Int)) := gr3.cell c0 (by simp; omega)
      have z0 : w3.frozen? ⟨w.heap.size, at_, none⟩ = false := by rw [gr3.frozen_far ⟨w.heap.size, at_, none⟩ (by simp; omega) (by simp; omega)]; exact f0
      refine ⟨_, rfl, trivial, ?_⟩
      simp only [Act.put, List.setIfInBounds_toArray, List.set_cons_zero, List.set_cons_succ]
      refine held_op 8 26 (.int .i64 (1 + (x : Int))) rfl rfl (by kernel_rfl) rfl (exec_addI 1 x (1 + (x : Int)) w3 rfl (by omega) (by omega)) trivial ?_
      simp only [Act.put, List.setIfInBounds_toArray, List.set_cons_zero, List.set_cons_succ]
      refine held_op 9 27 (.int .u8 (1 + (x : Int))) rfl rfl (by kernel_rfl) rfl (exec_u8 (1 + (x : Int)) w3 (by omega) (by omega)) trivial ?_
      simp only [Act.put, List.setIfInBounds_toArray, List.set_cons_zero, List.set_cons_succ]
      refine held_op 10 28 (.int .u8 (nv : Int)) rfl rfl (by kernel_rfl) rfl (by rw [← hxor]; exact exec_xorU _ _ w3) trivial ?_
      simp only [Act.put, List.setIfInBounds_toArray, List.set_cons_zero, List.set_cons_succ]
      refine held_op 11 29 (.pointer (some ⟨w.heap.size, at_, none⟩)) rfl rfl (by kernel_rfl) rfl (exec_idxB0 _ s.size cb at_ w3 hat) trivial ?_
      simp only [Act.put, List.setIfInBounds_toArray, List.set_cons_zero, List.set_cons_succ]
      refine held_store 12 rfl rfl (by kernel_rfl) rfl (exec_storeI 5 _ _ .u8 nv _ w3 (by simp) d0 z0) trivial ?_
      refine wpAnyH_done (by kernel_rfl) ?_ _
      have hcv := spoil_conv w3 w.heap.size L at_ nv s.size cb hLs (fun k hk => gr3.cell (cell k hk) (by simp; omega))
      have R : Hid (GotStr w g A l c (s.size + 2) (.returned (.string (strB (L.set at_ nv)))) (w3.setCell ⟨w.heap.size, at_, none⟩ (.int .u8 (nv : Int)))) := spoil_got hcw hcv0 gr12 gr3 hc3 (by rw [strB_size, List.length_set]; omega)
      clear d0 z0 hxor gr3 gr3' hnv
      go_wp2
      go_ret
      exact R.out
    · refine (l1Below_any A l c g 255 w2.drew hl hb (by omega) (by omega) hc2).mono ?_
      rintro e w3 ⟨x, hx, rfl, hc3, gr3'⟩
      have gr3 : w2.grownBy w3 (some g) := (grown_of_below (below_drawn (Below.refl w2.heap.size w2) 1) _).trans gr3'
      obtain ⟨nv, hnv⟩ : ∃ nv, nv = v ^^^ (1 + x) := ⟨_, rfl⟩
      have hnl : nv < 256 := by rw [hnv]; exact Nat.xor_lt_two_pow (n := 8) (by omega) (by omega)
      have hxor : bits .xor .u8 (v : Int) (1 + (x : Int)) = (nv : Int) := by rw [hnv]; exact u8_xor_nat v (1 + x) (by omega) (by omega)
      have d0 : w3.cell? ⟨w.heap.size, at_, none⟩ = some (.int .u8 (v : Int)) := gr3.cell c0 (by simp; omega)
      have z0 : w3.frozen? ⟨w.heap.size, at_, none⟩ = false := by rw [gr3.frozen_far ⟨w.heap.size, at_, none⟩ (by simp; omega) (by simp; omega)]; exact f0
      refine ⟨_, rfl, trivial, ?_⟩
      simp only [Act.put, List.setIfInBounds_toArray, List.set_cons_zero, List.set_cons_succ]
      refine held_take 8 26 (.int .i64 (1 + (x : Int))) rfl rfl (by kernel_rfl) (by kernel_rfl) (by kernel_rfl) (fun _ _ _ h => h) rfl trivial (fun w _ => exec_addI 1 x (1 + (x : Int)) w rfl (by omega) (by omega)) ?_
      simp only [Act.put, List.setIfInBounds_toArray, List.set_cons_zero, List.set_cons_succ]
      refine held_take 9 27 (.int .u8 (1 + (x : Int))) rfl rfl (by kernel_rfl) (by kernel_rfl) (by kernel_rfl) (fun _ _ _ h => h) rfl trivial (fun w _ => exec_u8 (1 + (x : Int)) w (by omega) (by omega)) ?_
      simp only [Act.put, List.setIfInBounds_toArray, List.set_cons_zero, List.set_cons_succ]
      refine held_op 5 23 (.int .u8 (v : Int)) rfl rfl (by kernel_rfl) rfl (exec_load1 5 _ _ _ _ (by simp) d0) trivial ?_
      simp only [Act.put, List.setIfInBounds_toArray, List.set_cons_zero, List.set_cons_succ]
      refine held_op 10 28 (.int .u8 (nv : Int)) rfl rfl (by kernel_rfl) rfl (by rw [← hxor]; exact exec_xorU _ _ w3) trivial ?_
      simp only [Act.put, List.setIfInBounds_toArray, List.set_cons_zero, List.set_cons_succ]
      refine held_op 11 29 (.pointer (some ⟨w.heap.size, at_, none⟩)) rfl rfl (by kernel_rfl) rfl (exec_idxB0 _ s.size cb at_ w3 hat) trivial ?_
      simp only [Act.put, List.setIfInBounds_toArray, List.set_cons_zero, List.set_cons_succ]
      refine held_store 12 rfl rfl (by kernel_rfl) rfl (exec_storeI 5 _ _ .u8 nv _ w3 (by simp) d0 z0) trivial ?_
      refine wpAnyH_done (by kernel_rfl) ?_ _
      have hcv := spoil_conv w3 w.heap.size L at_ nv s.size cb hLs (fun k hk => gr3.cell (cell k hk) (by simp; omega))
      have R : Hid (GotStr w g A l c (s.size + 2) (.returned (.string (strB (L.set at_ nv)))) (w3.setCell ⟨w.heap.size, at_, none⟩ (.int .u8 (nv : Int)))) := spoil_got hcw hcv0 gr12 gr3 hc3 (by rw [strB_size, List.length_set]; omega)
      clear d0 z0 hxor gr3 gr3' hnv
      go_wp2
      go_ret
      exact R.out
theorem fOf_le (q : Int) (b : List Nat) : (fOf q b).length ≤ 68 := by
  unfold fOf
  split
  · rename_i h
    exact frameOf_le (by unfold FrOk; omega)
  · simp
theorem l2Log_go {w w1 : World} {g : Nat} {A : Option Addr} {l : List Nat} {c : Nat} {s : ByteArray} (hs : s.size ≤ 400) (hc : Cur w1 g A l c) (gr : w.grownBy w1 (some g)) : GotStr w g A l c 1000 (.returned (.string s)) w1 := ⟨s, by omega, rfl, hc, gr⟩
set_option maxRecDepth 100000 in
set_option maxHeartbeats 1600000 in
theorem l2Log_any (A : Option Addr) (l : List Nat) (c g : Nat) (w : World) (hl : l.length ≤ 2097152) (hb : AllB l) (hcw : Cur w g A l c) :
    Calls Try.prog 47 #[.pointer (some ⟨g, 0, none⟩)] w (GotStr w g A l c 1000) := by
  go_enter Try.func47, Try.ntmps47
  go_wp2_with fail
  refine (l1Below_any A l c g 5 _ hl hb (by omega) (by omega) hcw).mono ?_
  rintro e w1 ⟨n, hn, rfl, hc1, gr1⟩
  go_wp2_with fail
  refine (l1Below_any A l c g 4 _ hl hb (by omega) (by omega) hc1).mono ?_
  rintro e w2 ⟨q0, hq0, rfl, hc2, gr2'⟩
  have gr2 := gr1.trans gr2'
  clear gr1 gr2' hc1
  go_wp2
  go_loopw [3, 5, 6] (fun v q i wr => ∃ (k z : Nat) (S : ByteArray), k ≤ n ∧ i = .int .i64 k ∧ q = .int .i64 z ∧ 1 ≤ z ∧ z ≤ 10 + k ∧ v = .string S ∧ S.size ≤ 68 * k ∧ Cur wr g A l c ∧ w.grownBy wr (some g)) (fun _ _ i _ => n - (intOf i).toNat)
  case atStart => exact ⟨0, 1 + q0, _, by omega, rfl, by go_num, by omega, by omega, rfl, by show 0 ≤ 68 * 0; omega, hc2, gr2⟩
  case round =>
    obtain ⟨k, z, S, hk, rfl, rfl, hz1, hz2, rfl, hS, hcr, hgr⟩ := hrel
    by_cases hlt : k < n
    · go_wp2_with fail
      refine (l1Below_any A l c g 6 _ hl hb (by omega) (by omega) hcr).mono ?_
      rintro e w3 ⟨m, hm, rfl, hc3, gr3'⟩
      have gr3 := hgr.trans gr3'
      clear gr3' hgr hcr
      have CB : Hid (Calls Try.prog 72 #[.pointer (some ⟨g, 0, none⟩), .int .i64 (1 + (m : Int))] w3 (GotBytes w3 g A l c (1 + m))) := l1Bytes_any A l c g (1 + m) w3 hl hb (by omega) hc3
      go_wp2_with fail
      refine CB.out.mono ?_
      rintro e w4 ⟨bs, B, cb, hbl, hba, rfl, o4, hc4, gr4'⟩
      have gr4 := gr3.trans gr4'
      have hcv := OwnB.conv o4 (by omega)
      have hbs : (strB bs).size ≤ 6 := by rw [strB_size]; omega
      have CF := Lib.hid (fun w => frameOf_spec (z : Int) (strB bs) w (by omega))
      have hfs : (strB (fOf (z : Int) (strN (strB bs)))).size ≤ 68 := by rw [strB_size]; exact fOf_le _ _
      generalize strB (fOf (z : Int) (strN (strB bs))) = F at *
      generalize strB bs = T at *
      clear gr3 gr4' hc3 o4 CB
      go_wp2_with fail
      refine (CF.out _).mono ?_
      rintro e w5 ⟨rfl, b5⟩
      have gr5 := grown_below gr4 b5
      have hc5 := hc4.mem b5
      clear b5 gr4 hc4 hcv CF
      have hadd : S.size + F.size ≤ 9223372036854775807 := by omega
      have hSF : (S ++ F).size ≤ 68 * (k + 1) := by rw [ByteArray.size_append]; omega
      go_wp2_with fail
      refine (l1Once_any A l c g 8 _ hl hb (by omega) (by omega) hc5).mono ?_
      rintro e w6 ⟨t, rfl, hc6, gr6'⟩
      have gr6 := gr5.trans gr6'
      clear gr5 gr6' hc5
      cases t with
      | true =>
        go_wp2_with fail
        refine (l1Below_any A l c g 6 _ hl hb (by omega) (by omega) hc6).mono ?_
        rintro e w7 ⟨x, hx, rfl, hc7, gr7'⟩
        have gr7 := gr6.trans gr7'
        clear gr6 gr7' hc6
        go_wp2
        go_roundw
        case rel => exact ⟨k + 1, 1 + x, _, by omega, by go_num, by go_num, by omega, by omega, rfl, hSF, hc7, gr7⟩
        case measure => simp [intOf]; omega
      | false =>
        go_wp2
        go_roundw
        case rel => exact ⟨k + 1, z + 1, _, by omega, by go_num, by go_num, by omega, by omega, rfl, hSF, hc6, gr6⟩
        case measure => simp [intOf]; omega
    · have hS2 : S.size ≤ 400 := by omega
      go_wp2_with fail
      refine (l1Below_any A l c g 4 _ hl hb (by omega) (by omega) hcr).mono ?_
      rintro e w3 ⟨t, ht, rfl, hc3, gr3'⟩
      have gr3 := hgr.trans gr3'
      clear gr3' hgr hcr
      by_cases ht0 : t = 0
      · subst ht0
        have CB : Hid (Calls Try.prog 36 #[.pointer (some ⟨g, 0, none⟩), .int .i64 ((S.size : Int) + 1)] w3 (GotBelow w3 g A l c (S.size + 1))) := l1Below_any A l c g (S.size + 1) _ hl hb (by omega) (by omega) hc3
        go_wp2_with fail
        refine CB.out.mono ?_
        rintro e w4 ⟨x, hx, rfl, hc4, gr4'⟩
        have R : Hid (GotStr w g A l c 1000 (.returned (.string (S.extract 0 x))) w4) := l2Log_go (by rw [ByteArray.size_extract]; omega) hc4 (gr3.trans gr4')
        have hx2 : (x : Int) ≤ S.size := by omega
        clear gr3 gr4' hc4 hc3 CB
        go_wp2
        go_ret
        exact R.out
      · have hd0 : ((t : Int) == 0) = false := by simp; omega
        by_cases ht1 : t = 1
        · subst ht1
          go_wp2_with fail
          refine (l1Spoil_any A l c g S _ hl hb (by omega) hc3).mono ?_
          rintro e w4 ⟨S', hS', rfl, hc4, gr4'⟩
          have R : Hid (GotStr w g A l c 1000 (.returned (.string S')) w4) := ⟨S', by omega, rfl, hc4, gr3.trans gr4'⟩
          clear gr3 gr4' hc4 hc3
          go_wp2
          go_ret
          exact R.out
        · have hd1 : ((t : Int) == 1) = false := by simp; omega
          have R : Hid (GotStr w g A l c 1000 (.returned (.string S)) w3) := l2Log_go hS2 hc3 gr3
          clear gr3 hc3
          go_wp2
          go_ret
          exact R.out
theorem frsF_wf (n : Nat) (l : List Nat) (a : Nat) : ∀ f ∈ frsF n l a, 0 ≤ f.seq ∧ f.seq ≤ 1000000 := by
  induction n generalizing a with
  | zero => intro f hf; cases hf
  | succ n ih =>
    rcases h : fAt l (a : Int) with _ | ⟨seq, b, sz⟩
    · rw [frsF_none h]; intro f hf; cases hf
    · rw [frsF_some h]
      intro f hf
      rcases List.mem_cons.1 hf with rfl | hf
      · have := (fAt_some h).1.2.1
        exact ⟨by show (0 : Int) ≤ (seq : Int); omega, by show (seq : Int) ≤ 1000000; omega⟩
      · exact ih _ f hf
def GotAfter (w : World) (e : Ending) (w' : World) : Prop :=
  ∃ (fl : List Fr) (q : Int) (A : Option Addr) (c : Nat), fl.length ≤ 2097152 ∧ FrWf fl ∧ (-9223372036854775808 ≤ q ∧ q ≤ 9223372036854775807) ∧ e = .returned (.tuple #[.slice A fl.length c, .int .i64 q]) ∧ Rws w' w'.heap.size A (fl.flatMap frC) ∧ Below w.heap.size w w'
theorem FrWf.snoc {l : List Fr} (h : FrWf l) {f : Fr} (hf : -9223372036854775808 ≤ f.seq ∧ f.seq ≤ 9223372036854775807) : FrWf (l ++ [f]) := by
  intro x hx
  rcases List.mem_append.1 hx with hx | hx
  · exact h x hx
  · simp at hx; subst hx; exact hf
set_option maxRecDepth 100000 in
set_option maxHeartbeats 800000 in
theorem drawAfter_any (A : Option Addr) (l : List Nat) (c : Nat) (w : World) (hl : l.length ≤ 2097152) (hA : Bts w w.heap.size A l) (hb : AllB l) :
    Calls Try.prog 19 #[.slice A l.length c] w (GotAfter w) := by
  go_enter Try.func19, Try.ntmps19
  go_wp2_with fail
  refine (l1New_any A l c w hl hA hb).mono ?_
  rintro e w1 ⟨rfl, hc1, b1⟩
  obtain ⟨g, hg⟩ : ∃ g, g = w.heap.size := ⟨_, rfl⟩
  rw [← hg] at hc1
  rw [← hg]
  have hlt1 := hc1.lt
  have hgw : w.heap.size ≤ g := by omega
  have HG := Lib.hid hg
  clear hg
  go_wp2_with fail
  refine (l2Log_any A l c g _ hl hb hc1).mono ?_
  rintro e w2 ⟨S, hS, rfl, hc2, gr2⟩
  have b2 : Below w.heap.size w w2 := b1.grown gr2 (by omega) (fun k hk => by injection hk with hk; omega)
  clear b1 gr2 hc1
  go_wp2_with fail
  refine (frames_spec S _ (by omega)).mono ?_
  rintro e w3 ⟨F, cf, rfl, o3, b3⟩
  have hfl := framesOf_len (strN S)
  rw [strN_length] at hfl
  have hwf : FrWf (framesOf (strN S)) := fun f hf => by have := frsF_wf _ _ _ f hf; omega
  generalize framesOf (strN S) = fl at *
  have b23 : Below w.heap.size w w3 := b2.trans (b3.mono b2.size)
  have hc3 := hc2.mem b3
  have hlt2 := hc2.lt
  have hs23 := b3.size
  clear b2 b3 hc2
  go_wp2_with fail
  refine (l1Once_any A l c g 6 _ hl hb (by omega) (by omega) hc3).mono ?_
  rintro e w4 ⟨t, rfl, hc4, gr4⟩
  have o4 := own_cur o3 gr4 hlt2
  have b4 : Below w.heap.size w w4 := b23.grown gr4 b23.size (fun k hk => by injection hk with hk; omega)
  have hs4 := gr4.size
  clear o3 gr4 b23 hc3
  have hf8 : ∀ x ∈ ([0, 0, 1, 2, 3, 4, -9223372036854775808, 9223372036854775807] : List Int), -9223372036854775808 ≤ x ∧ x ≤ 9223372036854775807 := by decide
  have hf4 : ∀ x ∈ ([-9223372036854775808, 9223372036854775807, 0, 3] : List Int), -9223372036854775808 ≤ x ∧ x ≤ 9223372036854775807 := by decide
  have HF8 := Lib.hid hf8
  have HF4 := Lib.hid hf4
  clear hf8 hf4
  cases t with
  | true =>
    go_wp2_with fail
    refine (l1PickInt_any A l c g [-9223372036854775808, 9223372036854775807, 0, 3] w4.heap.size 4 4 _ hl hb (hc4.alloc _) rfl (by simp) (by simp) (by have := hc4.lt; omega) (ints_new w4 [-9223372036854775808, 9223372036854775807, 0, 3])).mono ?_
    rintro e w5 ⟨x, hx, rfl, hc5, gr5⟩
    have o5 := own_cur (World.ownsRow.alloc o4 _) gr5 hlt2
    have b5 : Below w.heap.size w w5 := (b4.alloc b4.size _).grown gr5 (by have := b4.size; simp; omega) (fun k hk => by injection hk with hk; omega)
    have hs5 := gr5.size
    simp at hs5
    have hwf2 : FrWf (fl ++ [(⟨x, ⟨#[]⟩, 0⟩ : Fr)]) := hwf.snoc (HF4.out x hx)
    clear gr5 o4 b4 hc4 hx
    go_wp2_with (at_builtin; refine wpList_app1F _ rfl (.tmp 13) (.tmp 18) rfl w2.heap.size _ fl rfl (World.ownsRow.alloc o5 _) w5.heap.size ⟨x, ⟨#[]⟩, 0⟩ rfl (by simp [go_sem]) (by omega) (by simp; omega) ?_)
    intro v' w6 o6 g6
    have hr6 := own_low o5
    have b6 : Below w.heap.size w w6 := (b5.alloc b5.size _).grown g6 (by have := b5.size; simp; omega) (fun k hk => by have := hr6 k hk; omega)
    have hc6 := (hc5.alloc _).grown g6 (fun k hk => by have := hr6 k hk; omega)
    have o6' : w6.ownsRow w2.heap.size 38 3 v' (fl ++ [(⟨x, ⟨#[]⟩, 0⟩ : Fr)]).length ((fl ++ [(⟨x, ⟨#[]⟩, 0⟩ : Fr)]).flatMap frC) := by
      rw [List.flatMap_append, List.length_append]; simpa using o6
    have hfl2 : (fl ++ [(⟨x, ⟨#[]⟩, 0⟩ : Fr)]).length ≤ 2097152 := by simp; omega
    obtain ⟨F2, cf2, rfl, _⟩ := own_form o6'
    have hs6 := g6.size
    clear o6 g6 o5 b5 hc5 hr6
    generalize fl ++ [(⟨x, ⟨#[]⟩, 0⟩ : Fr)] = fl2 at *
    go_wp2_with fail
    refine (l1PickInt_any A l c g [0, 0, 1, 2, 3, 4, -9223372036854775808, 9223372036854775807] w6.heap.size 8 8 _ hl hb (hc6.alloc _) rfl (by simp) (by simp) (by have := hc6.lt; omega) (ints_new w6 [0, 0, 1, 2, 3, 4, -9223372036854775808, 9223372036854775807])).mono ?_
    rintro e w7 ⟨q, hq, rfl, hc7, gr7⟩
    have o7 := own_cur (World.ownsRow.alloc o6' _) gr7 hlt2
    have b7 : Below w.heap.size w w7 := (b6.alloc b6.size _).grown gr7 (by have := b6.size; simp; omega) (fun k hk => by injection hk with hk; omega)
    have R : Hid (GotAfter w (.returned (.tuple #[.slice F2 fl2.length cf2, .int .i64 q])) w7) := ⟨fl2, q, F2, cf2, hfl2, hwf2, HF8.out q hq, rfl, own_rws o7, b7⟩
    clear o7 b7 gr7 hc7 hc6 b6 o6' hq
    go_wp2
    go_ret2
    exact R.out
  | false =>
    go_wp2_with fail
    refine (l1PickInt_any A l c g [0, 0, 1, 2, 3, 4, -9223372036854775808, 9223372036854775807] w4.heap.size 8 8 _ hl hb (hc4.alloc _) rfl (by simp) (by simp) (by have := hc4.lt; omega) (ints_new w4 [0, 0, 1, 2, 3, 4, -9223372036854775808, 9223372036854775807])).mono ?_
    rintro e w7 ⟨q, hq, rfl, hc7, gr7⟩
    have o7 := own_cur (World.ownsRow.alloc o4 _) gr7 hlt2
    have b7 : Below w.heap.size w w7 := (b4.alloc b4.size _).grown gr7 (by have := b4.size; simp; omega) (fun k hk => by injection hk with hk; omega)
    have R : Hid (GotAfter w (.returned (.tuple #[.slice F fl.length cf, .int .i64 q])) w7) := ⟨fl, q, F, cf, by omega, hwf, HF8.out q hq, rfl, own_rws o7, b7⟩
    clear o7 b7 gr7 hc7 hc4 b4 o4 hq
    go_wp2
    go_ret2
    exact R.out
theorem after_head {l : List Fr} {q : Int} {x : Fr} {r : List Fr} (h : afterOf l q = x :: r) : x.seq = q + 1 := by
  induction l with
  | nil => cases h
  | cons f t ih =>
    simp only [afterOf] at h
    split at h
    · exact ih h
    · split at h
      · rename_i h2; injection h with h1 _; rw [← h1]; exact h2
      · cases h
/-- One step of the search for the frame that After took. -/
theorem after_find {fl : List Fr} {q : Int} {x : Fr} {r : List Fr} {a : Nat} (h : afterOf (fl.drop a) q = x :: r) : a < fl.length ∧ ((fl.getD a fr0 = x ∧ afterOf (fl.drop (a + 1)) x.seq = r) ∨ (fl.getD a fr0 ≠ x ∧ afterOf (fl.drop (a + 1)) q = x :: r)) := by
  have hx := after_head h
  have hlt : a < fl.length := by
    rcases Nat.lt_or_ge a fl.length with h1 | h1
    · exact h1
    · rw [List.drop_of_length_le h1] at h; cases h
  refine ⟨hlt, ?_⟩
  rw [dropF fl a hlt] at h
  simp only [afterOf] at h
  split at h
  · rename_i h1
    exact .inr ⟨fun e => by rw [e] at h1; omega, h⟩
  · split at h
    · injection h with h1 h2
      exact .inl ⟨h1, by rw [← h1]; exact h2⟩
    · cases h
theorem after_none {fl : List Fr} {q : Int} {a : Nat} (h : afterOf (fl.drop a) q = []) (ha : a < fl.length) : ((fl.getD a fr0).seq ≤ q ∧ afterOf (fl.drop (a + 1)) q = []) ∨ (q < (fl.getD a fr0).seq ∧ (fl.getD a fr0).seq ≠ q + 1) := by
  rw [dropF fl a ha] at h
  simp only [afterOf] at h
  split at h
  · rename_i h1; exact .inl ⟨h1, h⟩
  · split at h
    · cases h
    · rename_i h1 h2; exact .inr ⟨by omega, h2⟩
theorem after_wf {l : List Fr} (h : FrWf l) (q : Int) : FrWf (afterOf l q) := by
  induction l generalizing q with
  | nil => exact h
  | cons f t ih =>
    have ht : FrWf t := fun x hx => h x (List.mem_cons_of_mem _ hx)
    simp only [afterOf]
    split
    · exact ih ht q
    · split
      · intro x hx
        rcases List.mem_cons.1 hx with rfl | hx
        · exact h _ (List.mem_cons_self ..)
        · exact ih ht _ x hx
      · intro x hx; cases hx
set_option maxRecDepth 100000 in
theorem exec_lenF {ρ : Operand → Value} {o : Oper} {x : Operand} (B : Option Addr) (n c : Nat) (w : World) (ho : o.op = .call { callee := .builtin .len, args := #[x], argTypes := #[33] } := by rfl) (hx : ρ x = .slice B n c := by rfl) :
    (execOp ρ o).run Try.prog w = .ok (.value (.int .i64 (n : Int))) w := by
  unfold execOp
  rw [ho]
  simp [go_sem, hx]
set_option maxRecDepth 100000 in
theorem exec_neqF {ρ : Operand → Value} {o : Oper} {x y : Operand} (f g : Fr) (d : Bool) (w : World) (hd : d = false ↔ f = g) (ho : o.op = .binOp .neq 38 x y 38 := by rfl) (hx : ρ x = frA f := by rfl) (hy : ρ y = frA g := by rfl) :
    (execOp ρ o).run Try.prog w = .ok (.value (.bool d)) w := by
  have key : (execOp ρ o).run Try.prog w = if f.seq = g.seq then if f.body = g.body then if f.next = g.next then .ok (.value (.bool false)) w else .ok (.value (.bool true)) w else .ok (.value (.bool true)) w else .ok (.value (.bool true)) w := by
    unfold execOp
    rw [ho]
    simp [go_sem, hx, hy, frA, str_beq]
  rw [key]
  cases d with
  | false =>
    have e := hd.1 rfl
    subst e
    simp
  | true =>
    have hn : ¬ f = g := fun e => by have := hd.2 e; cases this
    by_cases h1 : f.seq = g.seq
    · by_cases h2 : f.body = g.body
      · by_cases h3 : f.next = g.next
        · exact absurd (by cases f; cases g; simp_all) hn
        · simp [h1, h2, h3]
      · simp [h1, h2]
    · simp [h1]
set_option maxRecDepth 100000 in
set_option maxHeartbeats 1600000 in
theorem FnAfter_walk (A : Option Addr) (l : List Nat) (cap : Nat) (w : World) (hA : Bts w w.heap.size A l) (hb : AllB l) (hm : l.length ≤ maxLen) :
    Calls Try.prog 4 #[.slice A l.length cap] w fun e w' => e = .returned (.bool true) ∧ Below w.heap.size w w' := by
  unfold maxLen at hm
  by_cases hbig : 1048576 < l.length
  · go_enter Try.func4, Try.ntmps4
    go_wp2_with (go_at_call 11; refine (big_yes _ _ _ _ hbig).mono ?_; rintro e w' ⟨rfl, rfl⟩)
    go_ret
    exact ⟨rfl, Below.refl _ _⟩
  have hle : l.length ≤ 1048576 := by omega
  go_enter Try.func4, Try.ntmps4
  go_wp2_with (go_at_call 11; refine (big_no _ _ _ _ hle).mono ?_; rintro e w' ⟨rfl, rfl⟩)
  refine (drawAfter_any A l cap w (by omega) hA hb).mono ?_
  rintro e w1 ⟨fl, q0, F, cf, hfl, hwf, hq0, rfl, hF, b1⟩
  go_wp2_with fail
  refine (after_impl F fl cf q0 _ hfl hF hwf hq0.1 hq0.2).mono ?_
  rintro e w2 ⟨G, cg, rfl, o2, b2⟩
  have bF : Hid (Below w.heap.size w w2) := b1.trans (b2.mono b1.size)
  have hF2 := (hF.below b2).more b2.size
  have hG2 := own_rws o2
  have hgl : (afterOf fl q0).length ≤ fl.length := afterOf_len fl q0
  obtain ⟨got, hgot⟩ : ∃ got, got = afterOf fl q0 := ⟨_, rfl⟩
  rw [← hgot] at hG2 hgl
  rw [← hgot]
  have hstart : afterOf (fl.drop 0) q0 = got.drop 0 := by rw [hgot]; rfl
  have HST := Lib.hid hstart
  have hgwf : FrWf got := by rw [hgot]; exact after_wf hwf q0
  clear hgot b1 b2 o2 hF hstart hA hb
  go_wp2
  go_loopw [4, 6, 7] (fun vq va vi wr => ∃ (q : Int) (a i n : Nat), vq = .int .i64 q ∧ va = .int .i64 a ∧ vi = .int .i64 i ∧ -9223372036854775808 ≤ q ∧ q ≤ 9223372036854775807 ∧ a ≤ fl.length ∧ i ≤ got.length ∧ afterOf (fl.drop a) q = got.drop i ∧ wr = w2.drewN n) (fun _ _ vi _ => got.length - (intOf vi).toNat)
  case atStart => exact ⟨q0, 0, 0, 0, rfl, rfl, rfl, hq0.1, hq0.2, by omega, by omega, HST.out, rfl⟩
  case round =>
    obtain ⟨q, a, i, n, rfl, rfl, rfl, hq1, hq2, ha, hi, hrel, rfl⟩ := hrel
    clear HST
    by_cases hlt : i < got.length
    · obtain ⟨b, off, rfl, hbB, c0, c1, c2⟩ := (hG2.drewN n).fr hlt
      rw [dropF got i hlt] at hrel
      have hx := after_head hrel
      have hxs := hgwf.getD hlt
      generalize got.getD i fr0 = x at *
      have n1 : (x.seq - 1 != q) = false := by simp; omega
      have n2 : decide (x.seq ≤ q) = false := by simp; omega
      have n3 : q < x.seq := by omega
      have HX := Lib.hid hx
      have HR := Lib.hid hrel
      clear hx hrel
      go_wp2
      go_loopw [6] (fun va wr => ∃ (a' m : Nat), va = .int .i64 a' ∧ afterOf (fl.drop a') q = x :: got.drop (i + 1) ∧ wr = w2.drewN m) (fun va _ => fl.length - (intOf va).toNat)
      case atStart => exact ⟨a, n, rfl, HR.out, rfl⟩
      case round =>
        obtain ⟨a', m, rfl, hrel, rfl⟩ := hrel
        clear HR
        obtain ⟨halt, hfind⟩ := after_find hrel
        obtain ⟨b', off', rfl, hbB', d0⟩ := (hF2.drewN (m + 1)).fr halt
        have e0 : (w2.drewN (m + 1)).cell? ⟨b, off + i * 3, none⟩ = some (.int .i64 x.seq) ∧ (w2.drewN (m + 1)).cell? ⟨b, off + i * 3 + 1, none⟩ = some (.string x.body) ∧ (w2.drewN (m + 1)).cell? ⟨b, off + i * 3 + 2, none⟩ = some (.int .i64 x.next) := ⟨c0, c1, c2⟩
        generalize fl.getD a' fr0 = f at *
        clear hrel
        rcases hfind with ⟨hfx, hnext⟩ | ⟨hfx, hnext⟩
        · have HN := Lib.hid hnext
          have HFX := Lib.hid hfx
          clear hnext hfx
          go_wp2
          refine wp_region_held_drew (S := fun w' => (w'.cell? ⟨b', off' + a' * 3, none⟩ = some (.int .i64 f.seq) ∧ w'.cell? ⟨b', off' + a' * 3 + 1, none⟩ = some (.string f.body) ∧ w'.cell? ⟨b', off' + a' * 3 + 2, none⟩ = some (.int .i64 f.next)) ∧ (w'.cell? ⟨b, off + i * 3, none⟩ = some (.int .i64 x.seq) ∧ w'.cell? ⟨b, off + i * 3 + 1, none⟩ = some (.string x.body) ∧ w'.cell? ⟨b, off + i * 3 + 2, none⟩ = some (.int .i64 x.next))) (by kernel_rfl) ⟨d0, e0⟩ (fun hHeld => ?_)
          refine held_take 0 46 (.int .i64 (a' : Int)) rfl rfl (by kernel_rfl) (by kernel_rfl) (by kernel_rfl) (fun _ _ _ h => h) rfl hHeld (fun w _ => rfl) ?_
          refine held_take 1 47 (.slice (some ⟨b', off', none⟩) fl.length cf) rfl rfl (by kernel_rfl) (by kernel_rfl) (by kernel_rfl) (fun _ _ _ h => h) rfl hHeld (fun w _ => rfl) ?_
          refine held_take 2 48 (.int .i64 (fl.length : Int)) rfl rfl (by kernel_rfl) (by kernel_rfl) (by kernel_rfl) (fun _ _ _ h => h) rfl hHeld (fun w _ => exec_lenF _ fl.length cf w) ?_
          simp only [Act.put, List.setIfInBounds_toArray, List.set_cons_zero, List.set_cons_succ]
          refine held_take 3 49 (.bool true) rfl rfl (by kernel_rfl) (by kernel_rfl) (by kernel_rfl) (fun _ _ _ h => h) rfl hHeld (fun w _ => exec_lssI a' fl.length true w (by simp; omega)) ?_
          refine held_take 4 50 (.bool true) rfl rfl (by kernel_rfl) (by kernel_rfl) (by kernel_rfl) (fun _ _ _ h => h) rfl hHeld (fun w _ => rfl) ?_
          refine held_take 5 51 (.slice (some ⟨b', off', none⟩) fl.length cf) rfl rfl (by kernel_rfl) (by kernel_rfl) (by kernel_rfl) (fun _ _ _ h => h) rfl hHeld (fun w _ => rfl) ?_
          simp only [Act.put, List.setIfInBounds_toArray, List.set_cons_zero, List.set_cons_succ]
          refine held_take 6 52 (.int .i64 (a' : Int)) rfl rfl (by kernel_rfl) (by kernel_rfl) (by kernel_rfl) (fun _ _ _ h => h) rfl hHeld (fun w _ => rfl) ?_
          refine held_take 7 53 (.pointer (some ⟨b', off' + a' * 3, none⟩)) rfl rfl (by kernel_rfl) (by kernel_rfl) (by kernel_rfl) (fun _ _ _ h => h) rfl hHeld (fun w _ => exec_idxFr b' off' fl.length cf a' w halt) ?_
          refine held_take 8 54 (frA f) rfl rfl (by kernel_rfl) (by kernel_rfl) (by kernel_rfl) (fun _ _ _ h => h) rfl hHeld (fun w hS => exec_loadFr b' (off' + a' * 3) f w hS.1) ?_
          simp only [Act.put, List.setIfInBounds_toArray, List.set_cons_zero, List.set_cons_succ]
          refine held_take 9 55 (.slice (some ⟨b, off, none⟩) got.length cg) rfl rfl (by kernel_rfl) (by kernel_rfl) (by kernel_rfl) (fun _ _ _ h => h) rfl hHeld (fun w _ => rfl) ?_
          refine held_take 10 56 (.int .i64 (i : Int)) rfl rfl (by kernel_rfl) (by kernel_rfl) (by kernel_rfl) (fun _ _ _ h => h) rfl hHeld (fun w _ => rfl) ?_
          refine held_take 11 57 (.pointer (some ⟨b, off + i * 3, none⟩)) rfl rfl (by kernel_rfl) (by kernel_rfl) (by kernel_rfl) (fun _ _ _ h => h) rfl hHeld (fun w _ => exec_idxFr b off got.length cg i w hlt) ?_
          simp only [Act.put, List.setIfInBounds_toArray, List.set_cons_zero, List.set_cons_succ]
          refine held_take 12 58 (frA x) rfl rfl (by kernel_rfl) (by kernel_rfl) (by kernel_rfl) (fun _ _ _ h => h) rfl hHeld (fun w hS => exec_loadFr b (off + i * 3) x w hS.2) ?_
          refine held_take 13 59 (.bool false) rfl rfl (by kernel_rfl) (by kernel_rfl) (by kernel_rfl) (fun _ _ _ h => h) rfl hHeld (fun w _ => exec_neqF f x false w ⟨fun _ => HFX.out, fun _ => rfl⟩) ?_
          refine held_take 14 60 (.bool false) rfl rfl (by kernel_rfl) (by kernel_rfl) (by kernel_rfl) (fun _ _ _ h => h) rfl hHeld (fun w _ => rfl) ?_
          simp only [Act.put, List.setIfInBounds_toArray, List.set_cons_zero, List.set_cons_succ]
          refine wpAnyH_done (by kernel_rfl) ?_ _
          clear d0 e0
          go_wp2
          go_roundw
          case rel => exact ⟨x.seq, a' + 1, i + 1, m + 1, rfl, by go_num, by go_num, hxs.1, hxs.2, by omega, by omega, HN.out, rfl⟩
          case measure => simp [intOf]; omega
        · have HN := Lib.hid hnext
          have HFX := Lib.hid hfx
          clear hnext hfx
          go_wp2
          refine wp_region_held_drew (S := fun w' => (w'.cell? ⟨b', off' + a' * 3, none⟩ = some (.int .i64 f.seq) ∧ w'.cell? ⟨b', off' + a' * 3 + 1, none⟩ = some (.string f.body) ∧ w'.cell? ⟨b', off' + a' * 3 + 2, none⟩ = some (.int .i64 f.next)) ∧ (w'.cell? ⟨b, off + i * 3, none⟩ = some (.int .i64 x.seq) ∧ w'.cell? ⟨b, off + i * 3 + 1, none⟩ = some (.string x.body) ∧ w'.cell? ⟨b, off + i * 3 + 2, none⟩ = some (.int .i64 x.next))) (by kernel_rfl) ⟨d0, e0⟩ (fun hHeld => ?_)
          refine held_take 0 46 (.int .i64 (a' : Int)) rfl rfl (by kernel_rfl) (by kernel_rfl) (by kernel_rfl) (fun _ _ _ h => h) rfl hHeld (fun w _ => rfl) ?_
          refine held_take 1 47 (.slice (some ⟨b', off', none⟩) fl.length cf) rfl rfl (by kernel_rfl) (by kernel_rfl) (by kernel_rfl) (fun _ _ _ h => h) rfl hHeld (fun w _ => rfl) ?_
          refine held_take 2 48 (.int .i64 (fl.length : Int)) rfl rfl (by kernel_rfl) (by kernel_rfl) (by kernel_rfl) (fun _ _ _ h => h) rfl hHeld (fun w _ => exec_lenF _ fl.length cf w) ?_
          simp only [Act.put, List.setIfInBounds_toArray, List.set_cons_zero, List.set_cons_succ]
          refine held_take 3 49 (.bool true) rfl rfl (by kernel_rfl) (by kernel_rfl) (by kernel_rfl) (fun _ _ _ h => h) rfl hHeld (fun w _ => exec_lssI a' fl.length true w (by simp; omega)) ?_
          refine held_take 4 50 (.bool true) rfl rfl (by kernel_rfl) (by kernel_rfl) (by kernel_rfl) (fun _ _ _ h => h) rfl hHeld (fun w _ => rfl) ?_
          refine held_take 5 51 (.slice (some ⟨b', off', none⟩) fl.length cf) rfl rfl (by kernel_rfl) (by kernel_rfl) (by kernel_rfl) (fun _ _ _ h => h) rfl hHeld (fun w _ => rfl) ?_
          simp only [Act.put, List.setIfInBounds_toArray, List.set_cons_zero, List.set_cons_succ]
          refine held_take 6 52 (.int .i64 (a' : Int)) rfl rfl (by kernel_rfl) (by kernel_rfl) (by kernel_rfl) (fun _ _ _ h => h) rfl hHeld (fun w _ => rfl) ?_
          refine held_take 7 53 (.pointer (some ⟨b', off' + a' * 3, none⟩)) rfl rfl (by kernel_rfl) (by kernel_rfl) (by kernel_rfl) (fun _ _ _ h => h) rfl hHeld (fun w _ => exec_idxFr b' off' fl.length cf a' w halt) ?_
          refine held_take 8 54 (frA f) rfl rfl (by kernel_rfl) (by kernel_rfl) (by kernel_rfl) (fun _ _ _ h => h) rfl hHeld (fun w hS => exec_loadFr b' (off' + a' * 3) f w hS.1) ?_
          simp only [Act.put, List.setIfInBounds_toArray, List.set_cons_zero, List.set_cons_succ]
          refine held_take 9 55 (.slice (some ⟨b, off, none⟩) got.length cg) rfl rfl (by kernel_rfl) (by kernel_rfl) (by kernel_rfl) (fun _ _ _ h => h) rfl hHeld (fun w _ => rfl) ?_
          refine held_take 10 56 (.int .i64 (i : Int)) rfl rfl (by kernel_rfl) (by kernel_rfl) (by kernel_rfl) (fun _ _ _ h => h) rfl hHeld (fun w _ => rfl) ?_
          refine held_take 11 57 (.pointer (some ⟨b, off + i * 3, none⟩)) rfl rfl (by kernel_rfl) (by kernel_rfl) (by kernel_rfl) (fun _ _ _ h => h) rfl hHeld (fun w _ => exec_idxFr b off got.length cg i w hlt) ?_
          simp only [Act.put, List.setIfInBounds_toArray, List.set_cons_zero, List.set_cons_succ]
          refine held_take 12 58 (frA x) rfl rfl (by kernel_rfl) (by kernel_rfl) (by kernel_rfl) (fun _ _ _ h => h) rfl hHeld (fun w hS => exec_loadFr b (off + i * 3) x w hS.2) ?_
          refine held_take 13 59 (.bool true) rfl rfl (by kernel_rfl) (by kernel_rfl) (by kernel_rfl) (fun _ _ _ h => h) rfl hHeld (fun w _ => exec_neqF f x true w ⟨(fun h => by cases h), (fun h => absurd h HFX.out)⟩) ?_
          refine held_take 14 60 (.bool true) rfl rfl (by kernel_rfl) (by kernel_rfl) (by kernel_rfl) (fun _ _ _ h => h) rfl hHeld (fun w _ => rfl) ?_
          simp only [Act.put, List.setIfInBounds_toArray, List.set_cons_zero, List.set_cons_succ]
          refine wpAnyH_done (by kernel_rfl) ?_ _
          clear d0 e0
          go_wp2
          go_roundw
          case rel => exact ⟨a' + 1, m + 1, by go_num, HN.out, rfl⟩
          case measure => simp [intOf]; omega
    · obtain rfl : i = got.length := by omega
      rw [List.drop_length] at hrel
      have HR := Lib.hid hrel
      clear hrel
      go_wp2
      go_loopw [6] (fun va wr => ∃ a' : Nat, va = .int .i64 a' ∧ a' ≤ fl.length ∧ afterOf (fl.drop a') q = [] ∧ wr = w2.drewN n) (fun va _ => fl.length - (intOf va).toNat)
      case atStart => exact ⟨a, rfl, ha, HR.out, rfl⟩
      case round =>
        obtain ⟨a', rfl, ha', hrel, rfl⟩ := hrel
        clear HR
        by_cases halt : a' < fl.length
        · obtain ⟨b', off', rfl, hbB', d0, d1, d2⟩ := (hF2.drewN n).fr halt
          have hfw := hwf.getD halt
          rcases after_none hrel halt with ⟨h1, h2⟩ | ⟨h1, h2⟩
          · have HN := Lib.hid h2
            generalize fl.getD a' fr0 = f at *
            clear hrel h2
            go_wp2
            go_roundw
            case rel => exact ⟨a' + 1, by go_num, by omega, HN.out, by first | rfl | trivial⟩
            case measure => simp [intOf]; omega
          · generalize fl.getD a' fr0 = f at *
            have hne : (f.seq - 1 != q) = true := by simp; omega
            have hfq : decide (f.seq ≤ q) = false := by simp; omega
            clear hrel h2
            go_wp2
            go_ret
            exact ⟨rfl, below_drawn bF.out n⟩
        · obtain rfl : a' = fl.length := by omega
          clear hrel
          go_wp2
          go_ret
          exact ⟨rfl, below_drawn bF.out n⟩
end Go.Proofs.Ytelpeoaffgafgaa
