/- Texts laid together: Hs12, Hs13, Hs14, Hs15. -/
import Derived.Test.YtlflgflmlfileaaGreatRows
import Derived.Test.YtlflgflmlfileaaGreatHs10
import Derived.Test.YtlflgflmlfileaaGreatSameI
import Derived.Test.YtlflgflmlfileaaGreatG5
namespace Go.Proofs.YtlflgflmlfileaaGreat
open Go.RowKit
set_option linter.unusedSimpArgs false
set_option linter.unusedVariables false
/-- A spoke and where it lies. -/
structure Sp where
  a : Option Addr
  c : Nat
  l : List Pn
def spC (s : Sp) : List Value := [.slice s.a s.l.length s.c]
def sp0 : Sp := ⟨none, 0, []⟩
theorem spC_len (s : Sp) : (spC s).length = 1 := rfl
theorem spC_one (l : List Sp) : ∀ u ∈ l.flatMap spC, u.oneCell' = true := by
  intro u hu
  obtain ⟨x, _, hx⟩ := List.mem_flatMap.1 hu
  simp [spC] at hx
  subst hx; rfl
theorem Rws.sp {w : World} {B : Nat} {A : Option Addr} {l : List Sp} (h : Rws w B A (l.flatMap spC)) {i : Nat} (hi : i < l.length) :
    ∃ b off, A = some ⟨b, off, none⟩ ∧ b < B ∧ w.cell? ⟨b, off + i, none⟩ = some (.slice (l.getD i sp0).a (l.getD i sp0).l.length (l.getD i sp0).c) := by
  obtain ⟨b, off, e, hb, hc⟩ := Rws.el spC_len h (by omega) sp0 hi
  have := hc 0 (by omega)
  rw [Nat.mul_one, Nat.add_zero] at this
  exact ⟨b, off, e, hb, this⟩
/-- A spoke that can be read. -/
structure Sp.ok (w : World) (s : Sp) : Prop where
  row : Rws w w.heap.size s.a (s.l.flatMap pnC)
  cap : s.l.length ≤ s.c
  nil : s.a = none → s.c = 0
/-- A wheel that can be read. -/
structure Whl (w : World) (A : Option Addr) (sp : List Sp) : Prop where
  row : Rws w w.heap.size A (sp.flatMap spC)
  ok : ∀ s ∈ sp, s.ok w
theorem Sp.ok.below {w w' : World} {s : Sp} (h : s.ok w) (hb : Below w.heap.size w w') : s.ok w' := ⟨rws_below h.row hb, h.cap, h.nil⟩
theorem Whl.below {w w' : World} {A : Option Addr} {sp : List Sp} (h : Whl w A sp) (hb : Below w.heap.size w w') : Whl w' A sp := ⟨rws_below h.row hb, fun s hs => (h.ok s hs).below hb⟩
theorem Whl.at_ {w : World} {A : Option Addr} {sp : List Sp} (h : Whl w A sp) {i : Nat} (hi : i < sp.length) : (sp.getD i sp0).ok w := h.ok _ (getD_mem sp i sp0 hi)
/-- All pins of a wheel. -/
def allPn (sp : List Sp) : List Pn := sp.flatMap (·.l)
theorem allPn_take (sp : List Sp) (k : Nat) (h : k < sp.length) : allPn (sp.take (k + 1)) = allPn (sp.take k) ++ (sp.getD k sp0).l := by
  unfold allPn; rw [take_succ_getD sp k sp0 h, List.flatMap_append]; simp
theorem allPn_take_le (sp : List Sp) (k : Nat) : (allPn (sp.take k)).length ≤ (allPn sp).length := by
  have : allPn sp = allPn (sp.take k) ++ allPn (sp.drop k) := by unfold allPn; rw [← List.flatMap_append, List.take_append_drop]
  rw [this, List.length_append]; omega
theorem allPn_at_le (sp : List Sp) (k : Nat) (h : k < sp.length) : (allPn (sp.take k)).length + (sp.getD k sp0).l.length ≤ (allPn sp).length := by
  have := allPn_take_le sp (k + 1)
  rw [allPn_take sp k h, List.length_append] at this; exact this
set_option maxRecDepth 100000 in
set_option maxHeartbeats 3200000 in
theorem l9All_spec (A : Option Addr) (sp : List Sp) (c : Nat) (w : World) (hn : sp.length ≤ 2097152) (hl : (allPn sp).length ≤ 2097152) (hA : Whl w A sp) :
    Calls Tryz.prog 91 #[.agg #[.slice A sp.length c]] w (NewR 95 2 w (allPn sp).length ((allPn sp).flatMap pnC)) := by
  obtain ⟨W, hW⟩ : ∃ W, w.alloc (.cells #[.slice A sp.length c] 57) = W := ⟨_, rfl⟩
  have bW : Hid (Below w.heap.size w W) := by show Below _ _ _; rw [← hW]; exact (Below.refl _ _).alloc (Nat.le_refl _) _
  have HX : Hid (W.heap[w.heap.size]? = some (.cells #[.slice A sp.length c] 57)) := by show _ = _; rw [← hW]; exact heap_new _ _
  have O0 := Lib.hid (own_empty W W.heap.size 95 2 (Nat.le_refl _))
  have B0 : Hid (Below W.heap.size W (W.alloc (.cells #[] 95))) := (Below.refl _ _).alloc (Nat.le_refl _) _
  go_enter Tryz.func91, Tryz.ntmps91
  go_wp2_with fail
  clear hW
  go_loopw [3, 4] (fun v i wr => ∃ (k : Nat), k ≤ sp.length ∧ i = .int .i64 k ∧ wr.ownsRow W.heap.size 95 2 v (allPn (sp.take k)).length ((allPn (sp.take k)).flatMap pnC) ∧ Below W.heap.size W wr) (fun _ i _ => sp.length - (intOf i).toNat)
  case atStart => exact ⟨0, by omega, rfl, O0.out, B0.out⟩
  case round =>
    clear O0 B0
    obtain ⟨k, hk, rfl, hown, hb⟩ := hrel
    have hbs := hb.size
    have hX := blk_call HX.out hb
    have q0 := cell_of_row _ _ 0 _ _ _ hX
    simp at q0
    have ltX := blk_lt hX
    clear hX
    by_cases hlt : k < sp.length
    · have hWh := (hA.below bW.out).below hb
      have hs := hWh.at_ hlt
      obtain ⟨b, off, rfl, hbB, hc⟩ := hWh.row.sp hlt
      have et := allPn_take sp k hlt
      have el := allPn_at_le sp k hlt
      generalize sp.getD k sp0 = s at *
      obtain ⟨sr, sc, sn⟩ := hs
      generalize allPn (sp.take k) = q at *
      have HT := Lib.hid et
      have HL := Lib.hid (allPn_take_le sp (k + 1))
      clear et hWh
      go_wp2_with (at_builtin; refine wpList_appR rowPin _ rfl (.tmp 13) (.tmp 18) rfl W.heap.size _ q.length (q.flatMap pnC) rfl hown _ s.a s.l.length s.c (s.l.flatMap pnC) rfl (flat_len pnC 2 pnC_len s.l) sr sn (pnC_one _) (by omega) hbs ?_)
      intro v2 w2 o2 g2
      have B2 := Lib.hid (hb.grown g2 hbs (own_low hown))
      have O2 : Hid (w2.ownsRow W.heap.size 95 2 v2 (allPn (sp.take (k + 1))).length ((allPn (sp.take (k + 1))).flatMap pnC)) := by
        show World.ownsRow _ _ _ _ _ _ _
        rw [HT.out, List.length_append, List.flatMap_append]; exact o2
      clear o2 g2 hown hb sr hc q0 HT
      go_wp2
      go_roundw
      case rel => exact ⟨k + 1, by omega, by go_num, O2.out, B2.out⟩
      case measure => simp [intOf] <;> omega
    · obtain rfl : k = sp.length := by omega
      rw [List.take_length] at hown
      have HN := Lib.hid (NewR.of_own (own_weak hown bW.out.size) (bW.out.trans (hb.mono bW.out.size)))
      clear hown hb
      go_wp2
      go_ret
      exact HN.out
/-- A spoke of the call's own. -/
def Sp.own (w : World) (B : Nat) (s : Sp) : Prop := w.ownsRow B 95 2 (.slice s.a s.l.length s.c) s.l.length (s.l.flatMap pnC)
theorem Sp.own.ok {w : World} {B : Nat} {s : Sp} (h : s.own w B) : s.ok w := ⟨own_rws h, own_cap h, own_nil h⟩
/-- A wheel of the call's own: its row and its spokes. -/
structure OwnW (w : World) (B : Nat) (A : Option Addr) (c : Nat) (sp : List Sp) : Prop where
  row : w.ownsRow B 90 1 (.slice A sp.length c) sp.length (sp.flatMap spC)
  sp : ∀ s ∈ sp, s.own w B
theorem OwnW.whl {w : World} {B : Nat} {A : Option Addr} {c : Nat} {sp : List Sp} (h : OwnW w B A c sp) : Whl w A sp := ⟨own_rws h.row, fun s hs => (h.sp s hs).ok⟩
theorem OwnW.below {w w' : World} {B : Nat} {A : Option Addr} {c : Nat} {sp : List Sp} (h : OwnW w B A c sp) (hb : Below w.heap.size w w') : OwnW w' B A c sp := ⟨own_below h.row hb, fun s hs => own_below (h.sp s hs) hb⟩
theorem OwnW.weak {w : World} {B B' : Nat} {A : Option Addr} {c : Nat} {sp : List Sp} (h : OwnW w B A c sp) (hB : B' ≤ B) : OwnW w B' A c sp := ⟨own_weak h.row hB, fun s hs => own_weak (h.sp s hs) hB⟩
/-- A block of another type may change. -/
theorem OwnW.put {w : World} {B : Nat} {A : Option Addr} {c : Nat} {sp : List Sp} (h : OwnW w B A c sp) {g : Nat} {cs : Array Value} {t : TypeId} {fr : Nat × Nat} (hg : w.heap[g]? = some (.cells cs t fr)) (h1 : t ≠ 90) (h2 : t ≠ 95) (i : Nat) (v : Value) : OwnW (w.setCell ⟨g, i, none⟩ v) B A c sp :=
  ⟨h.row.kept (Go.Lib.grownBy_setCell w g i v) (.inr (own_ne_type h.row hg h1)), fun s hs => (h.sp s hs).kept (Go.Lib.grownBy_setCell w g i v) (.inr (own_ne_type (h.sp s hs) hg h2))⟩
/-- What is in new memory: a wheel. -/
def NewW (w : World) (ls : List (List Pn)) (e : Ending) (w' : World) : Prop :=
  ∃ A c sp, e = .returned (.agg #[.slice A sp.length c]) ∧ sp.map (·.l) = ls ∧ OwnW w' w.heap.size A c sp ∧ Below w.heap.size w w'
/-- The row of a slice is of its type. -/
theorem own_typed2 {w : World} {B e sz n : Nat} {v : Value} {cs : List Value} (h : w.ownsRow B e sz v n cs) : ∀ k, v.ownBlock = some k → ∃ cur, w.heap[k]? = some (.cells cur e (0, 0)) := by
  intro k hk
  rcases h.2 with ⟨hv, _⟩ | ⟨g, cap, cur, hv, _, hg, _⟩
  · rw [hv] at hk; cases hk
  · rw [hv] at hk; injection hk with hk; subst hk; exact ⟨cur, hg⟩
theorem OwnW.grow {w w' : World} {B : Nat} {sp : List Sp} (h : ∀ s ∈ sp, s.own w B) {v : Value} {n : Nat} {cs : List Value} (hv : w.ownsRow B 90 1 v n cs) (g : w.grownBy w' v.ownBlock) : ∀ s ∈ sp, s.own w' B := by
  intro s hs
  refine own_kept2 (h s hs) g (fun k h1 h2 => ?_)
  obtain ⟨cur, hc⟩ := own_typed2 hv k h2
  exact own_ne_type (h s hs) hc (by decide) h1
def nineW : List (List Pn) := List.replicate 9 []
set_option maxRecDepth 100000 in
set_option maxHeartbeats 3200000 in
theorem wheelNew_spec (w : World) : Calls Tryz.prog 55 #[] w (NewW w nineW) := by
  obtain ⟨W, hW⟩ : ∃ W, (w.alloc (.cells #[.slice none 0 0] 57)).alloc (.cells #[.slice none 0 0] 57) = W := ⟨_, rfl⟩
  have T0 : W.heap[w.heap.size]? = some (.cells #[.slice none 0 0] 57) ∧ W.heap[w.heap.size + 1]? = some (.cells #[.slice none 0 0] 57) ∧ Below w.heap.size w W := by rw [← hW]; exact two_at w _ _ _ (Below.refl _ _)
  have HT := Lib.hid T0
  have HW := Lib.hid hW
  have hWs : Hid (W.heap.size = w.heap.size + 2) := by show _ = _; rw [← hW]; simp
  clear T0 hW
  go_enter Tryz.func55, Tryz.ntmps55
  go_wp2_with fail
  rw [HW.out]
  clear HW
  go_loopw [2] (fun i wr => ∃ (k : Nat) (A : Option Addr) (c : Nat) (sp : List Sp), k ≤ 9 ∧ i = .int .i64 k ∧ sp.length = k ∧ sp.map (·.l) = List.replicate k [] ∧ OwnW wr W.heap.size A c sp ∧
      wr.heap[w.heap.size]? = some (.cells #[.slice none 0 0] 57) ∧ wr.heap[w.heap.size + 1]? = some (.cells #[.slice A k c] 57) ∧ Below w.heap.size w wr ∧ W.heap.size ≤ wr.heap.size) (fun i _ => 9 - (intOf i).toNat)
  case atStart => exact ⟨0, none, 0, [], by omega, rfl, rfl, rfl, ⟨World.ownsRow_nil _ _ _ _, by simp⟩, HT.out.1, HT.out.2.1, HT.out.2.2, Nat.le_refl _⟩
  case round =>
    clear HT
    obtain ⟨k, A, c, sp, hk, rfl, hlen, hrep, hO, h0, h1, hb, hs⟩ := hrel
    have c1 := cell_of_row _ _ 0 _ _ _ h1
    simp at c1
    by_cases hlt : k < 9
    · have hr := hO.row
      rw [hlen] at hr
      have O1 := (hr.alloc (.cells #[] 95)).alloc (.cells #[.slice (some ⟨wr.heap.size, 0, none⟩) 0 0] 90)
      have RN : Rws ((wr.alloc (.cells #[] 95)).alloc (.cells #[.slice (some ⟨wr.heap.size, 0, none⟩) 0 0] 90)) (wr.heap.size + 1 + 1) (some ⟨wr.heap.size + 1, 0, none⟩) (spC ⟨some ⟨wr.heap.size, 0, none⟩, 0, []⟩) := by
        have := Rws.new (wr.alloc (.cells #[] 95)) (spC ⟨some ⟨wr.heap.size, 0, none⟩, 0, []⟩) 90
        rw [World.size_alloc] at this
        exact this
      have I1 : ∀ s ∈ sp ++ [⟨some ⟨wr.heap.size, 0, none⟩, 0, []⟩], Sp.own ((wr.alloc (.cells #[] 95)).alloc (.cells #[.slice (some ⟨wr.heap.size, 0, none⟩) 0 0] 90)) W.heap.size s := by
        intro s hs2
        rcases List.mem_append.1 hs2 with h | h
        · exact ((hO.sp s h).alloc _).alloc _
        · simp at h; subst h
          exact (own_empty wr W.heap.size 95 2 hs).alloc _
      have B1 : Below w.heap.size w ((wr.alloc (.cells #[] 95)).alloc (.cells #[.slice (some ⟨wr.heap.size, 0, none⟩) 0 0] 90)) := (hb.alloc hb.size _).alloc (by have := hb.size; simp; omega) _
      have H0 := Lib.hid (blk_alloc (blk_alloc h0 (.cells #[] 95)) (.cells #[.slice (some ⟨wr.heap.size, 0, none⟩) 0 0] 90))
      have H1 := Lib.hid (blk_alloc (blk_alloc h1 (.cells #[] 95)) (.cells #[.slice (some ⟨wr.heap.size, 0, none⟩) 0 0] 90))
      have II := Lib.hid I1
      have BB := Lib.hid B1
      have lt1 := blk_lt h1
      have ltW : w.heap.size + 1 < W.heap.size := by have := hWs.out; omega
      clear hO h0 h1 hb I1 B1 hr
      go_wp2_with (at_builtin; refine wpList_appR rowSpk _ rfl (.tmp 9) (.tmp 11) rfl W.heap.size _ k (sp.flatMap spC) rfl O1 _ _ 1 1 (spC ⟨some ⟨wr.heap.size, 0, none⟩, 0, []⟩) rfl rfl RN (fun h => by cases h) (by intro u hu; exact spC_one [⟨some ⟨wr.heap.size, 0, none⟩, 0, []⟩] u (by simpa using hu)) (by omega) (by simp; omega) ?_)
      intro v3 w3 o3 g3
      have lo := own_low O1
      have ne0 : ∀ j, j < W.heap.size → (Value.slice A k c).ownBlock ≠ some j := fun j hj h => by have := lo j h; omega
      have h0 : w3.heap[w.heap.size]? = _ := (g3.block _ (blk_lt H0.out) (fun h => ne0 _ (by omega) h.symm)).trans H0.out
      have h1 : w3.heap[w.heap.size + 1]? = _ := (g3.block _ (blk_lt H1.out) (fun h => ne0 _ (by omega) h.symm)).trans H1.out
      obtain ⟨A3, c3, rfl, _⟩ := own_form o3
      have O3 : OwnW w3 W.heap.size A3 c3 (sp ++ [⟨some ⟨wr.heap.size, 0, none⟩, 0, []⟩]) := by
        refine ⟨?_, OwnW.grow II.out O1 g3⟩
        rw [List.length_append, hlen, List.flatMap_append]
        simpa using o3
      have b3 := BB.out.grown g3 BB.out.size (fun j hj => by have := lo j hj; omega)
      have c1 := cell_of_row _ _ 0 _ _ _ h1
      have z1 := frozen_of_row _ _ 0 _ _ h1
      simp at c1
      have O4 := Lib.hid (O3.put h1 (by decide) (by decide) 0 (.slice A3 (k + 1) c3))
      have b4 := Lib.hid (b3.setCell (p := ⟨w.heap.size + 1, 0, none⟩) (by show _ ≤ _ + 1; omega) (.slice A3 (k + 1) c3))
      have H0 : Hid ((w3.setCell ⟨w.heap.size + 1, 0, none⟩ (.slice A3 (k + 1) c3)).heap[w.heap.size]? = _) := (heap_set_ne w3 _ 0 _ (by omega)).trans h0
      have H1 : Hid ((w3.setCell ⟨w.heap.size + 1, 0, none⟩ (.slice A3 (k + 1) c3)).heap[w.heap.size + 1]? = some (.cells #[.slice A3 (k + 1) c3] 57)) := Go.heap_setCell_same _ _ 0 _ _ (.slice A3 (k + 1) c3) h1
      have hs4 : Hid (W.heap.size ≤ (w3.setCell ⟨w.heap.size + 1, 0, none⟩ (.slice A3 (k + 1) c3)).heap.size) := by
        show _ ≤ _
        have := g3.size; simp at this ⊢; omega
      have HR : Hid ((sp ++ [(⟨some ⟨wr.heap.size, 0, none⟩, 0, []⟩ : Sp)]).map (fun x => x.l) = List.replicate (k + 1) []) := by
        show _ = _
        rw [List.map_append, hrep, List.replicate_succ']; rfl
      clear o3 O3 b3 h0 h1 lo ne0 g3 O1 RN II BB hrep
      go_wp2
      go_roundw
      case rel => exact ⟨k + 1, A3, c3, sp ++ [⟨some ⟨wr.heap.size, 0, none⟩, 0, []⟩], by omega, by go_num, by simp [hlen], HR.out, O4.out, H0.out, H1.out, b4.out, hs4.out⟩
      case measure => simp [intOf] <;> omega
    · obtain rfl : k = 9 := by omega
      have c0 := cell_of_row _ _ 0 _ _ _ h0
      have z0 := frozen_of_row _ _ 0 _ _ h0
      simp at c0
      have ltW : w.heap.size + 1 < W.heap.size := by have := hWs.out; omega
      have HN : Hid (NewW w nineW (.returned (.agg #[.slice A 9 c])) (wr.setCell ⟨w.heap.size, 0, none⟩ (.slice A 9 c))) := by
        refine ⟨A, c, sp, by rw [hlen], hrep, (hO.put h0 (by decide) (by decide) 0 _).weak (by omega), hb.setCell (p := ⟨w.heap.size, 0, none⟩) (Nat.le_refl _) _⟩
      clear hO h0 h1 hb hrep
      go_wp2
      simp [bodyPost, results, Tryz.results55, go_sem, c0]
      exact HN.out
set_option maxRecDepth 100000 in
theorem exec_fldW {ρ : Operand → Value} {o : Oper} {x : Operand} (b : Nat) (w : World) (ho : o.op = .fieldAddr 57 x 0 := by rfl) (hx : ρ x = .pointer (some ⟨b, 0, none⟩) := by rfl) :
    (execOp ρ o).run Tryz.prog w = .ok (.value (.pointer (some ⟨b, 0, none⟩))) w := by
  unfold execOp
  rw [ho]
  simp [go_sem, hx]
set_option maxRecDepth 100000 in
theorem exec_loadSp {ρ : Operand → Value} {o : Oper} {x : Operand} (t : TypeId) (b off : Nat) (B : Option Addr) (n c : Nat) (w : World) (ht : t = 90 ∨ t = 55) (h : w.cell? ⟨b, off, none⟩ = some (.slice B n c)) (ho : o.op = .load t x := by rfl) (hx : ρ x = .pointer (some ⟨b, off, none⟩) := by rfl) :
    (execOp ρ o).run Tryz.prog w = .ok (.value (.slice B n c)) w := by
  unfold execOp
  rw [ho]
  rcases ht with rfl | rfl <;> simp [go_sem, hx, h]
set_option maxRecDepth 100000 in
theorem exec_storeSp {ρ : Operand → Value} {o : Oper} {x y : Operand} (t : TypeId) (b off : Nat) (B : Option Addr) (n c : Nat) (u : Value) (w : World) (ht : t = 90 ∨ t = 55) (h : w.cell? ⟨b, off, none⟩ = some u) (hz : w.frozen? ⟨b, off, none⟩ = false) (ho : o.op = .store t x y := by rfl) (hx : ρ x = .pointer (some ⟨b, off, none⟩) := by rfl) (hy : ρ y = .slice B n c := by rfl) :
    (execOp ρ o).run Tryz.prog w = .ok .skip (w.setCell ⟨b, off, none⟩ (.slice B n c)) := by
  unfold execOp
  rw [ho]
  rcases ht with rfl | rfl <;> simp [go_sem, hx, hy, h, hz]
set_option maxRecDepth 100000 in
theorem exec_idxSp {ρ : Operand → Value} {o : Oper} {x y : Operand} (b off n c k : Nat) (w : World) (h : k < n) (ho : o.op = .indexAddr 55 x y := by rfl) (hx : ρ x = .slice (some ⟨b, off, none⟩) n c := by rfl) (hy : ρ y = .int .i64 (k : Int) := by rfl) :
    (execOp ρ o).run Tryz.prog w = .ok (.value (.pointer (some ⟨b, off + k, none⟩))) w := by
  have h1 : (k : Int) < (n : Int) := by omega
  unfold execOp
  rw [ho]
  simp [go_sem, hx, hy, h]
set_option maxRecDepth 100000 in
theorem exec_none_pn {ρ : Operand → Value} {o : Oper} (w : World) (ho : o.op = .buildSlice 90 0 #[] := by rfl) :
    (execOp ρ o).run Tryz.prog w = .ok (.value (.slice (some ⟨w.heap.size, 0, none⟩) 0 0)) (w.alloc (.cells #[] 95)) := by
  unfold execOp
  rw [ho]
  simp [go_sem]
set_option maxRecDepth 100000 in
theorem exec_one_sp {ρ : Operand → Value} {o : Oper} {y : Operand} (s : Sp) (w : World) (ho : o.op = .buildSlice 55 1 #[(0, y)] := by rfl) (hy : ρ y = .slice s.a s.l.length s.c := by rfl) :
    (execOp ρ o).run Tryz.prog w = .ok (.value (.slice (some ⟨w.heap.size, 0, none⟩) 1 1)) (w.alloc (.cells (spC s).toArray 90)) := by
  unfold execOp
  rw [ho]
  simp [go_sem, hy, spC]
def CpS (w : World) (g1 g3 b o : Nat) (u1 u3 y : Value) : Prop := w.heap[g3]? = some (.cells #[u3] 57) ∧ w.heap[g1]? = some (.cells #[u1] 57) ∧ w.cell? ⟨b, o, none⟩ = some y
theorem CpS.step {w w' : World} {g1 g3 b o : Nat} {u1 u3 y : Value} {row : Option Nat} (h : CpS w g1 g3 b o u1 u3 y) (g : w.grownBy w' row) (B : Nat) (hr : ∀ j, row = some j → B ≤ j) (h1 : g1 < B) (h3 : g3 < B) (hb : b < B) : CpS w' g1 g3 b o u1 u3 y := by
  obtain ⟨a3, a1, a0⟩ := h
  refine ⟨(g.block _ (blk_lt a3) (fun e => by have := hr _ e.symm; omega)).trans a3, (g.block _ (blk_lt a1) (fun e => by have := hr _ e.symm; omega)).trans a1, World.grownBy.cell g a0 (fun e => by have := hr _ e.symm; simp at this; omega)⟩
theorem OwnW.alloc {w : World} {B : Nat} {A : Option Addr} {c : Nat} {sp : List Sp} (h : OwnW w B A c sp) (o : Obj) : OwnW (w.alloc o) B A c sp := ⟨h.row.alloc o, fun s hs => (h.sp s hs).alloc o⟩
set_option maxRecDepth 100000 in
set_option maxHeartbeats 6400000 in
theorem l9Copy_spec (A : Option Addr) (sp : List Sp) (c : Nat) (w : World) (hn : sp.length ≤ 2097152) (hl : (allPn sp).length ≤ 2097152) (hA : Whl w A sp) :
    Calls Tryz.prog 72 #[.agg #[.slice A sp.length c]] w (NewW w (sp.map (·.l))) := by
  obtain ⟨W, hW⟩ : ∃ W, ((w.alloc (.cells #[.slice A sp.length c] 57)).alloc (.cells #[.slice none 0 0] 57)).alloc (.cells #[.slice none 0 0] 57) = W := ⟨_, rfl⟩
  have T0 : Three w W (.cells #[.slice A sp.length c] 57) (.cells #[.slice none 0 0] 57) (.cells #[.slice none 0 0] 57) := by rw [← hW]; exact Three.make _ _ _ _
  have HT := Lib.hid T0
  have HW := Lib.hid hW
  have ltW : Hid (w.heap.size + 2 < W.heap.size) := by show _ < _; rw [← hW]; simp
  clear T0 hW
  go_enter Tryz.func72, Tryz.ntmps72
  go_wp2_with fail
  rw [HW.out]
  clear HW
  go_loopw [4] (fun i wr => ∃ (k : Nat) (P : Option Addr) (cp : Nat) (sq : List Sp), k ≤ sp.length ∧ i = .int .i64 k ∧ sq.length = k ∧ sq.map (·.l) = (sp.take k).map (·.l) ∧ OwnW wr W.heap.size P cp sq ∧
      Three w wr (.cells #[.slice A sp.length c] 57) (.cells #[.slice none 0 0] 57) (.cells #[.slice P k cp] 57) ∧ W.heap.size ≤ wr.heap.size) (fun i _ => sp.length - (intOf i).toNat)
  case atStart => exact ⟨0, none, 0, [], by omega, rfl, rfl, by simp, ⟨World.ownsRow_nil _ _ _ _, by simp⟩, HT.out, Nat.le_refl _⟩
  case round =>
    clear HT
    obtain ⟨k, P, cp, sq, hk, rfl, hlen, hmap, hO, hT, hs⟩ := hrel
    have ltw := ltW.out
    have q0 := cell_of_row _ _ 0 _ _ _ hT.1
    simp at q0
    by_cases hlt : k < sp.length
    · have hWh := hA.below hT.2.2.2
      have hsp := hWh.at_ hlt
      obtain ⟨b, off, rfl, hbB, _⟩ := hA.row.sp hlt
      obtain ⟨b', off', he, hbB', hc⟩ := hWh.row.sp hlt
      obtain ⟨rfl, rfl⟩ : b = b' ∧ off = off' := by injection he with he; injection he with h1 h2; exact ⟨h1, h2⟩
      have hm1 : (sp.take (k + 1)).map (fun x => x.l) = (sp.take k).map (fun x => x.l) ++ [(sp.getD k sp0).l] := by rw [take_succ_getD sp k sp0 hlt]; simp
      have el := allPn_at_le sp k hlt
      generalize sp.getD k sp0 = s at *
      have hS : CpS wr w.heap.size (w.heap.size + 2) b (off + k) (.slice (some ⟨b, off, none⟩) sp.length c) (.slice P k cp) (.slice s.a s.l.length s.c) := ⟨hT.2.2.1, hT.1, hc⟩
      have HM := Lib.hid hm1
      have HT := Lib.hid hT
      have HS := Lib.hid hsp
      have HO := Lib.hid hO
      have CS := Lib.hid hS
      clear hm1 hT hsp hO hWh hS hc he
      go_wp2_with fail
      refine wp_region_E 12 (fun w' => Hid (CpS w' w.heap.size (w.heap.size + 2) b (off + k) (.slice (some ⟨b, off, none⟩) sp.length c) (.slice P k cp) (.slice s.a s.l.length s.c))) (by kernel_rfl) ?_
      have hS0 : CpS wr.drew _ _ _ _ _ _ _ := CS.out.step (grown_of_below (below_drawn (Below.refl wr.heap.size wr) 1) none) W.heap.size (fun j h => by cases h) (by omega) (by omega) (by omega)
      have hH0 := Lib.hid hS0
      refine e_take 0 13 (.pointer (some ⟨w.heap.size + 2, 0, none⟩)) rfl rfl (by kernel_rfl) (by kernel_rfl) (by kernel_rfl) (by kernel_rfl) (fun _ _ _ h => h) rfl hH0 (fun w _ => exec_fldW _ w) ?_
      refine e_take 1 14 (.slice P k cp) rfl rfl (by kernel_rfl) (by kernel_rfl) (by kernel_rfl) (by kernel_rfl) (fun _ _ _ h => h) rfl hH0 (fun w h => exec_loadSp _ _ 0 P k cp w (.inr rfl) (cell_of_row _ _ 0 _ _ _ h.out.1)) ?_
      simp only [Act.put, List.setIfInBounds_toArray, List.set_cons_zero, List.set_cons_succ]
      refine e_take 3 16 (.pointer (some ⟨w.heap.size, 0, none⟩)) rfl rfl (by kernel_rfl) (by kernel_rfl) (by kernel_rfl) (by kernel_rfl) (fun _ _ _ h => h) rfl hH0 (fun w _ => exec_fldW _ w) ?_
      refine e_take 4 17 (.slice (some ⟨b, off, none⟩) sp.length c) rfl rfl (by kernel_rfl) (by kernel_rfl) (by kernel_rfl) (by kernel_rfl) (fun _ _ _ h => h) rfl hH0 (fun w h => exec_loadSp _ _ 0 _ _ c w (.inr rfl) (cell_of_row _ _ 0 _ _ _ h.out.2.1)) ?_
      simp only [Act.put, List.setIfInBounds_toArray, List.set_cons_zero, List.set_cons_succ]
      refine e_take 5 18 (.int .i64 (k : Int)) rfl rfl (by kernel_rfl) (by kernel_rfl) (by kernel_rfl) (by kernel_rfl) (fun _ _ _ h => h) rfl hH0 (fun w _ => rfl) ?_
      refine e_take 6 19 (.pointer (some ⟨b, off + k, none⟩)) rfl rfl (by kernel_rfl) (by kernel_rfl) (by kernel_rfl) (by kernel_rfl) (fun _ _ _ h => h) rfl hH0 (fun w _ => exec_idxSp b off sp.length c k w hlt) ?_
      simp only [Act.put, List.setIfInBounds_toArray, List.set_cons_zero, List.set_cons_succ]
      refine e_take 7 20 (.slice s.a s.l.length s.c) rfl rfl (by kernel_rfl) (by kernel_rfl) (by kernel_rfl) (by kernel_rfl) (fun _ _ _ h => h) rfl hH0 (fun w h => exec_loadSp _ b (off + k) _ _ _ w (.inl rfl) h.out.2.2) ?_
      simp only [Act.put, List.setIfInBounds_toArray, List.set_cons_zero, List.set_cons_succ]
      have d0 : Below wr.heap.size wr wr.drew := below_drawn (Below.refl _ _) 1
      have hS1 := hS0.step (World.grownBy_alloc wr.drew (.cells #[] 95) none) W.heap.size (fun j h => by cases h) (by omega) (by omega) (by omega)
      refine e_op 2 15 (.slice (some ⟨wr.drew.heap.size, 0, none⟩) 0 0) rfl rfl (by kernel_rfl) rfl (exec_none_pn _) (fun _ => Lib.hid hS1) ?_
      simp only [Act.put, List.setIfInBounds_toArray, List.set_cons_zero, List.set_cons_succ]
      have O1 := own_empty wr.drew W.heap.size 95 2 hs
      have x1 := d0.alloc d0.size (.cells #[] 95)
      obtain ⟨sr, sc, sn⟩ := HS.out.below x1
      refine e_opx 8 21 rfl rfl (by kernel_rfl) rfl (exec_appR rowPin _ W.heap.size _ 0 [] O1 _ s.a s.l.length s.c (s.l.flatMap pnC) (flat_len pnC 2 pnC_len s.l) sr sn (pnC_one _) (by omega) (by simp; omega)) (fun v w' h _ => Lib.hid (hS1.step h.2 W.heap.size (own_low O1) (by omega) (by omega) (by omega))) ?_
      rintro v2 w2 ⟨o2, g2⟩
      simp only [Act.put, List.setIfInBounds_toArray, List.set_cons_zero, List.set_cons_succ]
      rw [Nat.zero_add, List.nil_append] at o2
      obtain ⟨A2, c2, rfl, _⟩ := own_form o2
      have hS2 := hS1.step g2 W.heap.size (own_low O1) (by omega) (by omega) (by omega)
      have hS3 := hS2.step (World.grownBy_alloc w2 (.cells (spC ⟨A2, c2, s.l⟩).toArray 90) none) W.heap.size (fun j h => by cases h) (by omega) (by omega) (by omega)
      refine e_op 9 22 (.slice (some ⟨w2.heap.size, 0, none⟩) 1 1) rfl rfl (by kernel_rfl) rfl (exec_one_sp ⟨A2, c2, s.l⟩ _) (fun _ => Lib.hid hS3) ?_
      simp only [Act.put, List.setIfInBounds_toArray, List.set_cons_zero, List.set_cons_succ]
      have O2 : OwnW w2 W.heap.size P cp sq := by
        have k1 : OwnW (wr.drew.alloc (.cells #[] 95)) W.heap.size P cp sq := HO.out.below x1
        refine ⟨own_kept2 k1.row g2 (fun j h1 h2 => ?_), fun t ht => own_kept2 (k1.sp t ht) g2 (fun j h1 h2 => ?_)⟩
        · injection h2 with h2
          have := (World.ownsRow.lt (HO.out.row) j h1).2
          have h2 : wr.heap.size = j := h2
          omega
        · injection h2 with h2
          have := (World.ownsRow.lt (HO.out.sp t ht) j h1).2
          have h2 : wr.heap.size = j := h2
          omega
      have O3 := O2.alloc (.cells (spC ⟨A2, c2, s.l⟩).toArray 90)
      have s3 := (o2 : Sp.own w2 W.heap.size ⟨A2, c2, s.l⟩).alloc (.cells (spC ⟨A2, c2, s.l⟩).toArray 90)
      have r3 := O3.row
      rw [hlen] at r3
      have gs2 := g2.size
      refine e_opx 10 23 rfl rfl (by kernel_rfl) rfl (exec_appR rowSpk _ W.heap.size _ k (sq.flatMap spC) r3 _ _ 1 1 (spC ⟨A2, c2, s.l⟩) rfl (Rws.new w2 (spC ⟨A2, c2, s.l⟩) 90) (fun h => by cases h) (by intro u hu; exact spC_one [⟨A2, c2, s.l⟩] u (by simpa using hu)) (by omega) (by simp at gs2 ⊢; omega)) (fun v w' h _ => Lib.hid (hS3.step h.2 W.heap.size (own_low r3) (by omega) (by omega) (by omega))) ?_
      rintro v4 w4 ⟨o4, g4⟩
      simp only [Act.put, List.setIfInBounds_toArray, List.set_cons_zero, List.set_cons_succ]
      obtain ⟨A4, c4, rfl, _⟩ := own_form o4
      have hS4 := hS3.step g4 W.heap.size (own_low r3) (by omega) (by omega) (by omega)
      refine e_op 11 24 (.pointer (some ⟨w.heap.size + 2, 0, none⟩)) rfl rfl (by kernel_rfl) rfl (exec_fldW _ _) (fun _ => Lib.hid hS4) ?_
      simp only [Act.put, List.setIfInBounds_toArray, List.set_cons_zero, List.set_cons_succ]
      refine e_store 12 rfl rfl (by kernel_rfl) rfl (exec_storeSp _ _ 0 A4 (k + 1) c4 _ w4 (.inr rfl) (cell_of_row _ _ 0 _ _ _ hS4.1) (frozen_of_row _ _ 0 _ _ hS4.1)) (fun h => absurd rfl h) ?_
      refine e_done (by kernel_rfl) ?_ _
      have O4 : OwnW w4 W.heap.size A4 c4 (sq ++ [⟨A2, c2, s.l⟩]) := by
        refine ⟨?_, OwnW.grow (fun t ht => ?_) r3 g4⟩
        · rw [List.length_append, hlen, List.flatMap_append]; simpa using o4
        · rcases List.mem_append.1 ht with h | h
          · exact O3.sp t h
          · simp at h; subst h; exact s3
      have O5 := Lib.hid (O4.put hS4.1 (by decide) (by decide) 0 (.slice A4 (k + 1) c4))
      have T5 : Hid (Three w (w4.setCell ⟨w.heap.size + 2, 0, none⟩ (.slice A4 (k + 1) c4)) (.cells #[.slice (some ⟨b, off, none⟩) sp.length c] 57) (.cells #[.slice none 0 0] 57) (.cells #[.slice A4 (k + 1) c4] 57)) := by
        have z1 : w4.heap[w.heap.size + 1]? = some (.cells #[.slice none 0 0] 57) := by
          have a1 := blk_call HT.out.2.1 x1
          have a2 := (g2.block _ (blk_lt a1) (fun e => by have := own_low O1 _ e.symm; omega)).trans a1
          have a3 := blk_alloc a2 (.cells (spC ⟨A2, c2, s.l⟩).toArray 90)
          exact (g4.block _ (blk_lt a3) (fun e => by have := own_low r3 _ e.symm; omega)).trans a3
        have bb : Below w.heap.size w w4 := by
          have b1 := HT.out.2.2.2.trans (x1.mono HT.out.2.2.2.size)
          have b2 := b1.grown g2 b1.size (fun j h => by have := own_low O1 j h; omega)
          have b3 := b2.alloc b2.size (.cells (spC ⟨A2, c2, s.l⟩).toArray 90)
          exact b3.grown g4 b3.size (fun j h => by have := own_low r3 j h; omega)
        refine ⟨(heap_set_ne w4 _ 0 _ (by omega)).trans hS4.2.1, (heap_set_ne w4 _ 0 _ (by omega)).trans z1, Go.heap_setCell_same _ _ 0 _ _ (.slice A4 (k + 1) c4) hS4.1, bb.setCell (p := ⟨w.heap.size + 2, 0, none⟩) (by show _ ≤ _ + 2; omega) _⟩
      have s5 : Hid (W.heap.size ≤ (w4.setCell ⟨w.heap.size + 2, 0, none⟩ (.slice A4 (k + 1) c4)).heap.size) := by
        show _ ≤ _
        have := g4.size; simp at this gs2 ⊢; omega
      have M5 : Hid ((sq ++ [(⟨A2, c2, s.l⟩ : Sp)]).map (fun x => x.l) = (sp.take (k + 1)).map (fun x => x.l)) := by
        show _ = _
        rw [List.map_append, hmap, HM.out]; rfl
      clear O4 o4 g4 hS4 hS3 hS2 hS1 hS0 hH0 O3 O2 s3 r3 o2 g2 O1 x1 sr HO HT HS CS hmap q0 d0
      go_wp2
      go_roundw
      case rel => exact ⟨k + 1, A4, c4, sq ++ [⟨A2, c2, s.l⟩], by omega, by go_num, by simp [hlen], M5.out, O5.out, T5.out, s5.out⟩
      case measure => simp [intOf] <;> omega
    · obtain rfl : k = sp.length := by omega
      have c1 := cell_of_row _ _ 0 _ _ _ hT.2.1
      have z1 := frozen_of_row _ _ 0 _ _ hT.2.1
      have c2 := cell_of_row _ _ 0 _ _ _ hT.2.2.1
      simp at c1 c2
      rw [List.take_length] at hmap
      have HN : Hid (NewW w (sp.map (fun x => x.l)) (.returned (.agg #[.slice P sp.length cp])) (wr.setCell ⟨w.heap.size + 1, 0, none⟩ (.slice P sp.length cp))) := by
        refine ⟨P, cp, sq, by rw [hlen], hmap, (hO.put hT.2.1 (by decide) (by decide) 0 _).weak (by omega), hT.2.2.2.setCell (p := ⟨w.heap.size + 1, 0, none⟩) (by show _ ≤ _ + 1; omega) _⟩
      clear hO hT hmap
      go_wp2
      simp [bodyPost, results, Tryz.results72, go_sem, c1]
      exact HN.out
set_option maxRecDepth 100000 in
theorem exec_fldPn0 {ρ : Operand → Value} {o : Oper} {x : Operand} (b off : Nat) (w : World) (ho : o.op = .fieldAddr 95 x 0 := by rfl) (hx : ρ x = .pointer (some ⟨b, off, none⟩) := by rfl) :
    (execOp ρ o).run Tryz.prog w = .ok (.value (.pointer (some ⟨b, off, none⟩))) w := by
  unfold execOp
  rw [ho]
  simp [go_sem, hx]
set_option maxRecDepth 100000 in
theorem exec_rem9 {ρ : Operand → Value} {o : Oper} {x : Operand} (X : Int) (w : World) (ho : o.op = .binOp .rem 3 x (.const (.int .i64 9)) 3 := by rfl) (hx : ρ x = .int .i64 X := by rfl) (hc : ρ (.const (.int .i64 9)) = .int .i64 9 := by rfl) :
    (execOp ρ o).run Tryz.prog w = .ok (.value (.int .i64 (X.tmod 9))) w := by
  have h1 : -9 < X.tmod 9 ∧ X.tmod 9 < 9 := ⟨Int.lt_tmod_of_pos _ (by omega), Int.tmod_lt_of_pos _ (by omega)⟩
  have h2 : IntKind.i64.wrap (X.tmod 9) = X.tmod 9 := by rw [IntKind.wrap_i64]; omega
  unfold execOp
  rw [ho]
  simp [go_sem, hx, hc, h2]
def Pn.inn (x : Pn) : Prop := (1 ≤ x.at_ ∧ x.at_ ≤ 1000008) ∧ (1 ≤ x.id ∧ x.id ≤ 999)
def pnsOk (q : List Pn) (n : Nat) : Prop := ∀ i, i < n → (q.getD i pn0).inn ∧ ∀ k, k < i → (q.getD k pn0).id ≠ (q.getD i pn0).id
def spokeOk (i : Nat) (l : List Pn) (n : Nat) : Prop := ∀ k, k < n → (l.getD k pn0).at_.tmod 9 = (i : Int) ∧ (0 < k → Pn.less (l.getD (k - 1) pn0) (l.getD k pn0))
/-- What WheelOk tells. -/
def wheelFine (ls : List (List Pn)) : Prop := ls.length = 9 ∧ ls.flatten.length ≤ 10 ∧ pnsOk ls.flatten ls.flatten.length ∧ ∀ i, i < ls.length → spokeOk i (ls.getD i []) (ls.getD i []).length
noncomputable def wheelB (ls : List (List Pn)) : Bool := @decide (wheelFine ls) (Classical.propDecidable _)
theorem wheelB_yes {ls : List (List Pn)} (h : wheelFine ls) : wheelB ls = true := by unfold wheelB; exact @decide_eq_true _ (Classical.propDecidable _) h
theorem wheelB_no {ls : List (List Pn)} (h : ¬ wheelFine ls) : wheelB ls = false := by unfold wheelB; exact @decide_eq_false _ (Classical.propDecidable _) h
theorem wheelB_iff {ls : List (List Pn)} (h : wheelB ls = true) : wheelFine ls := by unfold wheelB at h; exact @of_decide_eq_true _ (Classical.propDecidable _) h
theorem ls_at (sp : List Sp) (i : Nat) : (sp.map (fun s => s.l)).getD i [] = (sp.getD i sp0).l := by
  simp only [List.getD_eq_getElem?_getD, List.getElem?_map]
  cases sp[i]? <;> rfl
theorem ls_flat (sp : List Sp) : (sp.map (fun s => s.l)).flatten = allPn sp := by unfold allPn; rw [List.flatMap_def]
set_option maxRecDepth 100000 in
set_option maxHeartbeats 6400000 in
theorem wheelOk_spec (A : Option Addr) (sp : List Sp) (c : Nat) (w : World) (hn : sp.length ≤ 2097152) (hl : (allPn sp).length ≤ 2097152) (hA : Whl w A sp) :
    Calls Tryz.prog 73 #[.agg #[.slice A sp.length c]] w fun e w' => e = .returned (.bool (wheelB (sp.map (fun s => s.l)))) ∧ Below w.heap.size w w' := by
  have no : ∀ {e : Ending} {w' : World}, ¬ wheelFine (sp.map (fun s => s.l)) → (e = .returned (.bool false) ∧ Below w.heap.size w w') → (e = .returned (.bool (wheelB (sp.map (fun s => s.l)))) ∧ Below w.heap.size w w') := fun h x => ⟨by rw [wheelB_no h]; exact x.1, x.2⟩
  obtain ⟨R, hR⟩ : ∃ R, wheelB (sp.map (fun s => s.l)) = R := ⟨_, rfl⟩
  rw [hR]
  have NO : Hid (¬ wheelFine (sp.map (fun s => s.l)) → R = false) := fun h => by rw [← hR]; exact wheelB_no h
  have YES : Hid (wheelFine (sp.map (fun s => s.l)) → R = true) := fun h => by rw [← hR]; exact wheelB_yes h
  clear no hR
  have b0 : Below w.heap.size w (w.alloc (.cells #[.slice A sp.length c] 57)) := (Below.refl _ _).alloc (Nat.le_refl _) _
  have CA := Lib.hid (l9All_spec A sp c (w.alloc (.cells #[.slice A sp.length c] 57)) hn hl (hA.below b0))
  clear b0
  go_enter Tryz.func73, Tryz.ntmps73
  go_wp2_with fail
  refine CA.out.mono ?_
  rintro e w1 ⟨L, cl, rfl, oL, b1⟩
  have q0 := boxk w w1 _ _ b1 0 _ rfl
  have HX : Hid (w1.heap[w.heap.size]? = some (.cells #[.slice A sp.length c] 57)) := blk_call (heap_new _ _) b1
  have bW := Lib.hid (boxB w w1 _ b1)
  have RL := own_rws oL
  clear b1 CA oL
  by_cases g9 : sp.length = 9
  rotate_left
  · have e9 : ((sp.length : Int) != 9) = true := by simp; omega
    have HF : Hid (R = false) := NO.out (fun h => g9 (by have := h.1; simpa using this))
    go_wp2
    go_ret
    exact ⟨by rw [HF.out] <;> rfl, bW.out⟩
  have e9 : ((sp.length : Int) != 9) = false := by simp; omega
  by_cases g10 : (allPn sp).length ≤ 10
  rotate_left
  · have HF : Hid (R = false) := NO.out (fun h => g10 (by have := h.2.1; rw [ls_flat] at this; exact this))
    go_wp2
    go_ret
    exact ⟨by rw [HF.out] <;> rfl, bW.out⟩
  obtain ⟨q, hq⟩ : ∃ q, allPn sp = q := ⟨_, rfl⟩
  rw [hq] at RL g10
  have HQ := Lib.hid hq
  rw [hq] at hl ⊢
  clear hq hl
  go_wp2_with fail
  go_loopw [4] (fun vi wr => ∃ (i n : Nat), i ≤ q.length ∧ vi = .int .i64 i ∧ pnsOk q i ∧ wr = w1.drewN n) (fun vi _ => q.length - (intOf vi).toNat)
  case atStart => exact ⟨0, 0, by omega, rfl, (fun j hj => by omega), rfl⟩
  case round =>
    obtain ⟨i, n, hi0, rfl, hall, rfl⟩ := hrel
    by_cases hi : i < q.length
    · obtain ⟨b, off, rfl, hbB, hx⟩ := RL.pn hi
      by_cases g1 : (q.getD i pn0).inn
      rotate_left
      · have HF : Hid (R = false) := NO.out (fun h => g1 (by have := h.2.2.1; rw [ls_flat, HQ.out] at this; exact (this i hi).1))
        clear hall
        generalize q.getD i pn0 = x at *
        obtain ⟨c0, c1⟩ := hx
        unfold Pn.inn at g1
        by_cases g2 : 1 ≤ x.at_ ∧ x.at_ ≤ 1000008
        · have g3 : ¬ (1 ≤ x.id ∧ x.id ≤ 999) := fun h => g1 ⟨g2, h⟩
          clear g1
          go_wp2_with (go_at_call 24; first | (refine (l1In_yes _ _ _ _ (by omega)).mono ?_; rintro e w' ⟨rfl, rfl⟩) | (refine (l1In_no _ _ _ _ (by omega)).mono ?_; rintro e w' ⟨rfl, rfl⟩))
          go_ret
          exact ⟨by rw [HF.out] <;> rfl, below_drawn bW.out _⟩
        · clear g1
          go_wp2_with (go_at_call 24; first | (refine (l1In_yes _ _ _ _ (by omega)).mono ?_; rintro e w' ⟨rfl, rfl⟩) | (refine (l1In_no _ _ _ _ (by omega)).mono ?_; rintro e w' ⟨rfl, rfl⟩))
          go_ret
          exact ⟨by rw [HF.out] <;> rfl, below_drawn bW.out _⟩
      have hx1 := hx
      obtain ⟨⟨i1, i2⟩, i3, i4⟩ := id g1
      have GX := Lib.hid g1
      obtain ⟨x, ex⟩ : ∃ x, q.getD i pn0 = x := ⟨_, rfl⟩
      rw [ex] at i1 i2 i3 i4 hx hx1
      have EX := Lib.hid ex
      clear ex g1
      obtain ⟨c0, c1⟩ := hx
      have HA := Lib.hid hall
      clear hall hx1
      go_wp2_with (go_at_call 24; first | (refine (l1In_yes _ _ _ _ (by omega)).mono ?_; rintro e w' ⟨rfl, rfl⟩) | (refine (l1In_no _ _ _ _ (by omega)).mono ?_; rintro e w' ⟨rfl, rfl⟩))
      go_loopw [5] (fun vk wr => ∃ (k m : Nat), k ≤ i ∧ vk = .int .i64 k ∧ (∀ j, j < k → (q.getD j pn0).id ≠ x.id) ∧ wr = w1.drewN m) (fun vk _ => i - (intOf vk).toNat)
      case atStart => exact ⟨0, n, by omega, rfl, (fun j hj => by omega), rfl⟩
      case round =>
        obtain ⟨k, m, hk, rfl, hne, rfl⟩ := hrel
        by_cases hki : k < i
        · obtain ⟨b', off', he, hbB', hy⟩ := RL.pn (i := k) (by omega)
          obtain ⟨rfl, rfl⟩ : b = b' ∧ off = off' := by injection he with he; injection he with h1 h2; exact ⟨h1, h2⟩
          obtain ⟨_, d1⟩ := hy
          clear he
          by_cases g4 : (q.getD k pn0).id = x.id
          · have HF : Hid (R = false) := NO.out (fun h => by have h2 := h.2.2.1; rw [ls_flat, HQ.out] at h2; have := (h2 i hi).2 k hki; rw [EX.out] at this; exact this g4)
            generalize q.getD k pn0 = y at *
            have e4 : (y.id == x.id) = true := by simp [g4]
            clear hne g4
            go_wp2_with fail
            go_quiet (fail)
            go_wp2
            go_ret
            exact ⟨by rw [HF.out] <;> rfl, below_drawn (below_drawn bW.out _) _⟩
          · have hne' : ∀ j, j < k + 1 → (q.getD j pn0).id ≠ x.id := by
              intro j hj
              by_cases e : j = k
              · subst e; exact g4
              · exact hne j (by omega)
            have HN := Lib.hid hne'
            clear hne hne'
            generalize q.getD k pn0 = y at *
            have e4 : (y.id == x.id) = false := by simp [g4]
            clear g4
            go_wp2_with fail
            go_quiet (fail)
            go_wp2
            go_roundw
            case rel => exact ⟨k + 1, _, by omega, by go_num, HN.out, rfl⟩
            case measure => simp [intOf] <;> omega
        · obtain rfl : k = i := by omega
          have HP : Hid (pnsOk q (k + 1)) := by
            intro j hj
            by_cases e : j = k
            · subst e; rw [EX.out]; exact ⟨by rw [← EX.out]; exact GX.out, hne⟩
            · exact HA.out j (by omega)
          clear hne HA
          go_wp2
          go_roundw
          case rel => exact ⟨k + 1, _, by omega, by go_num, HP.out, rfl⟩
          case measure => simp [intOf] <;> omega
    · obtain rfl : i = q.length := by omega
      have HP := Lib.hid hall
      have b2 : Below w1.heap.size w1 (w1.drewN n) := below_drawn (Below.refl _ _) _
      generalize w1.drewN n = w2 at *
      have HX := Lib.hid (blk_call HX.out b2)
      have bW := Lib.hid (bW.out.trans (b2.mono bW.out.size))
      clear hall b2 RL q0 hi
      go_wp2_with fail
      go_loopw [6] (fun vi wr => ∃ (i : Nat), i ≤ 9 ∧ vi = .int .i64 i ∧ (∀ j, j < i → spokeOk j (sp.getD j sp0).l (sp.getD j sp0).l.length) ∧ Below w2.heap.size w2 wr) (fun vi _ => 9 - (intOf vi).toNat)
      case atStart => exact ⟨0, by omega, rfl, (fun j hj => by omega), Below.refl _ _⟩
      case round =>
        obtain ⟨i, hi0, rfl, hall, hb⟩ := hrel
        have hW := (hA.below bW.out).below hb
        have c0 := cell_of_row _ _ 0 _ _ _ (blk_call HX.out hb)
        simp at c0
        by_cases hi : i < sp.length
        · have hs := hW.at_ hi
          obtain ⟨b, off, rfl, hbB, hc⟩ := hW.row.sp hi
          obtain ⟨s, es⟩ : ∃ s, sp.getD i sp0 = s := ⟨_, rfl⟩
          rw [es] at hs hc
          have hln : s.l.length ≤ 10 := by have := allPn_at_le sp i hi; rw [es, HQ.out] at this; omega
          have ES := Lib.hid es
          have HA2 := Lib.hid hall
          clear es hall
          obtain ⟨sa, scap, sl⟩ := s
          have hln : sl.length ≤ 10 := hln
          clear hs hc
          go_wp2_with fail
          go_loopw [7] (fun vk wr => ∃ (k : Nat), k ≤ sl.length ∧ vk = .int .i64 k ∧ spokeOk i sl k ∧ Below w2.heap.size w2 wr) (fun vk _ => sl.length - (intOf vk).toNat)
          case atStart => exact ⟨0, by omega, rfl, (fun j hj => by omega), hb⟩
          case round =>
            clear hb hW c0 hbB
            obtain ⟨k, hk0, rfl, hsp, hb⟩ := hrel
            have hW := (hA.below bW.out).below hb
            have hbx := blk_call HX.out hb
            have hs := hW.at_ hi
            obtain ⟨b', off', he, hbB, hc⟩ := hW.row.sp hi
            obtain ⟨rfl, rfl⟩ : b = b' ∧ off = off' := by injection he with he; injection he with h1 h2; exact ⟨h1, h2⟩
            rw [ES.out] at hs hc
            have c0 := cell_of_row _ _ 0 _ _ _ hbx
            simp at c0
            have hc : wr.cell? ⟨b, off + i, none⟩ = some (.slice sa sl.length scap) := hc
            have KB := Lib.hid (fun w' (h : Below wr.heap.size wr w') => cell_of_row _ _ 0 _ _ _ (blk_call hbx h))
            have KS := Lib.hid (fun w' (h : Below wr.heap.size wr w') => (h.cell (by exact hbB)).trans hc)
            clear he hbx hW
            by_cases hk : k < sl.length
            · obtain ⟨pb, po, rfl, hpB, hx⟩ := Rws.pn (show Rws wr wr.heap.size sa (sl.flatMap pnC) from hs.row) hk
              have hy : 0 < k → Pn.here wr pb (po + (k - 1) * 2) (sl.getD (k - 1) pn0) := fun h => by
                obtain ⟨pb', po', he, _, hy⟩ := Rws.pn (show Rws wr wr.heap.size (some ⟨pb, po, none⟩) (sl.flatMap pnC) from hs.row) (i := k - 1) (by omega)
                injection he with he; injection he with h1 h2; subst h1 h2; exact hy
              have HS := Lib.hid hsp
              have HB := Lib.hid hb
              have HBS := hb.size
              clear hs hsp hb
              by_cases ga : (sl.getD k pn0).at_.tmod 9 = (i : Int)
              rotate_left
              · have HF : Hid (R = false) := NO.out (fun h => by have h2 := h.2.2.2 i (by rw [List.length_map]; omega); rw [ls_at, ES.out] at h2; exact ga (h2 k hk).1)
                generalize sl.getD k pn0 = x at *
                have KX := Lib.hid (fun w' (h : Below wr.heap.size wr w') => Pn.here.below hx h hpB)
                have en : (x.at_.tmod 9 != (i : Int)) = true := by simp [ga]
                clear hx hy ga
                go_wp2_with fail
                refine wp_region_held_drew (S := fun w' => Hid (Below wr.heap.size wr w')) (by kernel_rfl) (below_drawn (Below.refl _ _) 1) (fun hHeld => ?_)
                refine held_take 0 74 (.pointer (some ⟨w.heap.size, 0, none⟩)) rfl rfl (by kernel_rfl) (by kernel_rfl) (by kernel_rfl) (fun _ _ _ h => h) rfl hHeld (fun w _ => exec_fldW _ w) ?_
                refine held_take 1 75 (.slice (some ⟨b, off, none⟩) sp.length c) rfl rfl (by kernel_rfl) (by kernel_rfl) (by kernel_rfl) (fun _ _ _ h => h) rfl hHeld (fun w hS => exec_loadSp _ _ 0 _ _ c w (.inr rfl) (KB.out w hS.out)) ?_
                refine held_take 2 76 (.int .i64 (i : Int)) rfl rfl (by kernel_rfl) (by kernel_rfl) (by kernel_rfl) (fun _ _ _ h => h) rfl hHeld (fun w _ => rfl) ?_
                simp only [Act.put, List.setIfInBounds_toArray, List.set_cons_zero, List.set_cons_succ]
                refine held_take 3 77 (.pointer (some ⟨b, off + i, none⟩)) rfl rfl (by kernel_rfl) (by kernel_rfl) (by kernel_rfl) (fun _ _ _ h => h) rfl hHeld (fun w _ => exec_idxSp b off sp.length c i w hi) ?_
                refine held_take 4 78 (.slice (some ⟨pb, po, none⟩) sl.length scap) rfl rfl (by kernel_rfl) (by kernel_rfl) (by kernel_rfl) (fun _ _ _ h => h) rfl hHeld (fun w hS => exec_loadSp _ b (off + i) _ _ _ w (.inl rfl) (KS.out w hS.out)) ?_
                refine held_take 5 79 (.int .i64 (k : Int)) rfl rfl (by kernel_rfl) (by kernel_rfl) (by kernel_rfl) (fun _ _ _ h => h) rfl hHeld (fun w _ => rfl) ?_
                simp only [Act.put, List.setIfInBounds_toArray, List.set_cons_zero, List.set_cons_succ]
                refine held_take 6 80 (.pointer (some ⟨pb, po + k * 2, none⟩)) rfl rfl (by kernel_rfl) (by kernel_rfl) (by kernel_rfl) (fun _ _ _ h => h) rfl hHeld (fun w _ => exec_idx_pn pb po sl.length scap k w hk) ?_
                refine held_take 7 81 (.pointer (some ⟨pb, po + k * 2, none⟩)) rfl rfl (by kernel_rfl) (by kernel_rfl) (by kernel_rfl) (fun _ _ _ h => h) rfl hHeld (fun w _ => exec_fldPn0 _ _ w) ?_
                refine held_take 8 82 (.int .i64 x.at_) rfl rfl (by kernel_rfl) (by kernel_rfl) (by kernel_rfl) (fun _ _ _ h => h) rfl hHeld (fun w hS => exec_load1 3 pb (po + k * 2) _ w (.inl rfl) (KX.out w hS.out).1) ?_
                simp only [Act.put, List.setIfInBounds_toArray, List.set_cons_zero, List.set_cons_succ]
                refine held_take 9 83 (.int .i64 (x.at_.tmod 9)) rfl rfl (by kernel_rfl) (by kernel_rfl) (by kernel_rfl) (fun _ _ _ h => h) rfl hHeld (fun w _ => exec_rem9 x.at_ w) ?_
                refine held_take 10 84 (.int .i64 (i : Int)) rfl rfl (by kernel_rfl) (by kernel_rfl) (by kernel_rfl) (fun _ _ _ h => h) rfl hHeld (fun w _ => rfl) ?_
                refine held_take 11 85 (.bool true) rfl rfl (by kernel_rfl) (by kernel_rfl) (by kernel_rfl) (fun _ _ _ h => h) rfl hHeld (fun w _ => exec_neqI (x.at_.tmod 9) (i : Int) _ w en) ?_
                simp only [Act.put, List.setIfInBounds_toArray, List.set_cons_zero, List.set_cons_succ]
                refine held_take 12 86 (.bool true) rfl rfl (by kernel_rfl) (by kernel_rfl) (by kernel_rfl) (fun _ _ _ h => h) rfl hHeld (fun w _ => rfl) ?_
                refine held_skip 13 87 rfl rfl (by kernel_rfl) (by kernel_rfl) (by kernel_rfl) (fun _ _ _ h => h) rfl hHeld ?_
                simp only [Act.put, List.setIfInBounds_toArray, List.set_cons_zero, List.set_cons_succ]
                refine held_skip 14 88 rfl rfl (by kernel_rfl) (by kernel_rfl) (by kernel_rfl) (fun _ _ _ h => h) rfl hHeld ?_
                refine held_skip 15 89 rfl rfl (by kernel_rfl) (by kernel_rfl) (by kernel_rfl) (fun _ _ _ h => h) rfl hHeld ?_
                simp only [Act.put, List.setIfInBounds_toArray, List.set_cons_zero, List.set_cons_succ]
                refine held_skip 16 90 rfl rfl (by kernel_rfl) (by kernel_rfl) (by kernel_rfl) (fun _ _ _ h => h) rfl hHeld ?_
                refine held_skip 17 91 rfl rfl (by kernel_rfl) (by kernel_rfl) (by kernel_rfl) (fun _ _ _ h => h) rfl hHeld ?_
                simp only [Act.put, List.setIfInBounds_toArray, List.set_cons_zero, List.set_cons_succ]
                refine held_skip 18 92 rfl rfl (by kernel_rfl) (by kernel_rfl) (by kernel_rfl) (fun _ _ _ h => h) rfl hHeld ?_
                refine held_skip 19 93 rfl rfl (by kernel_rfl) (by kernel_rfl) (by kernel_rfl) (fun _ _ _ h => h) rfl hHeld ?_
                simp only [Act.put, List.setIfInBounds_toArray, List.set_cons_zero, List.set_cons_succ]
                refine held_skip 20 94 rfl rfl (by kernel_rfl) (by kernel_rfl) (by kernel_rfl) (fun _ _ _ h => h) rfl hHeld ?_
                refine held_skip 21 95 rfl rfl (by kernel_rfl) (by kernel_rfl) (by kernel_rfl) (fun _ _ _ h => h) rfl hHeld ?_
                simp only [Act.put, List.setIfInBounds_toArray, List.set_cons_zero, List.set_cons_succ]
                refine held_skip 22 96 rfl rfl (by kernel_rfl) (by kernel_rfl) (by kernel_rfl) (fun _ _ _ h => h) rfl hHeld ?_
                refine held_skip 23 97 rfl rfl (by kernel_rfl) (by kernel_rfl) (by kernel_rfl) (fun _ _ _ h => h) rfl hHeld ?_
                simp only [Act.put, List.setIfInBounds_toArray, List.set_cons_zero, List.set_cons_succ]
                refine held_skip 24 98 rfl rfl (by kernel_rfl) (by kernel_rfl) (by kernel_rfl) (fun _ _ _ h => h) rfl hHeld ?_
                refine held_skip 25 99 rfl rfl (by kernel_rfl) (by kernel_rfl) (by kernel_rfl) (fun _ _ _ h => h) rfl hHeld ?_
                simp only [Act.put, List.setIfInBounds_toArray, List.set_cons_zero, List.set_cons_succ]
                refine held_skip 26 100 rfl rfl (by kernel_rfl) (by kernel_rfl) (by kernel_rfl) (fun _ _ _ h => h) rfl hHeld ?_
                refine held_skip 27 101 rfl rfl (by kernel_rfl) (by kernel_rfl) (by kernel_rfl) (fun _ _ _ h => h) rfl hHeld ?_
                simp only [Act.put, List.setIfInBounds_toArray, List.set_cons_zero, List.set_cons_succ]
                refine held_skip 28 102 rfl rfl (by kernel_rfl) (by kernel_rfl) (by kernel_rfl) (fun _ _ _ h => h) rfl hHeld ?_
                refine held_skip 29 103 rfl rfl (by kernel_rfl) (by kernel_rfl) (by kernel_rfl) (fun _ _ _ h => h) rfl hHeld ?_
                simp only [Act.put, List.setIfInBounds_toArray, List.set_cons_zero, List.set_cons_succ]
                refine held_skip 30 104 rfl rfl (by kernel_rfl) (by kernel_rfl) (by kernel_rfl) (fun _ _ _ h => h) rfl hHeld ?_
                refine held_skip 31 105 rfl rfl (by kernel_rfl) (by kernel_rfl) (by kernel_rfl) (fun _ _ _ h => h) rfl hHeld ?_
                simp only [Act.put, List.setIfInBounds_toArray, List.set_cons_zero, List.set_cons_succ]
                refine held_skip 32 106 rfl rfl (by kernel_rfl) (by kernel_rfl) (by kernel_rfl) (fun _ _ _ h => h) rfl hHeld ?_
                refine held_skip 33 107 rfl rfl (by kernel_rfl) (by kernel_rfl) (by kernel_rfl) (fun _ _ _ h => h) rfl hHeld ?_
                simp only [Act.put, List.setIfInBounds_toArray, List.set_cons_zero, List.set_cons_succ]
                refine held_skip 34 108 rfl rfl (by kernel_rfl) (by kernel_rfl) (by kernel_rfl) (fun _ _ _ h => h) rfl hHeld ?_
                refine held_skip 35 109 rfl rfl (by kernel_rfl) (by kernel_rfl) (by kernel_rfl) (fun _ _ _ h => h) rfl hHeld ?_
                simp only [Act.put, List.setIfInBounds_toArray, List.set_cons_zero, List.set_cons_succ]
                refine held_take 36 110 (.bool true) rfl rfl (by kernel_rfl) (by kernel_rfl) (by kernel_rfl) (fun _ _ _ h => h) rfl hHeld (fun w _ => exec_pickT _ w) ?_
                refine wpAnyH_done (by kernel_rfl) ?_ _
                have bF := Lib.hid (bW.out.trans ((HB.out.trans (hHeld.out.mono HBS)).mono bW.out.size))
                clear hHeld
                go_wp2
                go_ret
                exact ⟨by rw [HF.out] <;> rfl, bF.out⟩
              by_cases gk : k = 0
              · subst gk
                have HP2 : Hid (spokeOk i sl (0 + 1)) := fun j hj => by
                  obtain rfl : j = 0 := by omega
                  exact ⟨ga, fun h => by omega⟩
                generalize sl.getD 0 pn0 = x at *
                have KX := Lib.hid (fun w' (h : Below wr.heap.size wr w') => Pn.here.below hx h hpB)
                have en : (x.at_.tmod 9 != (i : Int)) = false := by simp [ga]
                clear hx hy ga
                go_wp2_with fail
                refine wp_region_held_drew (S := fun w' => Hid (Below wr.heap.size wr w')) (by kernel_rfl) (below_drawn (Below.refl _ _) 1) (fun hHeld => ?_)
                refine held_take 0 74 (.pointer (some ⟨w.heap.size, 0, none⟩)) rfl rfl (by kernel_rfl) (by kernel_rfl) (by kernel_rfl) (fun _ _ _ h => h) rfl hHeld (fun w _ => exec_fldW _ w) ?_
                refine held_take 1 75 (.slice (some ⟨b, off, none⟩) sp.length c) rfl rfl (by kernel_rfl) (by kernel_rfl) (by kernel_rfl) (fun _ _ _ h => h) rfl hHeld (fun w hS => exec_loadSp _ _ 0 _ _ c w (.inr rfl) (KB.out w hS.out)) ?_
                refine held_take 2 76 (.int .i64 (i : Int)) rfl rfl (by kernel_rfl) (by kernel_rfl) (by kernel_rfl) (fun _ _ _ h => h) rfl hHeld (fun w _ => rfl) ?_
                simp only [Act.put, List.setIfInBounds_toArray, List.set_cons_zero, List.set_cons_succ]
                refine held_take 3 77 (.pointer (some ⟨b, off + i, none⟩)) rfl rfl (by kernel_rfl) (by kernel_rfl) (by kernel_rfl) (fun _ _ _ h => h) rfl hHeld (fun w _ => exec_idxSp b off sp.length c i w hi) ?_
                refine held_take 4 78 (.slice (some ⟨pb, po, none⟩) sl.length scap) rfl rfl (by kernel_rfl) (by kernel_rfl) (by kernel_rfl) (fun _ _ _ h => h) rfl hHeld (fun w hS => exec_loadSp _ b (off + i) _ _ _ w (.inl rfl) (KS.out w hS.out)) ?_
                refine held_take 5 79 (.int .i64 ((0 : Nat) : Int)) rfl rfl (by kernel_rfl) (by kernel_rfl) (by kernel_rfl) (fun _ _ _ h => h) rfl hHeld (fun w _ => rfl) ?_
                simp only [Act.put, List.setIfInBounds_toArray, List.set_cons_zero, List.set_cons_succ]
                refine held_take 6 80 (.pointer (some ⟨pb, po + 0 * 2, none⟩)) rfl rfl (by kernel_rfl) (by kernel_rfl) (by kernel_rfl) (fun _ _ _ h => h) rfl hHeld (fun w _ => exec_idx_pn pb po sl.length scap 0 w hk) ?_
                refine held_take 7 81 (.pointer (some ⟨pb, po + 0 * 2, none⟩)) rfl rfl (by kernel_rfl) (by kernel_rfl) (by kernel_rfl) (fun _ _ _ h => h) rfl hHeld (fun w _ => exec_fldPn0 _ _ w) ?_
                refine held_take 8 82 (.int .i64 x.at_) rfl rfl (by kernel_rfl) (by kernel_rfl) (by kernel_rfl) (fun _ _ _ h => h) rfl hHeld (fun w hS => exec_load1 3 pb (po + 0 * 2) _ w (.inl rfl) (KX.out w hS.out).1) ?_
                simp only [Act.put, List.setIfInBounds_toArray, List.set_cons_zero, List.set_cons_succ]
                refine held_take 9 83 (.int .i64 (x.at_.tmod 9)) rfl rfl (by kernel_rfl) (by kernel_rfl) (by kernel_rfl) (fun _ _ _ h => h) rfl hHeld (fun w _ => exec_rem9 x.at_ w) ?_
                refine held_take 10 84 (.int .i64 (i : Int)) rfl rfl (by kernel_rfl) (by kernel_rfl) (by kernel_rfl) (fun _ _ _ h => h) rfl hHeld (fun w _ => rfl) ?_
                refine held_take 11 85 (.bool false) rfl rfl (by kernel_rfl) (by kernel_rfl) (by kernel_rfl) (fun _ _ _ h => h) rfl hHeld (fun w _ => exec_neqI (x.at_.tmod 9) (i : Int) _ w en) ?_
                simp only [Act.put, List.setIfInBounds_toArray, List.set_cons_zero, List.set_cons_succ]
                refine held_take 12 86 (.bool false) rfl rfl (by kernel_rfl) (by kernel_rfl) (by kernel_rfl) (fun _ _ _ h => h) rfl hHeld (fun w _ => rfl) ?_
                refine held_take 13 87 (.int .i64 ((0 : Nat) : Int)) rfl rfl (by kernel_rfl) (by kernel_rfl) (by kernel_rfl) (fun _ _ _ h => h) rfl hHeld (fun w _ => rfl) ?_
                refine held_take 14 88 (.bool false) rfl rfl (by kernel_rfl) (by kernel_rfl) (by kernel_rfl) (fun _ _ _ h => h) rfl hHeld (fun w _ => exec_gtrI ((0 : Nat) : Int) 0 _ w (by simp)) ?_
                simp only [Act.put, List.setIfInBounds_toArray, List.set_cons_zero, List.set_cons_succ]
                refine held_take 15 89 (.bool false) rfl rfl (by kernel_rfl) (by kernel_rfl) (by kernel_rfl) (fun _ _ _ h => h) rfl hHeld (fun w _ => rfl) ?_
                refine held_skip 16 90 rfl rfl (by kernel_rfl) (by kernel_rfl) (by kernel_rfl) (fun _ _ _ h => h) rfl hHeld ?_
                simp only [Act.put, List.setIfInBounds_toArray, List.set_cons_zero, List.set_cons_succ]
                refine held_skip 17 91 rfl rfl (by kernel_rfl) (by kernel_rfl) (by kernel_rfl) (fun _ _ _ h => h) rfl hHeld ?_
                refine held_skip 18 92 rfl rfl (by kernel_rfl) (by kernel_rfl) (by kernel_rfl) (fun _ _ _ h => h) rfl hHeld ?_
                simp only [Act.put, List.setIfInBounds_toArray, List.set_cons_zero, List.set_cons_succ]
                refine held_skip 19 93 rfl rfl (by kernel_rfl) (by kernel_rfl) (by kernel_rfl) (fun _ _ _ h => h) rfl hHeld ?_
                refine held_skip 20 94 rfl rfl (by kernel_rfl) (by kernel_rfl) (by kernel_rfl) (fun _ _ _ h => h) rfl hHeld ?_
                simp only [Act.put, List.setIfInBounds_toArray, List.set_cons_zero, List.set_cons_succ]
                refine held_skip 21 95 rfl rfl (by kernel_rfl) (by kernel_rfl) (by kernel_rfl) (fun _ _ _ h => h) rfl hHeld ?_
                refine held_skip 22 96 rfl rfl (by kernel_rfl) (by kernel_rfl) (by kernel_rfl) (fun _ _ _ h => h) rfl hHeld ?_
                simp only [Act.put, List.setIfInBounds_toArray, List.set_cons_zero, List.set_cons_succ]
                refine held_skip 23 97 rfl rfl (by kernel_rfl) (by kernel_rfl) (by kernel_rfl) (fun _ _ _ h => h) rfl hHeld ?_
                refine held_skip 24 98 rfl rfl (by kernel_rfl) (by kernel_rfl) (by kernel_rfl) (fun _ _ _ h => h) rfl hHeld ?_
                simp only [Act.put, List.setIfInBounds_toArray, List.set_cons_zero, List.set_cons_succ]
                refine held_skip 25 99 rfl rfl (by kernel_rfl) (by kernel_rfl) (by kernel_rfl) (fun _ _ _ h => h) rfl hHeld ?_
                refine held_skip 26 100 rfl rfl (by kernel_rfl) (by kernel_rfl) (by kernel_rfl) (fun _ _ _ h => h) rfl hHeld ?_
                simp only [Act.put, List.setIfInBounds_toArray, List.set_cons_zero, List.set_cons_succ]
                refine held_skip 27 101 rfl rfl (by kernel_rfl) (by kernel_rfl) (by kernel_rfl) (fun _ _ _ h => h) rfl hHeld ?_
                refine held_skip 28 102 rfl rfl (by kernel_rfl) (by kernel_rfl) (by kernel_rfl) (fun _ _ _ h => h) rfl hHeld ?_
                simp only [Act.put, List.setIfInBounds_toArray, List.set_cons_zero, List.set_cons_succ]
                refine held_skip 29 103 rfl rfl (by kernel_rfl) (by kernel_rfl) (by kernel_rfl) (fun _ _ _ h => h) rfl hHeld ?_
                refine held_skip 30 104 rfl rfl (by kernel_rfl) (by kernel_rfl) (by kernel_rfl) (fun _ _ _ h => h) rfl hHeld ?_
                simp only [Act.put, List.setIfInBounds_toArray, List.set_cons_zero, List.set_cons_succ]
                refine held_skip 31 105 rfl rfl (by kernel_rfl) (by kernel_rfl) (by kernel_rfl) (fun _ _ _ h => h) rfl hHeld ?_
                refine held_skip 32 106 rfl rfl (by kernel_rfl) (by kernel_rfl) (by kernel_rfl) (fun _ _ _ h => h) rfl hHeld ?_
                simp only [Act.put, List.setIfInBounds_toArray, List.set_cons_zero, List.set_cons_succ]
                refine held_skip 33 107 rfl rfl (by kernel_rfl) (by kernel_rfl) (by kernel_rfl) (fun _ _ _ h => h) rfl hHeld ?_
                refine held_skip 34 108 rfl rfl (by kernel_rfl) (by kernel_rfl) (by kernel_rfl) (fun _ _ _ h => h) rfl hHeld ?_
                simp only [Act.put, List.setIfInBounds_toArray, List.set_cons_zero, List.set_cons_succ]
                refine held_take 35 109 (.bool false) rfl rfl (by kernel_rfl) (by kernel_rfl) (by kernel_rfl) (fun _ _ _ h => h) rfl hHeld (fun w _ => exec_pickF _ w) ?_
                refine held_take 36 110 (.bool false) rfl rfl (by kernel_rfl) (by kernel_rfl) (by kernel_rfl) (fun _ _ _ h => h) rfl hHeld (fun w _ => exec_pickF _ w) ?_
                refine wpAnyH_done (by kernel_rfl) ?_ _
                have BF := Lib.hid (HB.out.trans (hHeld.out.mono HBS))
                clear hHeld HB
                go_wp2
                go_roundw
                case rel => exact ⟨0 + 1, by omega, by go_num, HP2.out, BF.out⟩
                case measure => simp [intOf] <;> omega
              have gk : 0 < k := by omega
              have hy := hy gk
              by_cases gl : Pn.less (sl.getD (k - 1) pn0) (sl.getD k pn0)
              · have HP2 : Hid (spokeOk i sl (k + 1)) := fun j hj => by
                  by_cases e : j = k
                  · subst e; exact ⟨ga, fun _ => gl⟩
                  · exact HS.out j (by omega)
                have HL : Hid (decide (Pn.less (sl.getD (k - 1) pn0) (sl.getD k pn0)) = true) := decide_eq_true gl
                clear gl
                generalize sl.getD k pn0 = x at *
                generalize sl.getD (k - 1) pn0 = y at *
                have CL := Lib.hid (fun w => l9Less_spec y x w)
                rw [HL.out] at CL
                have KX := Lib.hid (fun w' (h : Below wr.heap.size wr w') => Pn.here.below hx h hpB)
                have KY := Lib.hid (fun w' (h : Below wr.heap.size wr w') => Pn.here.below hy h hpB)
                have en : (x.at_.tmod 9 != (i : Int)) = false := by simp [ga]
                clear hx hy ga
                go_wp2_with fail
                refine wp_region_held_drew (S := fun w' => Hid (Below wr.heap.size wr w')) (by kernel_rfl) (below_drawn (Below.refl _ _) 1) (fun hHeld => ?_)
                refine held_take 0 74 (.pointer (some ⟨w.heap.size, 0, none⟩)) rfl rfl (by kernel_rfl) (by kernel_rfl) (by kernel_rfl) (fun _ _ _ h => h) rfl hHeld (fun w _ => exec_fldW _ w) ?_
                refine held_take 1 75 (.slice (some ⟨b, off, none⟩) sp.length c) rfl rfl (by kernel_rfl) (by kernel_rfl) (by kernel_rfl) (fun _ _ _ h => h) rfl hHeld (fun w hS => exec_loadSp _ _ 0 _ _ c w (.inr rfl) (KB.out w hS.out)) ?_
                refine held_take 2 76 (.int .i64 (i : Int)) rfl rfl (by kernel_rfl) (by kernel_rfl) (by kernel_rfl) (fun _ _ _ h => h) rfl hHeld (fun w _ => rfl) ?_
                simp only [Act.put, List.setIfInBounds_toArray, List.set_cons_zero, List.set_cons_succ]
                refine held_take 3 77 (.pointer (some ⟨b, off + i, none⟩)) rfl rfl (by kernel_rfl) (by kernel_rfl) (by kernel_rfl) (fun _ _ _ h => h) rfl hHeld (fun w _ => exec_idxSp b off sp.length c i w hi) ?_
                refine held_take 4 78 (.slice (some ⟨pb, po, none⟩) sl.length scap) rfl rfl (by kernel_rfl) (by kernel_rfl) (by kernel_rfl) (fun _ _ _ h => h) rfl hHeld (fun w hS => exec_loadSp _ b (off + i) _ _ _ w (.inl rfl) (KS.out w hS.out)) ?_
                refine held_take 5 79 (.int .i64 (k : Int)) rfl rfl (by kernel_rfl) (by kernel_rfl) (by kernel_rfl) (fun _ _ _ h => h) rfl hHeld (fun w _ => rfl) ?_
                simp only [Act.put, List.setIfInBounds_toArray, List.set_cons_zero, List.set_cons_succ]
                refine held_take 6 80 (.pointer (some ⟨pb, po + k * 2, none⟩)) rfl rfl (by kernel_rfl) (by kernel_rfl) (by kernel_rfl) (fun _ _ _ h => h) rfl hHeld (fun w _ => exec_idx_pn pb po sl.length scap k w hk) ?_
                refine held_take 7 81 (.pointer (some ⟨pb, po + k * 2, none⟩)) rfl rfl (by kernel_rfl) (by kernel_rfl) (by kernel_rfl) (fun _ _ _ h => h) rfl hHeld (fun w _ => exec_fldPn0 _ _ w) ?_
                refine held_take 8 82 (.int .i64 x.at_) rfl rfl (by kernel_rfl) (by kernel_rfl) (by kernel_rfl) (fun _ _ _ h => h) rfl hHeld (fun w hS => exec_load1 3 pb (po + k * 2) _ w (.inl rfl) (KX.out w hS.out).1) ?_
                simp only [Act.put, List.setIfInBounds_toArray, List.set_cons_zero, List.set_cons_succ]
                refine held_take 9 83 (.int .i64 (x.at_.tmod 9)) rfl rfl (by kernel_rfl) (by kernel_rfl) (by kernel_rfl) (fun _ _ _ h => h) rfl hHeld (fun w _ => exec_rem9 x.at_ w) ?_
                refine held_take 10 84 (.int .i64 (i : Int)) rfl rfl (by kernel_rfl) (by kernel_rfl) (by kernel_rfl) (fun _ _ _ h => h) rfl hHeld (fun w _ => rfl) ?_
                refine held_take 11 85 (.bool false) rfl rfl (by kernel_rfl) (by kernel_rfl) (by kernel_rfl) (fun _ _ _ h => h) rfl hHeld (fun w _ => exec_neqI (x.at_.tmod 9) (i : Int) _ w en) ?_
                simp only [Act.put, List.setIfInBounds_toArray, List.set_cons_zero, List.set_cons_succ]
                refine held_take 12 86 (.bool false) rfl rfl (by kernel_rfl) (by kernel_rfl) (by kernel_rfl) (fun _ _ _ h => h) rfl hHeld (fun w _ => rfl) ?_
                refine held_take 13 87 (.int .i64 (k : Int)) rfl rfl (by kernel_rfl) (by kernel_rfl) (by kernel_rfl) (fun _ _ _ h => h) rfl hHeld (fun w _ => rfl) ?_
                refine held_take 14 88 (.bool true) rfl rfl (by kernel_rfl) (by kernel_rfl) (by kernel_rfl) (fun _ _ _ h => h) rfl hHeld (fun w _ => exec_gtrI (k : Int) 0 _ w (by simp; omega)) ?_
                simp only [Act.put, List.setIfInBounds_toArray, List.set_cons_zero, List.set_cons_succ]
                refine held_take 15 89 (.bool true) rfl rfl (by kernel_rfl) (by kernel_rfl) (by kernel_rfl) (fun _ _ _ h => h) rfl hHeld (fun w _ => rfl) ?_
                refine held_take 16 90 (.pointer (some ⟨w.heap.size, 0, none⟩)) rfl rfl (by kernel_rfl) (by kernel_rfl) (by kernel_rfl) (fun _ _ _ h => h) rfl hHeld (fun w _ => exec_fldW _ w) ?_
                refine held_take 17 91 (.slice (some ⟨b, off, none⟩) sp.length c) rfl rfl (by kernel_rfl) (by kernel_rfl) (by kernel_rfl) (fun _ _ _ h => h) rfl hHeld (fun w hS => exec_loadSp _ _ 0 _ _ c w (.inr rfl) (KB.out w hS.out)) ?_
                simp only [Act.put, List.setIfInBounds_toArray, List.set_cons_zero, List.set_cons_succ]
                refine held_take 18 92 (.int .i64 (i : Int)) rfl rfl (by kernel_rfl) (by kernel_rfl) (by kernel_rfl) (fun _ _ _ h => h) rfl hHeld (fun w _ => rfl) ?_
                refine held_take 19 93 (.pointer (some ⟨b, off + i, none⟩)) rfl rfl (by kernel_rfl) (by kernel_rfl) (by kernel_rfl) (fun _ _ _ h => h) rfl hHeld (fun w _ => exec_idxSp b off sp.length c i w hi) ?_
                refine held_take 20 94 (.slice (some ⟨pb, po, none⟩) sl.length scap) rfl rfl (by kernel_rfl) (by kernel_rfl) (by kernel_rfl) (fun _ _ _ h => h) rfl hHeld (fun w hS => exec_loadSp _ b (off + i) _ _ _ w (.inl rfl) (KS.out w hS.out)) ?_
                simp only [Act.put, List.setIfInBounds_toArray, List.set_cons_zero, List.set_cons_succ]
                refine held_take 21 95 (.int .i64 (k : Int)) rfl rfl (by kernel_rfl) (by kernel_rfl) (by kernel_rfl) (fun _ _ _ h => h) rfl hHeld (fun w _ => rfl) ?_
                refine held_take 22 96 (.int .i64 ((k - 1 : Nat) : Int)) rfl rfl (by kernel_rfl) (by kernel_rfl) (by kernel_rfl) (fun _ _ _ h => h) rfl hHeld (fun w _ => exec_subI (k : Int) 1 _ w (by omega) (by omega) (by omega)) ?_
                refine held_take 23 97 (.pointer (some ⟨pb, po + (k - 1) * 2, none⟩)) rfl rfl (by kernel_rfl) (by kernel_rfl) (by kernel_rfl) (fun _ _ _ h => h) rfl hHeld (fun w _ => exec_idx_pn pb po sl.length scap (k - 1) w (by omega)) ?_
                simp only [Act.put, List.setIfInBounds_toArray, List.set_cons_zero, List.set_cons_succ]
                refine held_take 24 98 (pnA y) rfl rfl (by kernel_rfl) (by kernel_rfl) (by kernel_rfl) (fun _ _ _ h => h) rfl hHeld (fun w hS => exec_load_pn pb (po + (k - 1) * 2) y w (KY.out w hS.out)) ?_
                refine held_take 25 99 (.pointer (some ⟨w.heap.size, 0, none⟩)) rfl rfl (by kernel_rfl) (by kernel_rfl) (by kernel_rfl) (fun _ _ _ h => h) rfl hHeld (fun w _ => exec_fldW _ w) ?_
                refine held_take 26 100 (.slice (some ⟨b, off, none⟩) sp.length c) rfl rfl (by kernel_rfl) (by kernel_rfl) (by kernel_rfl) (fun _ _ _ h => h) rfl hHeld (fun w hS => exec_loadSp _ _ 0 _ _ c w (.inr rfl) (KB.out w hS.out)) ?_
                simp only [Act.put, List.setIfInBounds_toArray, List.set_cons_zero, List.set_cons_succ]
                refine held_take 27 101 (.int .i64 (i : Int)) rfl rfl (by kernel_rfl) (by kernel_rfl) (by kernel_rfl) (fun _ _ _ h => h) rfl hHeld (fun w _ => rfl) ?_
                refine held_take 28 102 (.pointer (some ⟨b, off + i, none⟩)) rfl rfl (by kernel_rfl) (by kernel_rfl) (by kernel_rfl) (fun _ _ _ h => h) rfl hHeld (fun w _ => exec_idxSp b off sp.length c i w hi) ?_
                refine held_take 29 103 (.slice (some ⟨pb, po, none⟩) sl.length scap) rfl rfl (by kernel_rfl) (by kernel_rfl) (by kernel_rfl) (fun _ _ _ h => h) rfl hHeld (fun w hS => exec_loadSp _ b (off + i) _ _ _ w (.inl rfl) (KS.out w hS.out)) ?_
                simp only [Act.put, List.setIfInBounds_toArray, List.set_cons_zero, List.set_cons_succ]
                refine held_take 30 104 (.int .i64 (k : Int)) rfl rfl (by kernel_rfl) (by kernel_rfl) (by kernel_rfl) (fun _ _ _ h => h) rfl hHeld (fun w _ => rfl) ?_
                refine held_take 31 105 (.pointer (some ⟨pb, po + k * 2, none⟩)) rfl rfl (by kernel_rfl) (by kernel_rfl) (by kernel_rfl) (fun _ _ _ h => h) rfl hHeld (fun w _ => exec_idx_pn pb po sl.length scap k w hk) ?_
                refine held_take 32 106 (pnA x) rfl rfl (by kernel_rfl) (by kernel_rfl) (by kernel_rfl) (fun _ _ _ h => h) rfl hHeld (fun w hS => exec_load_pn pb (po + k * 2) x w (KX.out w hS.out)) ?_
                simp only [Act.put, List.setIfInBounds_toArray, List.set_cons_zero, List.set_cons_succ]
                refine held_call 33 107 90 #[pnA y, pnA x] rfl rfl (by kernel_rfl) rfl (exec_call Tryz.func90 (by kernel_rfl) (by kernel_rfl) _) ?_
                refine (CL.out _).mono ?_
                rintro e u1 ⟨rfl, x1⟩
                have k1 := hHeld.out.trans (x1.mono hHeld.out.size)
                refine ⟨_, rfl, k1, ?_⟩
                simp only [Act.put, List.setIfInBounds_toArray, List.set_cons_zero, List.set_cons_succ]
                refine held_take 34 108 (.bool false) rfl rfl (by kernel_rfl) (by kernel_rfl) (by kernel_rfl) (fun _ _ _ h => h) rfl k1 (fun w _ => rfl) ?_
                refine held_take 35 109 (.bool false) rfl rfl (by kernel_rfl) (by kernel_rfl) (by kernel_rfl) (fun _ _ _ h => h) rfl k1 (fun w _ => exec_pickT _ w) ?_
                refine held_take 36 110 (.bool false) rfl rfl (by kernel_rfl) (by kernel_rfl) (by kernel_rfl) (fun _ _ _ h => h) rfl k1 (fun w _ => exec_pickF _ w) ?_
                simp only [Act.put, List.setIfInBounds_toArray, List.set_cons_zero, List.set_cons_succ]
                refine wpAnyH_done (by kernel_rfl) ?_ _
                have BF := Lib.hid (HB.out.trans (k1.mono HBS))
                clear hHeld HB k1 x1
                go_wp2
                go_roundw
                case rel => exact ⟨k + 1, by omega, by go_num, HP2.out, BF.out⟩
                case measure => simp [intOf] <;> omega
              · have HF : Hid (R = false) := NO.out (fun h => by have h2 := h.2.2.2 i (by rw [List.length_map]; omega); rw [ls_at, ES.out] at h2; exact gl ((h2 k hk).2 gk))
                have HL : Hid (decide (Pn.less (sl.getD (k - 1) pn0) (sl.getD k pn0)) = false) := decide_eq_false gl
                clear gl
                generalize sl.getD k pn0 = x at *
                generalize sl.getD (k - 1) pn0 = y at *
                have CL := Lib.hid (fun w => l9Less_spec y x w)
                rw [HL.out] at CL
                have KX := Lib.hid (fun w' (h : Below wr.heap.size wr w') => Pn.here.below hx h hpB)
                have KY := Lib.hid (fun w' (h : Below wr.heap.size wr w') => Pn.here.below hy h hpB)
                have en : (x.at_.tmod 9 != (i : Int)) = false := by simp [ga]
                clear hx hy ga
                go_wp2_with fail
                refine wp_region_held_drew (S := fun w' => Hid (Below wr.heap.size wr w')) (by kernel_rfl) (below_drawn (Below.refl _ _) 1) (fun hHeld => ?_)
                refine held_take 0 74 (.pointer (some ⟨w.heap.size, 0, none⟩)) rfl rfl (by kernel_rfl) (by kernel_rfl) (by kernel_rfl) (fun _ _ _ h => h) rfl hHeld (fun w _ => exec_fldW _ w) ?_
                refine held_take 1 75 (.slice (some ⟨b, off, none⟩) sp.length c) rfl rfl (by kernel_rfl) (by kernel_rfl) (by kernel_rfl) (fun _ _ _ h => h) rfl hHeld (fun w hS => exec_loadSp _ _ 0 _ _ c w (.inr rfl) (KB.out w hS.out)) ?_
                refine held_take 2 76 (.int .i64 (i : Int)) rfl rfl (by kernel_rfl) (by kernel_rfl) (by kernel_rfl) (fun _ _ _ h => h) rfl hHeld (fun w _ => rfl) ?_
                simp only [Act.put, List.setIfInBounds_toArray, List.set_cons_zero, List.set_cons_succ]
                refine held_take 3 77 (.pointer (some ⟨b, off + i, none⟩)) rfl rfl (by kernel_rfl) (by kernel_rfl) (by kernel_rfl) (fun _ _ _ h => h) rfl hHeld (fun w _ => exec_idxSp b off sp.length c i w hi) ?_
                refine held_take 4 78 (.slice (some ⟨pb, po, none⟩) sl.length scap) rfl rfl (by kernel_rfl) (by kernel_rfl) (by kernel_rfl) (fun _ _ _ h => h) rfl hHeld (fun w hS => exec_loadSp _ b (off + i) _ _ _ w (.inl rfl) (KS.out w hS.out)) ?_
                refine held_take 5 79 (.int .i64 (k : Int)) rfl rfl (by kernel_rfl) (by kernel_rfl) (by kernel_rfl) (fun _ _ _ h => h) rfl hHeld (fun w _ => rfl) ?_
                simp only [Act.put, List.setIfInBounds_toArray, List.set_cons_zero, List.set_cons_succ]
                refine held_take 6 80 (.pointer (some ⟨pb, po + k * 2, none⟩)) rfl rfl (by kernel_rfl) (by kernel_rfl) (by kernel_rfl) (fun _ _ _ h => h) rfl hHeld (fun w _ => exec_idx_pn pb po sl.length scap k w hk) ?_
                refine held_take 7 81 (.pointer (some ⟨pb, po + k * 2, none⟩)) rfl rfl (by kernel_rfl) (by kernel_rfl) (by kernel_rfl) (fun _ _ _ h => h) rfl hHeld (fun w _ => exec_fldPn0 _ _ w) ?_
                refine held_take 8 82 (.int .i64 x.at_) rfl rfl (by kernel_rfl) (by kernel_rfl) (by kernel_rfl) (fun _ _ _ h => h) rfl hHeld (fun w hS => exec_load1 3 pb (po + k * 2) _ w (.inl rfl) (KX.out w hS.out).1) ?_
                simp only [Act.put, List.setIfInBounds_toArray, List.set_cons_zero, List.set_cons_succ]
                refine held_take 9 83 (.int .i64 (x.at_.tmod 9)) rfl rfl (by kernel_rfl) (by kernel_rfl) (by kernel_rfl) (fun _ _ _ h => h) rfl hHeld (fun w _ => exec_rem9 x.at_ w) ?_
                refine held_take 10 84 (.int .i64 (i : Int)) rfl rfl (by kernel_rfl) (by kernel_rfl) (by kernel_rfl) (fun _ _ _ h => h) rfl hHeld (fun w _ => rfl) ?_
                refine held_take 11 85 (.bool false) rfl rfl (by kernel_rfl) (by kernel_rfl) (by kernel_rfl) (fun _ _ _ h => h) rfl hHeld (fun w _ => exec_neqI (x.at_.tmod 9) (i : Int) _ w en) ?_
                simp only [Act.put, List.setIfInBounds_toArray, List.set_cons_zero, List.set_cons_succ]
                refine held_take 12 86 (.bool false) rfl rfl (by kernel_rfl) (by kernel_rfl) (by kernel_rfl) (fun _ _ _ h => h) rfl hHeld (fun w _ => rfl) ?_
                refine held_take 13 87 (.int .i64 (k : Int)) rfl rfl (by kernel_rfl) (by kernel_rfl) (by kernel_rfl) (fun _ _ _ h => h) rfl hHeld (fun w _ => rfl) ?_
                refine held_take 14 88 (.bool true) rfl rfl (by kernel_rfl) (by kernel_rfl) (by kernel_rfl) (fun _ _ _ h => h) rfl hHeld (fun w _ => exec_gtrI (k : Int) 0 _ w (by simp; omega)) ?_
                simp only [Act.put, List.setIfInBounds_toArray, List.set_cons_zero, List.set_cons_succ]
                refine held_take 15 89 (.bool true) rfl rfl (by kernel_rfl) (by kernel_rfl) (by kernel_rfl) (fun _ _ _ h => h) rfl hHeld (fun w _ => rfl) ?_
                refine held_take 16 90 (.pointer (some ⟨w.heap.size, 0, none⟩)) rfl rfl (by kernel_rfl) (by kernel_rfl) (by kernel_rfl) (fun _ _ _ h => h) rfl hHeld (fun w _ => exec_fldW _ w) ?_
                refine held_take 17 91 (.slice (some ⟨b, off, none⟩) sp.length c) rfl rfl (by kernel_rfl) (by kernel_rfl) (by kernel_rfl) (fun _ _ _ h => h) rfl hHeld (fun w hS => exec_loadSp _ _ 0 _ _ c w (.inr rfl) (KB.out w hS.out)) ?_
                simp only [Act.put, List.setIfInBounds_toArray, List.set_cons_zero, List.set_cons_succ]
                refine held_take 18 92 (.int .i64 (i : Int)) rfl rfl (by kernel_rfl) (by kernel_rfl) (by kernel_rfl) (fun _ _ _ h => h) rfl hHeld (fun w _ => rfl) ?_
                refine held_take 19 93 (.pointer (some ⟨b, off + i, none⟩)) rfl rfl (by kernel_rfl) (by kernel_rfl) (by kernel_rfl) (fun _ _ _ h => h) rfl hHeld (fun w _ => exec_idxSp b off sp.length c i w hi) ?_
                refine held_take 20 94 (.slice (some ⟨pb, po, none⟩) sl.length scap) rfl rfl (by kernel_rfl) (by kernel_rfl) (by kernel_rfl) (fun _ _ _ h => h) rfl hHeld (fun w hS => exec_loadSp _ b (off + i) _ _ _ w (.inl rfl) (KS.out w hS.out)) ?_
                simp only [Act.put, List.setIfInBounds_toArray, List.set_cons_zero, List.set_cons_succ]
                refine held_take 21 95 (.int .i64 (k : Int)) rfl rfl (by kernel_rfl) (by kernel_rfl) (by kernel_rfl) (fun _ _ _ h => h) rfl hHeld (fun w _ => rfl) ?_
                refine held_take 22 96 (.int .i64 ((k - 1 : Nat) : Int)) rfl rfl (by kernel_rfl) (by kernel_rfl) (by kernel_rfl) (fun _ _ _ h => h) rfl hHeld (fun w _ => exec_subI (k : Int) 1 _ w (by omega) (by omega) (by omega)) ?_
                refine held_take 23 97 (.pointer (some ⟨pb, po + (k - 1) * 2, none⟩)) rfl rfl (by kernel_rfl) (by kernel_rfl) (by kernel_rfl) (fun _ _ _ h => h) rfl hHeld (fun w _ => exec_idx_pn pb po sl.length scap (k - 1) w (by omega)) ?_
                simp only [Act.put, List.setIfInBounds_toArray, List.set_cons_zero, List.set_cons_succ]
                refine held_take 24 98 (pnA y) rfl rfl (by kernel_rfl) (by kernel_rfl) (by kernel_rfl) (fun _ _ _ h => h) rfl hHeld (fun w hS => exec_load_pn pb (po + (k - 1) * 2) y w (KY.out w hS.out)) ?_
                refine held_take 25 99 (.pointer (some ⟨w.heap.size, 0, none⟩)) rfl rfl (by kernel_rfl) (by kernel_rfl) (by kernel_rfl) (fun _ _ _ h => h) rfl hHeld (fun w _ => exec_fldW _ w) ?_
                refine held_take 26 100 (.slice (some ⟨b, off, none⟩) sp.length c) rfl rfl (by kernel_rfl) (by kernel_rfl) (by kernel_rfl) (fun _ _ _ h => h) rfl hHeld (fun w hS => exec_loadSp _ _ 0 _ _ c w (.inr rfl) (KB.out w hS.out)) ?_
                simp only [Act.put, List.setIfInBounds_toArray, List.set_cons_zero, List.set_cons_succ]
                refine held_take 27 101 (.int .i64 (i : Int)) rfl rfl (by kernel_rfl) (by kernel_rfl) (by kernel_rfl) (fun _ _ _ h => h) rfl hHeld (fun w _ => rfl) ?_
                refine held_take 28 102 (.pointer (some ⟨b, off + i, none⟩)) rfl rfl (by kernel_rfl) (by kernel_rfl) (by kernel_rfl) (fun _ _ _ h => h) rfl hHeld (fun w _ => exec_idxSp b off sp.length c i w hi) ?_
                refine held_take 29 103 (.slice (some ⟨pb, po, none⟩) sl.length scap) rfl rfl (by kernel_rfl) (by kernel_rfl) (by kernel_rfl) (fun _ _ _ h => h) rfl hHeld (fun w hS => exec_loadSp _ b (off + i) _ _ _ w (.inl rfl) (KS.out w hS.out)) ?_
                simp only [Act.put, List.setIfInBounds_toArray, List.set_cons_zero, List.set_cons_succ]
                refine held_take 30 104 (.int .i64 (k : Int)) rfl rfl (by kernel_rfl) (by kernel_rfl) (by kernel_rfl) (fun _ _ _ h => h) rfl hHeld (fun w _ => rfl) ?_
                refine held_take 31 105 (.pointer (some ⟨pb, po + k * 2, none⟩)) rfl rfl (by kernel_rfl) (by kernel_rfl) (by kernel_rfl) (fun _ _ _ h => h) rfl hHeld (fun w _ => exec_idx_pn pb po sl.length scap k w hk) ?_
                refine held_take 32 106 (pnA x) rfl rfl (by kernel_rfl) (by kernel_rfl) (by kernel_rfl) (fun _ _ _ h => h) rfl hHeld (fun w hS => exec_load_pn pb (po + k * 2) x w (KX.out w hS.out)) ?_
                simp only [Act.put, List.setIfInBounds_toArray, List.set_cons_zero, List.set_cons_succ]
                refine held_call 33 107 90 #[pnA y, pnA x] rfl rfl (by kernel_rfl) rfl (exec_call Tryz.func90 (by kernel_rfl) (by kernel_rfl) _) ?_
                refine (CL.out _).mono ?_
                rintro e u1 ⟨rfl, x1⟩
                have k1 := hHeld.out.trans (x1.mono hHeld.out.size)
                refine ⟨_, rfl, k1, ?_⟩
                simp only [Act.put, List.setIfInBounds_toArray, List.set_cons_zero, List.set_cons_succ]
                refine held_take 34 108 (.bool true) rfl rfl (by kernel_rfl) (by kernel_rfl) (by kernel_rfl) (fun _ _ _ h => h) rfl k1 (fun w _ => rfl) ?_
                refine held_take 35 109 (.bool true) rfl rfl (by kernel_rfl) (by kernel_rfl) (by kernel_rfl) (fun _ _ _ h => h) rfl k1 (fun w _ => exec_pickT _ w) ?_
                refine held_take 36 110 (.bool true) rfl rfl (by kernel_rfl) (by kernel_rfl) (by kernel_rfl) (fun _ _ _ h => h) rfl k1 (fun w _ => exec_pickF _ w) ?_
                simp only [Act.put, List.setIfInBounds_toArray, List.set_cons_zero, List.set_cons_succ]
                refine wpAnyH_done (by kernel_rfl) ?_ _
                have bF := Lib.hid (bW.out.trans ((HB.out.trans (k1.mono HBS)).mono bW.out.size))
                clear hHeld k1 x1
                go_wp2
                go_ret
                exact ⟨by rw [HF.out] <;> rfl, bF.out⟩
            · obtain rfl : k = sl.length := by omega
              have HA3 : Hid (∀ j, j < i + 1 → spokeOk j (sp.getD j sp0).l (sp.getD j sp0).l.length) := fun j hj => by
                by_cases e : j = i
                · subst e; rw [ES.out]; exact hsp
                · exact HA2.out j (by omega)
              have HB := Lib.hid hb
              clear hsp hb hs KB KS
              go_wp2
              go_roundw
              case rel => exact ⟨i + 1, by omega, by go_num, HA3.out, HB.out⟩
              case measure => simp [intOf] <;> omega
        · obtain rfl : i = 9 := by omega
          have HF : Hid (R = true) := YES.out ⟨by rw [List.length_map]; exact g9, by rw [ls_flat, HQ.out]; exact g10, by rw [ls_flat, HQ.out]; exact HP.out, fun i hi => by rw [List.length_map] at hi; rw [ls_at]; exact hall i (by omega)⟩
          have bF := Lib.hid (bW.out.trans (hb.mono bW.out.size))
          clear hall hb hW
          go_wp2
          go_ret
          exact ⟨by rw [HF.out] <;> rfl, bF.out⟩
end Go.Proofs.YtlflgflmlfileaaGreat
