/- WheelNew of the model. -/
import Derived.Test.YtdjglbmcpfaofaaRows
import Derived.Test.YtdjglbmcpfaofaaHs12
import Derived.Test.YtdjglbmcpfaofaaSameI
namespace Go.Proofs.Ytdjglbmcpfaofaa
open Go.RowKit
set_option linter.unusedSimpArgs false
set_option linter.unusedVariables false
/-- A spoke of the call's own. -/
def Sp.own (w : World) (B : Nat) (s : Sp) : Prop := w.ownsRow B 70 2 (.slice s.a s.l.length s.c) s.l.length (s.l.flatMap pnC)
theorem Sp.own.ok {w : World} {B : Nat} {s : Sp} (h : s.own w B) : s.ok w := ⟨own_rws h, own_cap h, own_nil h⟩
/-- A wheel of the call's own: its row and its spokes. -/
structure OwnW (w : World) (B : Nat) (A : Option Addr) (c : Nat) (sp : List Sp) : Prop where
  row : w.ownsRow B 29 1 (.slice A sp.length c) sp.length (sp.flatMap spC)
  sp : ∀ s ∈ sp, s.own w B
theorem OwnW.whl {w : World} {B : Nat} {A : Option Addr} {c : Nat} {sp : List Sp} (h : OwnW w B A c sp) : Whl w A sp := ⟨own_rws h.row, fun s hs => (h.sp s hs).ok⟩
theorem OwnW.below {w w' : World} {B : Nat} {A : Option Addr} {c : Nat} {sp : List Sp} (h : OwnW w B A c sp) (hb : Below w.heap.size w w') : OwnW w' B A c sp := ⟨own_below h.row hb, fun s hs => own_below (h.sp s hs) hb⟩
theorem OwnW.weak {w : World} {B B' : Nat} {A : Option Addr} {c : Nat} {sp : List Sp} (h : OwnW w B A c sp) (hB : B' ≤ B) : OwnW w B' A c sp := ⟨own_weak h.row hB, fun s hs => own_weak (h.sp s hs) hB⟩
/-- A block of another type may change. -/
theorem OwnW.put {w : World} {B : Nat} {A : Option Addr} {c : Nat} {sp : List Sp} (h : OwnW w B A c sp) {g : Nat} {cs : Array Value} {t : TypeId} {fr : Nat × Nat} (hg : w.heap[g]? = some (.cells cs t fr)) (h1 : t ≠ 29) (h2 : t ≠ 70) (i : Nat) (v : Value) : OwnW (w.setCell ⟨g, i, none⟩ v) B A c sp :=
  ⟨h.row.kept (Go.Lib.grownBy_setCell w g i v) (.inr (own_ne_type h.row hg h1)), fun s hs => (h.sp s hs).kept (Go.Lib.grownBy_setCell w g i v) (.inr (own_ne_type (h.sp s hs) hg h2))⟩
/-- What is in new memory: a wheel. -/
def NewW (w : World) (ls : List (List Pn)) (e : Ending) (w' : World) : Prop :=
  ∃ A c sp, e = .returned (.agg #[.slice A sp.length c]) ∧ sp.map (·.l) = ls ∧ OwnW w' w.heap.size A c sp ∧ Below w.heap.size w w'
/-- The row of a slice is of its type. -/
theorem own_typed2 {w : World} {B e sz n : Nat} {v : Value} {cs : List Value} (h : w.ownsRow B e sz v n cs) : ∀ k, v.ownBlock = some k → ∃ cur, w.heap[k]? = some (.cells cur e (0, 0)) := by
  intro k hk
  rcases h.2 with ⟨hv, _⟩ | ⟨g, cap, cur, hv, _, hg, _⟩
  · rw [hv] at hk; cases hk
  · rw [hv] at hk; injection hk with hk; subst hk; exact ⟨cur, hg⟩
theorem OwnW.grow {w w' : World} {B : Nat} {sp : List Sp} (h : ∀ s ∈ sp, s.own w B) {v : Value} {n : Nat} {cs : List Value} (hv : w.ownsRow B 29 1 v n cs) (g : w.grownBy w' v.ownBlock) : ∀ s ∈ sp, s.own w' B := by
  intro s hs
  refine own_kept2 (h s hs) g (fun k h1 h2 => ?_)
  obtain ⟨cur, hc⟩ := own_typed2 hv k h2
  exact own_ne_type (h s hs) hc (by decide) h1
def nineW : List (List Pn) := List.replicate 9 []
set_option maxRecDepth 100000 in
set_option maxHeartbeats 3200000 in
theorem wheelNew_spec (w : World) : Calls Try.prog 50 #[] w (NewW w nineW) := by
  obtain ⟨W, hW⟩ : ∃ W, (w.alloc (.cells #[.slice none 0 0] 36)).alloc (.cells #[.slice none 0 0] 36) = W := ⟨_, rfl⟩
  have T0 : W.heap[w.heap.size]? = some (.cells #[.slice none 0 0] 36) ∧ W.heap[w.heap.size + 1]? = some (.cells #[.slice none 0 0] 36) ∧ Below w.heap.size w W := by rw [← hW]; exact two_at w _ _ _ (Below.refl _ _)
  have HT := Lib.hid T0
  have HW := Lib.hid hW
  have hWs : Hid (W.heap.size = w.heap.size + 2) := by show _ = _; rw [← hW]; simp
  clear T0 hW
  go_enter Try.func50, Try.ntmps50
  go_wp2_with fail
  rw [HW.out]
  clear HW
  go_loopw [2] (fun i wr => ∃ (k : Nat) (A : Option Addr) (c : Nat) (sp : List Sp), k ≤ 9 ∧ i = .int .i64 k ∧ sp.length = k ∧ sp.map (·.l) = List.replicate k [] ∧ OwnW wr W.heap.size A c sp ∧
      wr.heap[w.heap.size]? = some (.cells #[.slice none 0 0] 36) ∧ wr.heap[w.heap.size + 1]? = some (.cells #[.slice A k c] 36) ∧ Below w.heap.size w wr ∧ W.heap.size ≤ wr.heap.size) (fun i _ => 9 - (intOf i).toNat)
  case atStart => exact ⟨0, none, 0, [], by omega, rfl, rfl, rfl, ⟨World.ownsRow_nil _ _ _ _, by simp⟩, HT.out.1, HT.out.2.1, HT.out.2.2, Nat.le_refl _⟩
  case round =>
    clear HT
    obtain ⟨k, A, c, sp, hk, rfl, hlen, hrep, hO, h0, h1, hb, hs⟩ := hrel
    have c1 := cell_of_row _ _ 0 _ _ _ h1
    simp at c1
    by_cases hlt : k < 9
    · have hr := hO.row
      rw [hlen] at hr
      have O1 := (hr.alloc (.cells #[] 70)).alloc (.cells #[.slice (some ⟨wr.heap.size, 0, none⟩) 0 0] 29)
      have RN : Rws ((wr.alloc (.cells #[] 70)).alloc (.cells #[.slice (some ⟨wr.heap.size, 0, none⟩) 0 0] 29)) (wr.heap.size + 1 + 1) (some ⟨wr.heap.size + 1, 0, none⟩) (spC ⟨some ⟨wr.heap.size, 0, none⟩, 0, []⟩) := by
        have := Rws.new (wr.alloc (.cells #[] 70)) (spC ⟨some ⟨wr.heap.size, 0, none⟩, 0, []⟩) 29
        rw [World.size_alloc] at this
        exact this
      have I1 : ∀ s ∈ sp ++ [⟨some ⟨wr.heap.size, 0, none⟩, 0, []⟩], Sp.own ((wr.alloc (.cells #[] 70)).alloc (.cells #[.slice (some ⟨wr.heap.size, 0, none⟩) 0 0] 29)) W.heap.size s := by
        intro s hs2
        rcases List.mem_append.1 hs2 with h | h
        · exact ((hO.sp s h).alloc _).alloc _
        · simp at h; subst h
          exact (own_empty wr W.heap.size 70 2 hs).alloc _
      have B1 : Below w.heap.size w ((wr.alloc (.cells #[] 70)).alloc (.cells #[.slice (some ⟨wr.heap.size, 0, none⟩) 0 0] 29)) := (hb.alloc hb.size _).alloc (by have := hb.size; simp; omega) _
      have H0 := Lib.hid (blk_alloc (blk_alloc h0 (.cells #[] 70)) (.cells #[.slice (some ⟨wr.heap.size, 0, none⟩) 0 0] 29))
      have H1 := Lib.hid (blk_alloc (blk_alloc h1 (.cells #[] 70)) (.cells #[.slice (some ⟨wr.heap.size, 0, none⟩) 0 0] 29))
      have II := Lib.hid I1
      have BB := Lib.hid B1
      have lt1 := blk_lt h1
      have ltW : w.heap.size + 1 < W.heap.size := by have := hWs.out; omega
      clear hO h0 h1 hb I1 B1 hr
      go_wp2_with (at_builtin; refine wpList_appR rowSpk _ rfl (.tmp 9) (.tmp 11) rfl W.heap.size _ k (sp.flatMap spC) rfl O1 _ _ 1 1 (spC ⟨some ⟨wr.heap.size, 0, none⟩, 0, []⟩) rfl rfl RN (fun h => by cases h) (by intro u hu; exact spC_one [⟨some ⟨wr.heap.size, 0, none⟩, 0, []⟩] u (by simpa using hu)) (by omega) (by simp; omega) ?_)
      intro v3 w3 o3 g3
      have lo := own_low O1
      have ne0 : ∀ j, j < W.heap.size → (Value.slice A k c).ownBlock ≠ some j := fun j hj h => by have := lo j h; omega
      have h0 : w3.heap[w.heap.size]? = _ := (g3.block _ (blk_lt H0.out) (fun h => ne0 _ (by omega) h.symm)).trans H0.out
      have h1 : w3.heap[w.heap.size + 1]? = _ := (g3.block _ (blk_lt H1.out) (fun h => ne0 _ (by omega) h.symm)).trans H1.out
      obtain ⟨A3, c3, rfl, _⟩ := own_form o3
      have O3 : OwnW w3 W.heap.size A3 c3 (sp ++ [⟨some ⟨wr.heap.size, 0, none⟩, 0, []⟩]) := by
        refine ⟨?_, OwnW.grow II.out O1 g3⟩
        rw [List.length_append, hlen, List.flatMap_append]
        simpa using o3
      have b3 := BB.out.grown g3 BB.out.size (fun j hj => by have := lo j hj; omega)
      have c1 := cell_of_row _ _ 0 _ _ _ h1
      have z1 := frozen_of_row _ _ 0 _ _ h1
      simp at c1
      have O4 := Lib.hid (O3.put h1 (by decide) (by decide) 0 (.slice A3 (k + 1) c3))
      have b4 := Lib.hid (b3.setCell (p := ⟨w.heap.size + 1, 0, none⟩) (by show _ ≤ _ + 1; omega) (.slice A3 (k + 1) c3))
      have H0 : Hid ((w3.setCell ⟨w.heap.size + 1, 0, none⟩ (.slice A3 (k + 1) c3)).heap[w.heap.size]? = _) := (heap_set_ne w3 _ 0 _ (by omega)).trans h0
      have H1 : Hid ((w3.setCell ⟨w.heap.size + 1, 0, none⟩ (.slice A3 (k + 1) c3)).heap[w.heap.size + 1]? = some (.cells #[.slice A3 (k + 1) c3] 36)) := Go.heap_setCell_same _ _ 0 _ _ (.slice A3 (k + 1) c3) h1
      have hs4 : Hid (W.heap.size ≤ (w3.setCell ⟨w.heap.size + 1, 0, none⟩ (.slice A3 (k + 1) c3)).heap.size) := by
        show _ ≤ _
        have := g3.size; simp at this ⊢; omega
      have HR : Hid ((sp ++ [(⟨some ⟨wr.heap.size, 0, none⟩, 0, []⟩ : Sp)]).map (fun x => x.l) = List.replicate (k + 1) []) := by
        show _ = _
        rw [List.map_append, hrep, List.replicate_succ']; rfl
      clear o3 O3 b3 h0 h1 lo ne0 g3 O1 RN II BB hrep
      go_wp2
      go_roundw
      case rel => exact ⟨k + 1, A3, c3, sp ++ [⟨some ⟨wr.heap.size, 0, none⟩, 0, []⟩], by omega, by go_num, by simp [hlen], HR.out, O4.out, H0.out, H1.out, b4.out, hs4.out⟩
      case measure => simp [intOf] <;> omega
    · obtain rfl : k = 9 := by omega
      have c0 := cell_of_row _ _ 0 _ _ _ h0
      have z0 := frozen_of_row _ _ 0 _ _ h0
      simp at c0
      have ltW : w.heap.size + 1 < W.heap.size := by have := hWs.out; omega
      have HN : Hid (NewW w nineW (.returned (.agg #[.slice A 9 c])) (wr.setCell ⟨w.heap.size, 0, none⟩ (.slice A 9 c))) := by
        refine ⟨A, c, sp, by rw [hlen], hrep, (hO.put h0 (by decide) (by decide) 0 _).weak (by omega), hb.setCell (p := ⟨w.heap.size, 0, none⟩) (Nat.le_refl _) _⟩
      clear hO h0 h1 hb hrep
      go_wp2
      simp [bodyPost, results, Try.results50, go_sem, c0]
      exact HN.out
end Go.Proofs.Ytdjglbmcpfaofaa
