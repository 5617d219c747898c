/- Wheels; l9All of the model. -/
import Derived.Test.YtdjglbmcpfaofaaRows
import Derived.Test.YtdjglbmcpfaofaaHs10
namespace Go.Proofs.Ytdjglbmcpfaofaa
open Go.RowKit
set_option linter.unusedSimpArgs false
set_option linter.unusedVariables false
/-- A spoke and where it lies. -/
structure Sp where
  a : Option Addr
  c : Nat
  l : List Pn
def spC (s : Sp) : List Value := [.slice s.a s.l.length s.c]
def sp0 : Sp := ⟨none, 0, []⟩
theorem spC_len (s : Sp) : (spC s).length = 1 := rfl
theorem spC_one (l : List Sp) : ∀ u ∈ l.flatMap spC, u.oneCell' = true := by
  intro u hu
  obtain ⟨x, _, hx⟩ := List.mem_flatMap.1 hu
  simp [spC] at hx
  subst hx; rfl
theorem Rws.sp {w : World} {B : Nat} {A : Option Addr} {l : List Sp} (h : Rws w B A (l.flatMap spC)) {i : Nat} (hi : i < l.length) :
    ∃ b off, A = some ⟨b, off, none⟩ ∧ b < B ∧ w.cell? ⟨b, off + i, none⟩ = some (.slice (l.getD i sp0).a (l.getD i sp0).l.length (l.getD i sp0).c) := by
  obtain ⟨b, off, e, hb, hc⟩ := Rws.el spC_len h (by omega) sp0 hi
  have := hc 0 (by omega)
  rw [Nat.mul_one, Nat.add_zero] at this
  exact ⟨b, off, e, hb, this⟩
/-- A spoke that can be read. -/
structure Sp.ok (w : World) (s : Sp) : Prop where
  row : Rws w w.heap.size s.a (s.l.flatMap pnC)
  cap : s.l.length ≤ s.c
  nil : s.a = none → s.c = 0
/-- A wheel that can be read. -/
structure Whl (w : World) (A : Option Addr) (sp : List Sp) : Prop where
  row : Rws w w.heap.size A (sp.flatMap spC)
  ok : ∀ s ∈ sp, s.ok w
theorem Sp.ok.below {w w' : World} {s : Sp} (h : s.ok w) (hb : Below w.heap.size w w') : s.ok w' := ⟨rws_below h.row hb, h.cap, h.nil⟩
theorem Whl.below {w w' : World} {A : Option Addr} {sp : List Sp} (h : Whl w A sp) (hb : Below w.heap.size w w') : Whl w' A sp := ⟨rws_below h.row hb, fun s hs => (h.ok s hs).below hb⟩
theorem Whl.at_ {w : World} {A : Option Addr} {sp : List Sp} (h : Whl w A sp) {i : Nat} (hi : i < sp.length) : (sp.getD i sp0).ok w := h.ok _ (getD_mem sp i sp0 hi)
/-- All pins of a wheel. -/
def allPn (sp : List Sp) : List Pn := sp.flatMap (·.l)
theorem allPn_take (sp : List Sp) (k : Nat) (h : k < sp.length) : allPn (sp.take (k + 1)) = allPn (sp.take k) ++ (sp.getD k sp0).l := by
  unfold allPn; rw [take_succ_getD sp k sp0 h, List.flatMap_append]; simp
theorem allPn_take_le (sp : List Sp) (k : Nat) : (allPn (sp.take k)).length ≤ (allPn sp).length := by
  have : allPn sp = allPn (sp.take k) ++ allPn (sp.drop k) := by unfold allPn; rw [← List.flatMap_append, List.take_append_drop]
  rw [this, List.length_append]; omega
theorem allPn_at_le (sp : List Sp) (k : Nat) (h : k < sp.length) : (allPn (sp.take k)).length + (sp.getD k sp0).l.length ≤ (allPn sp).length := by
  have := allPn_take_le sp (k + 1)
  rw [allPn_take sp k h, List.length_append] at this; exact this
set_option maxRecDepth 100000 in
set_option maxHeartbeats 3200000 in
theorem l9All_spec (A : Option Addr) (sp : List Sp) (c : Nat) (w : World) (hn : sp.length ≤ 2097152) (hl : (allPn sp).length ≤ 2097152) (hA : Whl w A sp) :
    Calls Try.prog 94 #[.agg #[.slice A sp.length c]] w (NewR 70 2 w (allPn sp).length ((allPn sp).flatMap pnC)) := by
  obtain ⟨W, hW⟩ : ∃ W, w.alloc (.cells #[.slice A sp.length c] 36) = W := ⟨_, rfl⟩
  have bW : Hid (Below w.heap.size w W) := by show Below _ _ _; rw [← hW]; exact (Below.refl _ _).alloc (Nat.le_refl _) _
  have HX : Hid (W.heap[w.heap.size]? = some (.cells #[.slice A sp.length c] 36)) := by show _ = _; rw [← hW]; exact heap_new _ _
  have O0 := Lib.hid (own_empty W W.heap.size 70 2 (Nat.le_refl _))
  have B0 : Hid (Below W.heap.size W (W.alloc (.cells #[] 70))) := (Below.refl _ _).alloc (Nat.le_refl _) _
  go_enter Try.func94, Try.ntmps94
  go_wp2_with fail
  clear hW
  go_loopw [3, 4] (fun v i wr => ∃ (k : Nat), k ≤ sp.length ∧ i = .int .i64 k ∧ wr.ownsRow W.heap.size 70 2 v (allPn (sp.take k)).length ((allPn (sp.take k)).flatMap pnC) ∧ Below W.heap.size W wr) (fun _ i _ => sp.length - (intOf i).toNat)
  case atStart => exact ⟨0, by omega, rfl, O0.out, B0.out⟩
  case round =>
    clear O0 B0
    obtain ⟨k, hk, rfl, hown, hb⟩ := hrel
    have hbs := hb.size
    have hX := blk_call HX.out hb
    have q0 := cell_of_row _ _ 0 _ _ _ hX
    simp at q0
    have ltX := blk_lt hX
    clear hX
    by_cases hlt : k < sp.length
    · have hWh := (hA.below bW.out).below hb
      have hs := hWh.at_ hlt
      obtain ⟨b, off, rfl, hbB, hc⟩ := hWh.row.sp hlt
      have et := allPn_take sp k hlt
      have el := allPn_at_le sp k hlt
      generalize sp.getD k sp0 = s at *
      obtain ⟨sr, sc, sn⟩ := hs
      generalize allPn (sp.take k) = q at *
      have HT := Lib.hid et
      have HL := Lib.hid (allPn_take_le sp (k + 1))
      clear et hWh
      go_wp2_with (at_builtin; refine wpList_appR rowPin _ rfl (.tmp 13) (.tmp 18) rfl W.heap.size _ q.length (q.flatMap pnC) rfl hown _ s.a s.l.length s.c (s.l.flatMap pnC) rfl (flat_len pnC 2 pnC_len s.l) sr sn (pnC_one _) (by omega) hbs ?_)
      intro v2 w2 o2 g2
      have B2 := Lib.hid (hb.grown g2 hbs (own_low hown))
      have O2 : Hid (w2.ownsRow W.heap.size 70 2 v2 (allPn (sp.take (k + 1))).length ((allPn (sp.take (k + 1))).flatMap pnC)) := by
        show World.ownsRow _ _ _ _ _ _ _
        rw [HT.out, List.length_append, List.flatMap_append]; exact o2
      clear o2 g2 hown hb sr hc q0 HT
      go_wp2
      go_roundw
      case rel => exact ⟨k + 1, by omega, by go_num, O2.out, B2.out⟩
      case measure => simp [intOf] <;> omega
    · obtain rfl : k = sp.length := by omega
      rw [List.take_length] at hown
      have HN := Lib.hid (NewR.of_own (own_weak hown bW.out.size) (bW.out.trans (hb.mono bW.out.size)))
      clear hown hb
      go_wp2
      go_ret
      exact HN.out
end Go.Proofs.Ytdjglbmcpfaofaa
