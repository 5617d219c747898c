/- Stores: StoreOk, StoreLen, SlotOf, PutSlot of both. -/
import Derived.Test.YtcapioiigfldoaaRows
import Derived.Test.YtcapioiigfldoaaArS
namespace Go.Proofs.Ytcapioiigfldoaa
open Go.RowKit
set_option linter.unusedSimpArgs false
set_option linter.unusedVariables false
/-- A store, as Go holds it. -/
structure St where
  log : Ar
  even : Ar
  odd : Ar
def stA (s : St) : Value := .agg #[.string s.log.data, .int .i64 s.log.safe, .string s.even.data, .int .i64 s.even.safe, .string s.odd.data, .int .i64 s.odd.safe]
def St.go (s : St) : Prop := s.log.go ∧ s.even.go ∧ s.odd.go
def St.fine (s : St) : Prop := s.log.fine ∧ s.even.fine ∧ s.odd.fine
instance (s : St) : Decidable s.fine := by unfold St.fine; infer_instance
/-- What a call from here on leaves of a block that was made just before. -/
theorem boxk (w w2 : World) (cs : Array Value) (t : TypeId) (b : Below (w.alloc (.cells cs t)).heap.size (w.alloc (.cells cs t)) w2) (k : Nat) (v : Value) (h : cs[k]? = some v) : w2.cell? ⟨w.heap.size, k, none⟩ = some v := by
  refine (b.cell (by simp)).trans ?_
  rw [World.cell?_alloc_at _ _ _ _ rfl, h]
theorem boxB (w w2 : World) (o : Obj) (b : Below (w.alloc o).heap.size (w.alloc o) w2) : Below w.heap.size w w2 := ((Below.refl _ _).alloc (Nat.le_refl _) _).trans (b.mono (by simp))
set_option maxRecDepth 100000 in
set_option maxHeartbeats 400000 in
theorem storeOk_spec (s : St) (w : World) (hg : s.go) : Calls Try.prog 17 #[stA s] w fun e w' => e = .returned (.bool (decide s.fine)) ∧ Below w.heap.size w w' := by
  obtain ⟨g1, g2, g3⟩ := hg
  have C1 := Lib.hid (fun w => areaOk_spec s.log w g1)
  have C2 := Lib.hid (fun w => areaOk_spec s.even w g2)
  have C3 := Lib.hid (fun w => areaOk_spec s.odd w g3)
  clear g1 g2 g3
  unfold St.fine
  unfold arA at C1 C2 C3
  unfold stA
  by_cases h1 : s.log.fine
  · by_cases h2 : s.even.fine
    · simp only [h1, h2, true_and, decide_true] at C1 C2 ⊢
      go_enter Try.func17, Try.ntmps17
      go_wp2_with fail
      refine (C1.out _).mono ?_
      rintro e w1 ⟨rfl, b1⟩
      have q01 := boxk w w1 _ _ b1 0 _ rfl
      have q11 := boxk w w1 _ _ b1 1 _ rfl
      have q21 := boxk w w1 _ _ b1 2 _ rfl
      have q31 := boxk w w1 _ _ b1 3 _ rfl
      have q41 := boxk w w1 _ _ b1 4 _ rfl
      have q51 := boxk w w1 _ _ b1 5 _ rfl
      go_wp2_with fail
      refine (C2.out _).mono ?_
      rintro e w2 ⟨rfl, b2⟩
      have b2 := b1.trans (b2.mono b1.size)
      have q02 := boxk w w2 _ _ b2 0 _ rfl
      have q12 := boxk w w2 _ _ b2 1 _ rfl
      have q22 := boxk w w2 _ _ b2 2 _ rfl
      have q32 := boxk w w2 _ _ b2 3 _ rfl
      have q42 := boxk w w2 _ _ b2 4 _ rfl
      have q52 := boxk w w2 _ _ b2 5 _ rfl
      go_wp2_with fail
      refine (C3.out _).mono ?_
      rintro e w3 ⟨rfl, b3⟩
      have b3 := b2.trans (b3.mono b2.size)
      have q03 := boxk w w3 _ _ b3 0 _ rfl
      have q13 := boxk w w3 _ _ b3 1 _ rfl
      have q23 := boxk w w3 _ _ b3 2 _ rfl
      have q33 := boxk w w3 _ _ b3 3 _ rfl
      have q43 := boxk w w3 _ _ b3 4 _ rfl
      have q53 := boxk w w3 _ _ b3 5 _ rfl
      go_wp2
      go_ret
      exact ⟨by simp, boxB _ _ _ b3⟩
    · simp only [h1, h2, true_and, false_and, decide_true, decide_false] at C1 C2 ⊢
      go_enter Try.func17, Try.ntmps17
      go_wp2_with fail
      refine (C1.out _).mono ?_
      rintro e w1 ⟨rfl, b1⟩
      have q01 := boxk w w1 _ _ b1 0 _ rfl
      have q11 := boxk w w1 _ _ b1 1 _ rfl
      have q21 := boxk w w1 _ _ b1 2 _ rfl
      have q31 := boxk w w1 _ _ b1 3 _ rfl
      have q41 := boxk w w1 _ _ b1 4 _ rfl
      have q51 := boxk w w1 _ _ b1 5 _ rfl
      go_wp2_with fail
      refine (C2.out _).mono ?_
      rintro e w2 ⟨rfl, b2⟩
      have b2 := b1.trans (b2.mono b1.size)
      have q02 := boxk w w2 _ _ b2 0 _ rfl
      have q12 := boxk w w2 _ _ b2 1 _ rfl
      have q22 := boxk w w2 _ _ b2 2 _ rfl
      have q32 := boxk w w2 _ _ b2 3 _ rfl
      have q42 := boxk w w2 _ _ b2 4 _ rfl
      have q52 := boxk w w2 _ _ b2 5 _ rfl
      go_wp2
      go_ret
      exact ⟨rfl, boxB _ _ _ b2⟩
  · simp only [h1, false_and, decide_false] at C1 ⊢
    go_enter Try.func17, Try.ntmps17
    go_wp2_with fail
    refine (C1.out _).mono ?_
    rintro e w1 ⟨rfl, b1⟩
    have q01 := boxk w w1 _ _ b1 0 _ rfl
    have q11 := boxk w w1 _ _ b1 1 _ rfl
    have q21 := boxk w w1 _ _ b1 2 _ rfl
    have q31 := boxk w w1 _ _ b1 3 _ rfl
    have q41 := boxk w w1 _ _ b1 4 _ rfl
    have q51 := boxk w w1 _ _ b1 5 _ rfl
    go_wp2
    go_ret
    exact ⟨rfl, boxB _ _ _ b1⟩
set_option maxRecDepth 100000 in
theorem storeLen_impl (s : St) (w : World) (h : s.log.data.size + s.even.data.size + s.odd.data.size ≤ 9223372036854775807) : Calls Try.prog 41 #[stA s] w fun e w' => e = .returned (.int .i64 ((s.log.data.size + s.even.data.size + s.odd.data.size : Nat) : Int)) ∧ Below w.heap.size w w' := by
  unfold stA
  have h1 : s.log.data.size + s.even.data.size ≤ 9223372036854775807 := by omega
  go_enter Try.func41, Try.ntmps41
  go_wp2
  go_ret
  exact ⟨ret_int (by omega), (Below.refl _ _).alloc (Nat.le_refl _) _⟩
set_option maxRecDepth 100000 in
theorem storeLen_spec (s : St) (w : World) (h : s.log.data.size + s.even.data.size + s.odd.data.size ≤ 9223372036854775807) : Calls Try.prog 16 #[stA s] w fun e w' => e = .returned (.int .i64 ((s.log.data.size + s.even.data.size + s.odd.data.size : Nat) : Int)) ∧ Below w.heap.size w w' := by
  unfold stA
  have h1 : s.log.data.size + s.even.data.size ≤ 9223372036854775807 := by omega
  go_enter Try.func16, Try.ntmps16
  go_wp2
  go_ret
  exact ⟨ret_int (by omega), (Below.refl _ _).alloc (Nat.le_refl _) _⟩
/-- The area of a slot. -/
def slotS (s : St) (n : Int) : Ar := if n.tmod 2 = 0 then s.even else s.odd
def putS (s : St) (n : Int) (a : Ar) : St := if n.tmod 2 = 0 then { s with even := a } else { s with odd := a }
end Go.Proofs.Ytcapioiigfldoaa
