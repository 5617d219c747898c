/- FrameAt of the model. -/
import Derived.Test.YtcapioiigfldoaaRows
import Derived.Test.YtcapioiigfldoaaFrAt
namespace Go.Proofs.Ytcapioiigfldoaa
open Go.RowKit
set_option linter.unusedSimpArgs false
set_option linter.unusedVariables false
set_option maxRecDepth 100000 in
theorem l1Min_any (a b : Int) (w : World) : Calls Try.prog 50 #[.int .i64 a, .int .i64 b] w fun e w' => e = .returned (.int .i64 (if a < b then a else b)) ∧ w = w' := by
  by_cases h : a < b
  · rw [if_pos h]
    go_enter Try.func50, Try.ntmps50
    go_wp2
    go_ret
    exact ⟨rfl, rfl⟩
  · rw [if_neg h]
    have h2 : decide (a < b) = false := by simpa using h
    go_enter Try.func50, Try.ntmps50
    go_wp2
    go_ret
    exact ⟨rfl, rfl⟩
/-- The window that the model looks at. -/
theorem window_of (s : ByteArray) (a m : Nat) (ha : a ≤ s.size) (hm : (m = s.size ∧ s.size < a + 80) ∨ (m = a + 80 ∧ a + 80 ≤ s.size)) : ∃ H, s.extract a m = H ∧ H.size ≤ 80 ∧ strN H = ((strN s).drop a).take 80 := by
  refine ⟨_, rfl, ?_, ?_⟩
  · rw [← strN_length, strN_extract, List.length_take]; omega
  · rw [strN_extract]
    rcases hm with ⟨rfl, _⟩ | ⟨rfl, h2⟩
    · rw [List.take_of_length_le (by rw [List.length_drop, strN_length]; omega), List.take_of_length_le (by rw [List.length_drop, strN_length]; omega)]
    · rw [show a + 80 - a = 80 by omega]
end Go.Proofs.Ytcapioiigfldoaa
