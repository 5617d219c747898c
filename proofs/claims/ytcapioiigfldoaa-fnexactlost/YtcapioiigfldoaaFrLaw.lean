/- The walks of the laws over FrameOf and FrameAt. -/
import Derived.Test.YtcapioiigfldoaaRows
import Derived.Test.YtcapioiigfldoaaFrAs
namespace Go.Proofs.Ytcapioiigfldoaa
open Go.RowKit
set_option linter.unusedSimpArgs false
set_option linter.unusedVariables false
theorem frV_form (o : Option (Nat × List Nat × Nat)) (a : Nat) : ∃ (x z : Int) (s : ByteArray) (t : Bool), frV o a = .tuple #[.agg #[.int .i64 x, .string s, .int .i64 z], .bool t] := by
  rcases o with _ | ⟨seq, b, sz⟩
  · exact ⟨0, 0, _, false, rfl⟩
  · exact ⟨_, _, _, true, rfl⟩
end Go.Proofs.Ytcapioiigfldoaa
