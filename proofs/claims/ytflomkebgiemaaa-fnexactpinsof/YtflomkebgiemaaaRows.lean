/-
  No cell of these rows narrows 'for every input' (looked for: loops, veiled, ifaces, maps, wideKeys, modest, calm, conditions, laid).
  DERIVED. THE GIVEN ROWS OF THIS SEAT. 11 by the template 'for every input the law returns true; each argument reads behind the call as it read before'; 0 by the template 'total and deterministic' (their statements: YtflomkebgiemaaaTotals.lean).
  GIVEN WITH THE SEED: the statements are not yours to turn. If you find one false, say at which input.
  Laid BY PROGRAM, IN A SANDBOX (cutbox-rows.mjs): the forced cells as the released guide's own fill.sh prints them over the translation 7d90d7182a50db18… (all of the seat's roots in one cut). By AI agents, Wed Nov 11 2026. No macro, syntax, notation, axiom, sorry.
-/
import Derived.Test.YtflomkebgiemaaaChecked
import GoSem.Claim
import GoSem.ClaimJoined
import GoSem.ClaimMapViews
import Derived.JoinedTies
import Derived.KernelRfl
namespace Go.Proofs.Ytflomkebgiemaaa
/- THE CELL 'sum', in the pinned program and in every row, IS THE sha256 OF THE DUMP (.gsa) THAT YtflomkebgiemaaaProg.lean LOADS. Nothing in Lean hashes anything: it is a label: what it is worth is what the hold of that sum in a sandbox is worth. -/
noncomputable def Try.pinned : Pinned := { name := "ytflomkebgiemaaa", sum := "7d90d7182a50db18bfca78ca068d01496306acc21f6a46c2143ba5b1b3f0bad3", checked := Try.checked }
namespace Rows
def none {H : Type} : Left H := { results := [], args := [] }

/-- 'laws.FnWheelDue': WHATEVER THE INPUT: true; the input reads as it did. -/
def fnWheelDueSpec : ChangeSpec := { name := "fnWheelDue", fn := fun _ => fun
  | [d] => { results := [.lit (.bool true)], args := [d] }
  | _ => none }
def fnWheelDueRow : OpenClaim := { program := "ytflomkebgiemaaa", sum := "7d90d7182a50db18bfca78ca068d01496306acc21f6a46c2143ba5b1b3f0bad3", func := "loop.example/g00494/laws.FnWheelDue", spec := "fnWheelDue", unfollowed := true, recurses := true, apart := false }
def FnWheelDueSaid : Prop := fnWheelDueRow.holds Try.pinned (OpenSpec.ofChange fnWheelDueSpec)

/-- ITS FALSE NEIGHBOUR: 'it returns false'. Refute it at one input. -/
def fnWheelDueWrong : ChangeSpec := { name := "fnWheelDue", fn := fun _ => fun
  | [d] => { results := [.lit (.bool false)], args := [d] }
  | _ => none }
def FnWheelDueWrongFalsely : Prop := fnWheelDueRow.holds Try.pinned (OpenSpec.ofChange fnWheelDueWrong)

/-- 'laws.FnWheelBack': WHATEVER THE INPUT: true; the input reads as it did. -/
def fnWheelBackSpec : ChangeSpec := { name := "fnWheelBack", fn := fun _ => fun
  | [d] => { results := [.lit (.bool true)], args := [d] }
  | _ => none }
def fnWheelBackRow : OpenClaim := { program := "ytflomkebgiemaaa", sum := "7d90d7182a50db18bfca78ca068d01496306acc21f6a46c2143ba5b1b3f0bad3", func := "loop.example/g00494/laws.FnWheelBack", spec := "fnWheelBack", inPlace := ["slices.overlaps[loop.example/g00494/impl.Pin]"], unfollowed := true, recurses := true, apart := false }
def FnWheelBackSaid : Prop := fnWheelBackRow.holds Try.pinned (OpenSpec.ofChange fnWheelBackSpec)

/-- ITS FALSE NEIGHBOUR: 'it returns false'. Refute it at one input. -/
def fnWheelBackWrong : ChangeSpec := { name := "fnWheelBack", fn := fun _ => fun
  | [d] => { results := [.lit (.bool false)], args := [d] }
  | _ => none }
def FnWheelBackWrongFalsely : Prop := fnWheelBackRow.holds Try.pinned (OpenSpec.ofChange fnWheelBackWrong)

/-- 'laws.FnWheelOf': WHATEVER THE INPUT: true; the input reads as it did. -/
def fnWheelOfSpec : ChangeSpec := { name := "fnWheelOf", fn := fun _ => fun
  | [d] => { results := [.lit (.bool true)], args := [d] }
  | _ => none }
def fnWheelOfRow : OpenClaim := { program := "ytflomkebgiemaaa", sum := "7d90d7182a50db18bfca78ca068d01496306acc21f6a46c2143ba5b1b3f0bad3", func := "loop.example/g00494/laws.FnWheelOf", spec := "fnWheelOf", inPlace := ["slices.overlaps[loop.example/g00494/impl.Pin]"], unfollowed := true, recurses := true, apart := false }
def FnWheelOfSaid : Prop := fnWheelOfRow.holds Try.pinned (OpenSpec.ofChange fnWheelOfSpec)

/-- ITS FALSE NEIGHBOUR: 'it returns false'. Refute it at one input. -/
def fnWheelOfWrong : ChangeSpec := { name := "fnWheelOf", fn := fun _ => fun
  | [d] => { results := [.lit (.bool false)], args := [d] }
  | _ => none }
def FnWheelOfWrongFalsely : Prop := fnWheelOfRow.holds Try.pinned (OpenSpec.ofChange fnWheelOfWrong)

/-- 'laws.FnExactWheelNew': WHATEVER THE INPUT: true; the input reads as it did. -/
def fnExactWheelNewSpec : ChangeSpec := { name := "fnExactWheelNew", fn := fun _ => fun
  | [] => { results := [.lit (.bool true)], args := [] }
  | _ => none }
def fnExactWheelNewRow : OpenClaim := { program := "ytflomkebgiemaaa", sum := "7d90d7182a50db18bfca78ca068d01496306acc21f6a46c2143ba5b1b3f0bad3", func := "loop.example/g00494/laws.FnExactWheelNew", spec := "fnExactWheelNew", apart := false }
def FnExactWheelNewSaid : Prop := fnExactWheelNewRow.holds Try.pinned (OpenSpec.ofChange fnExactWheelNewSpec)

/-- ITS FALSE NEIGHBOUR: 'it returns false'. Refute it at one input. -/
def fnExactWheelNewWrong : ChangeSpec := { name := "fnExactWheelNew", fn := fun _ => fun
  | [] => { results := [.lit (.bool false)], args := [] }
  | _ => none }
def FnExactWheelNewWrongFalsely : Prop := fnExactWheelNewRow.holds Try.pinned (OpenSpec.ofChange fnExactWheelNewWrong)

/-- 'laws.FnExactWheelOk': WHATEVER THE INPUT: true; the input reads as it did. -/
def fnExactWheelOkSpec : ChangeSpec := { name := "fnExactWheelOk", fn := fun _ => fun
  | [d] => { results := [.lit (.bool true)], args := [d] }
  | _ => none }
def fnExactWheelOkRow : OpenClaim := { program := "ytflomkebgiemaaa", sum := "7d90d7182a50db18bfca78ca068d01496306acc21f6a46c2143ba5b1b3f0bad3", func := "loop.example/g00494/laws.FnExactWheelOk", spec := "fnExactWheelOk", unfollowed := true, recurses := true, apart := false }
def FnExactWheelOkSaid : Prop := fnExactWheelOkRow.holds Try.pinned (OpenSpec.ofChange fnExactWheelOkSpec)

/-- ITS FALSE NEIGHBOUR: 'it returns false'. Refute it at one input. -/
def fnExactWheelOkWrong : ChangeSpec := { name := "fnExactWheelOk", fn := fun _ => fun
  | [d] => { results := [.lit (.bool false)], args := [d] }
  | _ => none }
def FnExactWheelOkWrongFalsely : Prop := fnExactWheelOkRow.holds Try.pinned (OpenSpec.ofChange fnExactWheelOkWrong)

/-- 'laws.FnExactWheelPut': WHATEVER THE INPUT: true; the input reads as it did. -/
def fnExactWheelPutSpec : ChangeSpec := { name := "fnExactWheelPut", fn := fun _ => fun
  | [d1, d2] => { results := [.lit (.bool true)], args := [d1, d2] }
  | _ => none }
def fnExactWheelPutRow : OpenClaim := { program := "ytflomkebgiemaaa", sum := "7d90d7182a50db18bfca78ca068d01496306acc21f6a46c2143ba5b1b3f0bad3", func := "loop.example/g00494/laws.FnExactWheelPut", spec := "fnExactWheelPut", inPlace := ["slices.overlaps[loop.example/g00494/impl.Pin]"], unfollowed := true, recurses := true, apart := false }
def FnExactWheelPutSaid : Prop := fnExactWheelPutRow.holds Try.pinned (OpenSpec.ofChange fnExactWheelPutSpec)

/-- ITS FALSE NEIGHBOUR: 'it returns false'. Refute it at one input. -/
def fnExactWheelPutWrong : ChangeSpec := { name := "fnExactWheelPut", fn := fun _ => fun
  | [d1, d2] => { results := [.lit (.bool false)], args := [d1, d2] }
  | _ => none }
def FnExactWheelPutWrongFalsely : Prop := fnExactWheelPutRow.holds Try.pinned (OpenSpec.ofChange fnExactWheelPutWrong)

/-- 'laws.FnExactWheelCut': WHATEVER THE INPUT: true; the input reads as it did. -/
def fnExactWheelCutSpec : ChangeSpec := { name := "fnExactWheelCut", fn := fun _ => fun
  | [d1, d2] => { results := [.lit (.bool true)], args := [d1, d2] }
  | _ => none }
def fnExactWheelCutRow : OpenClaim := { program := "ytflomkebgiemaaa", sum := "7d90d7182a50db18bfca78ca068d01496306acc21f6a46c2143ba5b1b3f0bad3", func := "loop.example/g00494/laws.FnExactWheelCut", spec := "fnExactWheelCut", unfollowed := true, recurses := true, apart := false }
def FnExactWheelCutSaid : Prop := fnExactWheelCutRow.holds Try.pinned (OpenSpec.ofChange fnExactWheelCutSpec)

/-- ITS FALSE NEIGHBOUR: 'it returns false'. Refute it at one input. -/
def fnExactWheelCutWrong : ChangeSpec := { name := "fnExactWheelCut", fn := fun _ => fun
  | [d1, d2] => { results := [.lit (.bool false)], args := [d1, d2] }
  | _ => none }
def FnExactWheelCutWrongFalsely : Prop := fnExactWheelCutRow.holds Try.pinned (OpenSpec.ofChange fnExactWheelCutWrong)

/-- 'laws.FnExactPinsOf': WHATEVER THE INPUT: true; the input reads as it did. -/
def fnExactPinsOfSpec : ChangeSpec := { name := "fnExactPinsOf", fn := fun _ => fun
  | [d] => { results := [.lit (.bool true)], args := [d] }
  | _ => none }
def fnExactPinsOfRow : OpenClaim := { program := "ytflomkebgiemaaa", sum := "7d90d7182a50db18bfca78ca068d01496306acc21f6a46c2143ba5b1b3f0bad3", func := "loop.example/g00494/laws.FnExactPinsOf", spec := "fnExactPinsOf", unfollowed := true, recurses := true, apart := false }
def FnExactPinsOfSaid : Prop := fnExactPinsOfRow.holds Try.pinned (OpenSpec.ofChange fnExactPinsOfSpec)

/-- ITS FALSE NEIGHBOUR: 'it returns false'. Refute it at one input. -/
def fnExactPinsOfWrong : ChangeSpec := { name := "fnExactPinsOf", fn := fun _ => fun
  | [d] => { results := [.lit (.bool false)], args := [d] }
  | _ => none }
def FnExactPinsOfWrongFalsely : Prop := fnExactPinsOfRow.holds Try.pinned (OpenSpec.ofChange fnExactPinsOfWrong)

/-- 'laws.FnExactPinsDue': WHATEVER THE INPUT: true; the input reads as it did. -/
def fnExactPinsDueSpec : ChangeSpec := { name := "fnExactPinsDue", fn := fun _ => fun
  | [d1, d2] => { results := [.lit (.bool true)], args := [d1, d2] }
  | _ => none }
def fnExactPinsDueRow : OpenClaim := { program := "ytflomkebgiemaaa", sum := "7d90d7182a50db18bfca78ca068d01496306acc21f6a46c2143ba5b1b3f0bad3", func := "loop.example/g00494/laws.FnExactPinsDue", spec := "fnExactPinsDue", unfollowed := true, recurses := true, apart := false }
def FnExactPinsDueSaid : Prop := fnExactPinsDueRow.holds Try.pinned (OpenSpec.ofChange fnExactPinsDueSpec)

/-- ITS FALSE NEIGHBOUR: 'it returns false'. Refute it at one input. -/
def fnExactPinsDueWrong : ChangeSpec := { name := "fnExactPinsDue", fn := fun _ => fun
  | [d1, d2] => { results := [.lit (.bool false)], args := [d1, d2] }
  | _ => none }
def FnExactPinsDueWrongFalsely : Prop := fnExactPinsDueRow.holds Try.pinned (OpenSpec.ofChange fnExactPinsDueWrong)

/-- 'laws.FnExactWheelOf': WHATEVER THE INPUT: true; the input reads as it did. -/
def fnExactWheelOfSpec : ChangeSpec := { name := "fnExactWheelOf", fn := fun _ => fun
  | [d] => { results := [.lit (.bool true)], args := [d] }
  | _ => none }
def fnExactWheelOfRow : OpenClaim := { program := "ytflomkebgiemaaa", sum := "7d90d7182a50db18bfca78ca068d01496306acc21f6a46c2143ba5b1b3f0bad3", func := "loop.example/g00494/laws.FnExactWheelOf", spec := "fnExactWheelOf", inPlace := ["slices.overlaps[loop.example/g00494/impl.Pin]"], unfollowed := true, recurses := true, apart := false }
def FnExactWheelOfSaid : Prop := fnExactWheelOfRow.holds Try.pinned (OpenSpec.ofChange fnExactWheelOfSpec)

/-- ITS FALSE NEIGHBOUR: 'it returns false'. Refute it at one input. -/
def fnExactWheelOfWrong : ChangeSpec := { name := "fnExactWheelOf", fn := fun _ => fun
  | [d] => { results := [.lit (.bool false)], args := [d] }
  | _ => none }
def FnExactWheelOfWrongFalsely : Prop := fnExactWheelOfRow.holds Try.pinned (OpenSpec.ofChange fnExactWheelOfWrong)

/-- 'laws.FnExactSameWheel': WHATEVER THE INPUT: true; the input reads as it did. -/
def fnExactSameWheelSpec : ChangeSpec := { name := "fnExactSameWheel", fn := fun _ => fun
  | [d1, d2] => { results := [.lit (.bool true)], args := [d1, d2] }
  | _ => none }
def fnExactSameWheelRow : OpenClaim := { program := "ytflomkebgiemaaa", sum := "7d90d7182a50db18bfca78ca068d01496306acc21f6a46c2143ba5b1b3f0bad3", func := "loop.example/g00494/laws.FnExactSameWheel", spec := "fnExactSameWheel", unfollowed := true, recurses := true, apart := false }
def FnExactSameWheelSaid : Prop := fnExactSameWheelRow.holds Try.pinned (OpenSpec.ofChange fnExactSameWheelSpec)

/-- ITS FALSE NEIGHBOUR: 'it returns false'. Refute it at one input. -/
def fnExactSameWheelWrong : ChangeSpec := { name := "fnExactSameWheel", fn := fun _ => fun
  | [d1, d2] => { results := [.lit (.bool false)], args := [d1, d2] }
  | _ => none }
def FnExactSameWheelWrongFalsely : Prop := fnExactSameWheelRow.holds Try.pinned (OpenSpec.ofChange fnExactSameWheelWrong)

/- THE SECOND FORM. 'bulk': how many values and letters a reading holds, each counted each time it is reached (what is shared counts as often as it is met; a slice's spare places count too). A statement '..UptoSaid' is the law's where the arguments, and the package variables that the reading takes, are together of bulk at most 1048576: NARROWER than '..Said'. Prove '..Said' where nothing that the law and all that it calls make is longer than what came in: it says more and counts as full. Else prove '..UptoSaid'. A law counts once. -/
mutual
def uptoBulk {H : Type} : DataW H → Nat
  | .lit (.string bytes) => bytes.length + 1
  | .lit _ => 1
  | .nil => 1
  | .ptr d => uptoBulk d + 1
  | .slice elems spare => uptoBulkAll elems + uptoBulkAll spare + 1
  | .agg parts => uptoBulkAll parts + 1
  | .iface _ d => uptoBulk d + 1
  | .map entries => uptoBulkEntries entries + 1
  | .held _ => 1
def uptoBulkAll {H : Type} : List (DataW H) → Nat
  | [] => 0
  | d :: r => uptoBulk d + uptoBulkAll r
def uptoBulkEntries {H : Type} : List (Lit × DataW H) → Nat
  | [] => 0
  | x :: r => uptoBulkEntry x + uptoBulkEntries r
def uptoBulkEntry {H : Type} : Lit × DataW H → Nat
  | (.string bytes, d) => bytes.length + uptoBulk d + 1
  | (_, d) => uptoBulk d + 1
 end
def uptoSmall : (H : Type) → List (DataW H) → Bool := fun _ ds => decide (uptoBulkAll ds ≤ 1048576)
def OpenSpec.upto (s : _root_.Go.ChangeSpec) : _root_.Go.OpenSpec := { _root_.Go.OpenSpec.ofChange s with cond := some uptoSmall }

/-- 'laws.FnWheelDue', WHERE WHAT IT READS IS OF BULK AT MOST 1048576: true; the input reads as it did. -/
def fnWheelDueUptoRow : OpenClaim := { program := "ytflomkebgiemaaa", sum := "7d90d7182a50db18bfca78ca068d01496306acc21f6a46c2143ba5b1b3f0bad3", func := "loop.example/g00494/laws.FnWheelDue", spec := "fnWheelDue", unfollowed := true, recurses := true, apart := false, narrowed := true }
def FnWheelDueUptoSaid : Prop := fnWheelDueUptoRow.holds Try.pinned (OpenSpec.upto fnWheelDueSpec)

/-- 'laws.FnWheelBack', WHERE WHAT IT READS IS OF BULK AT MOST 1048576: true; the input reads as it did. -/
def fnWheelBackUptoRow : OpenClaim := { program := "ytflomkebgiemaaa", sum := "7d90d7182a50db18bfca78ca068d01496306acc21f6a46c2143ba5b1b3f0bad3", func := "loop.example/g00494/laws.FnWheelBack", spec := "fnWheelBack", inPlace := ["slices.overlaps[loop.example/g00494/impl.Pin]"], unfollowed := true, recurses := true, apart := false, narrowed := true }
def FnWheelBackUptoSaid : Prop := fnWheelBackUptoRow.holds Try.pinned (OpenSpec.upto fnWheelBackSpec)

/-- 'laws.FnWheelOf', WHERE WHAT IT READS IS OF BULK AT MOST 1048576: true; the input reads as it did. -/
def fnWheelOfUptoRow : OpenClaim := { program := "ytflomkebgiemaaa", sum := "7d90d7182a50db18bfca78ca068d01496306acc21f6a46c2143ba5b1b3f0bad3", func := "loop.example/g00494/laws.FnWheelOf", spec := "fnWheelOf", inPlace := ["slices.overlaps[loop.example/g00494/impl.Pin]"], unfollowed := true, recurses := true, apart := false, narrowed := true }
def FnWheelOfUptoSaid : Prop := fnWheelOfUptoRow.holds Try.pinned (OpenSpec.upto fnWheelOfSpec)

/-- 'laws.FnExactWheelNew', WHERE WHAT IT READS IS OF BULK AT MOST 1048576: true; the input reads as it did. -/
def fnExactWheelNewUptoRow : OpenClaim := { program := "ytflomkebgiemaaa", sum := "7d90d7182a50db18bfca78ca068d01496306acc21f6a46c2143ba5b1b3f0bad3", func := "loop.example/g00494/laws.FnExactWheelNew", spec := "fnExactWheelNew", apart := false, narrowed := true }
def FnExactWheelNewUptoSaid : Prop := fnExactWheelNewUptoRow.holds Try.pinned (OpenSpec.upto fnExactWheelNewSpec)

/-- 'laws.FnExactWheelOk', WHERE WHAT IT READS IS OF BULK AT MOST 1048576: true; the input reads as it did. -/
def fnExactWheelOkUptoRow : OpenClaim := { program := "ytflomkebgiemaaa", sum := "7d90d7182a50db18bfca78ca068d01496306acc21f6a46c2143ba5b1b3f0bad3", func := "loop.example/g00494/laws.FnExactWheelOk", spec := "fnExactWheelOk", unfollowed := true, recurses := true, apart := false, narrowed := true }
def FnExactWheelOkUptoSaid : Prop := fnExactWheelOkUptoRow.holds Try.pinned (OpenSpec.upto fnExactWheelOkSpec)

/-- 'laws.FnExactWheelPut', WHERE WHAT IT READS IS OF BULK AT MOST 1048576: true; the input reads as it did. -/
def fnExactWheelPutUptoRow : OpenClaim := { program := "ytflomkebgiemaaa", sum := "7d90d7182a50db18bfca78ca068d01496306acc21f6a46c2143ba5b1b3f0bad3", func := "loop.example/g00494/laws.FnExactWheelPut", spec := "fnExactWheelPut", inPlace := ["slices.overlaps[loop.example/g00494/impl.Pin]"], unfollowed := true, recurses := true, apart := false, narrowed := true }
def FnExactWheelPutUptoSaid : Prop := fnExactWheelPutUptoRow.holds Try.pinned (OpenSpec.upto fnExactWheelPutSpec)

/-- 'laws.FnExactWheelCut', WHERE WHAT IT READS IS OF BULK AT MOST 1048576: true; the input reads as it did. -/
def fnExactWheelCutUptoRow : OpenClaim := { program := "ytflomkebgiemaaa", sum := "7d90d7182a50db18bfca78ca068d01496306acc21f6a46c2143ba5b1b3f0bad3", func := "loop.example/g00494/laws.FnExactWheelCut", spec := "fnExactWheelCut", unfollowed := true, recurses := true, apart := false, narrowed := true }
def FnExactWheelCutUptoSaid : Prop := fnExactWheelCutUptoRow.holds Try.pinned (OpenSpec.upto fnExactWheelCutSpec)

/-- 'laws.FnExactPinsOf', WHERE WHAT IT READS IS OF BULK AT MOST 1048576: true; the input reads as it did. -/
def fnExactPinsOfUptoRow : OpenClaim := { program := "ytflomkebgiemaaa", sum := "7d90d7182a50db18bfca78ca068d01496306acc21f6a46c2143ba5b1b3f0bad3", func := "loop.example/g00494/laws.FnExactPinsOf", spec := "fnExactPinsOf", unfollowed := true, recurses := true, apart := false, narrowed := true }
def FnExactPinsOfUptoSaid : Prop := fnExactPinsOfUptoRow.holds Try.pinned (OpenSpec.upto fnExactPinsOfSpec)

/-- 'laws.FnExactPinsDue', WHERE WHAT IT READS IS OF BULK AT MOST 1048576: true; the input reads as it did. -/
def fnExactPinsDueUptoRow : OpenClaim := { program := "ytflomkebgiemaaa", sum := "7d90d7182a50db18bfca78ca068d01496306acc21f6a46c2143ba5b1b3f0bad3", func := "loop.example/g00494/laws.FnExactPinsDue", spec := "fnExactPinsDue", unfollowed := true, recurses := true, apart := false, narrowed := true }
def FnExactPinsDueUptoSaid : Prop := fnExactPinsDueUptoRow.holds Try.pinned (OpenSpec.upto fnExactPinsDueSpec)

/-- 'laws.FnExactWheelOf', WHERE WHAT IT READS IS OF BULK AT MOST 1048576: true; the input reads as it did. -/
def fnExactWheelOfUptoRow : OpenClaim := { program := "ytflomkebgiemaaa", sum := "7d90d7182a50db18bfca78ca068d01496306acc21f6a46c2143ba5b1b3f0bad3", func := "loop.example/g00494/laws.FnExactWheelOf", spec := "fnExactWheelOf", inPlace := ["slices.overlaps[loop.example/g00494/impl.Pin]"], unfollowed := true, recurses := true, apart := false, narrowed := true }
def FnExactWheelOfUptoSaid : Prop := fnExactWheelOfUptoRow.holds Try.pinned (OpenSpec.upto fnExactWheelOfSpec)

/-- 'laws.FnExactSameWheel', WHERE WHAT IT READS IS OF BULK AT MOST 1048576: true; the input reads as it did. -/
def fnExactSameWheelUptoRow : OpenClaim := { program := "ytflomkebgiemaaa", sum := "7d90d7182a50db18bfca78ca068d01496306acc21f6a46c2143ba5b1b3f0bad3", func := "loop.example/g00494/laws.FnExactSameWheel", spec := "fnExactSameWheel", unfollowed := true, recurses := true, apart := false, narrowed := true }
def FnExactSameWheelUptoSaid : Prop := fnExactSameWheelUptoRow.holds Try.pinned (OpenSpec.upto fnExactSameWheelSpec)

end Rows
end Go.Proofs.Ytflomkebgiemaaa
