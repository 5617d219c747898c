/-
  No cell of these rows narrows 'for every input' (looked for: loops, veiled, ifaces, maps, wideKeys, modest, calm, conditions, laid).
  DERIVED. THE GIVEN ROWS OF THIS SEAT. 8 by the template 'for every input the law returns true; each argument reads behind the call as it read before'; 0 by the template 'total and deterministic' (their statements: YtdjglbmcpfaofaaTotals.lean).
  GIVEN WITH THE SEED: the statements are not yours to turn. If you find one false, say at which input.
  Laid BY PROGRAM, IN A SANDBOX (cutbox-rows.mjs): the forced cells as the released guide's own fill.sh prints them over the translation b9e84278996fb53e… (all of the seat's roots in one cut). By AI agents, Wed Nov 11 2026. No macro, syntax, notation, axiom, sorry.
-/
import Derived.Test.YtdjglbmcpfaofaaChecked
import GoSem.Claim
import GoSem.ClaimJoined
import GoSem.ClaimMapViews
import Derived.JoinedTies
import Derived.KernelRfl
namespace Go.Proofs.Ytdjglbmcpfaofaa
/- THE CELL 'sum', in the pinned program and in every row, IS THE sha256 OF THE DUMP (.gsa) THAT YtdjglbmcpfaofaaProg.lean LOADS. Nothing in Lean hashes anything: it is a label: what it is worth is what the hold of that sum in a sandbox is worth. -/
noncomputable def Try.pinned : Pinned := { name := "ytdjglbmcpfaofaa", sum := "b9e84278996fb53eb21aef6eb091ed30f032f1221aae60b236dabf22a86a4c61", checked := Try.checked }
namespace Rows
def none {H : Type} : Left H := { results := [], args := [] }

/-- 'laws.FnHeldTied': WHATEVER THE INPUT: true; the input reads as it did. -/
def fnHeldTiedSpec : ChangeSpec := { name := "fnHeldTied", fn := fun _ => fun
  | [d] => { results := [.lit (.bool true)], args := [d] }
  | _ => none }
def fnHeldTiedRow : OpenClaim := { program := "ytdjglbmcpfaofaa", sum := "b9e84278996fb53eb21aef6eb091ed30f032f1221aae60b236dabf22a86a4c61", func := "loop.example/g00494/laws.FnHeldTied", spec := "fnHeldTied", unfollowed := true, recurses := true, apart := false }
def FnHeldTiedSaid : Prop := fnHeldTiedRow.holds Try.pinned (OpenSpec.ofChange fnHeldTiedSpec)

/-- ITS FALSE NEIGHBOUR: 'it returns false'. Refute it at one input. -/
def fnHeldTiedWrong : ChangeSpec := { name := "fnHeldTied", fn := fun _ => fun
  | [d] => { results := [.lit (.bool false)], args := [d] }
  | _ => none }
def FnHeldTiedWrongFalsely : Prop := fnHeldTiedRow.holds Try.pinned (OpenSpec.ofChange fnHeldTiedWrong)

/-- 'laws.FnExactCabinNew': WHATEVER THE INPUT: true; the input reads as it did. -/
def fnExactCabinNewSpec : ChangeSpec := { name := "fnExactCabinNew", fn := fun _ => fun
  | [d] => { results := [.lit (.bool true)], args := [d] }
  | _ => none }
def fnExactCabinNewRow : OpenClaim := { program := "ytdjglbmcpfaofaa", sum := "b9e84278996fb53eb21aef6eb091ed30f032f1221aae60b236dabf22a86a4c61", func := "loop.example/g00494/laws.FnExactCabinNew", spec := "fnExactCabinNew", apart := false }
def FnExactCabinNewSaid : Prop := fnExactCabinNewRow.holds Try.pinned (OpenSpec.ofChange fnExactCabinNewSpec)

/-- ITS FALSE NEIGHBOUR: 'it returns false'. Refute it at one input. -/
def fnExactCabinNewWrong : ChangeSpec := { name := "fnExactCabinNew", fn := fun _ => fun
  | [d] => { results := [.lit (.bool false)], args := [d] }
  | _ => none }
def FnExactCabinNewWrongFalsely : Prop := fnExactCabinNewRow.holds Try.pinned (OpenSpec.ofChange fnExactCabinNewWrong)

/-- 'laws.FnExactCabinOk': WHATEVER THE INPUT: true; the input reads as it did. -/
def fnExactCabinOkSpec : ChangeSpec := { name := "fnExactCabinOk", fn := fun _ => fun
  | [d] => { results := [.lit (.bool true)], args := [d] }
  | _ => none }
def fnExactCabinOkRow : OpenClaim := { program := "ytdjglbmcpfaofaa", sum := "b9e84278996fb53eb21aef6eb091ed30f032f1221aae60b236dabf22a86a4c61", func := "loop.example/g00494/laws.FnExactCabinOk", spec := "fnExactCabinOk", unfollowed := true, recurses := true, apart := false }
def FnExactCabinOkSaid : Prop := fnExactCabinOkRow.holds Try.pinned (OpenSpec.ofChange fnExactCabinOkSpec)

/-- ITS FALSE NEIGHBOUR: 'it returns false'. Refute it at one input. -/
def fnExactCabinOkWrong : ChangeSpec := { name := "fnExactCabinOk", fn := fun _ => fun
  | [d] => { results := [.lit (.bool false)], args := [d] }
  | _ => none }
def FnExactCabinOkWrongFalsely : Prop := fnExactCabinOkRow.holds Try.pinned (OpenSpec.ofChange fnExactCabinOkWrong)

/-- 'laws.FnExactHeldIn': WHATEVER THE INPUT: true; the input reads as it did. -/
def fnExactHeldInSpec : ChangeSpec := { name := "fnExactHeldIn", fn := fun _ => fun
  | [d1, d2] => { results := [.lit (.bool true)], args := [d1, d2] }
  | _ => none }
def fnExactHeldInRow : OpenClaim := { program := "ytdjglbmcpfaofaa", sum := "b9e84278996fb53eb21aef6eb091ed30f032f1221aae60b236dabf22a86a4c61", func := "loop.example/g00494/laws.FnExactHeldIn", spec := "fnExactHeldIn", unfollowed := true, recurses := true, apart := false }
def FnExactHeldInSaid : Prop := fnExactHeldInRow.holds Try.pinned (OpenSpec.ofChange fnExactHeldInSpec)

/-- ITS FALSE NEIGHBOUR: 'it returns false'. Refute it at one input. -/
def fnExactHeldInWrong : ChangeSpec := { name := "fnExactHeldIn", fn := fun _ => fun
  | [d1, d2] => { results := [.lit (.bool false)], args := [d1, d2] }
  | _ => none }
def FnExactHeldInWrongFalsely : Prop := fnExactHeldInRow.holds Try.pinned (OpenSpec.ofChange fnExactHeldInWrong)

/-- 'laws.FnExactTiedIn': WHATEVER THE INPUT: true; the input reads as it did. -/
def fnExactTiedInSpec : ChangeSpec := { name := "fnExactTiedIn", fn := fun _ => fun
  | [d1, d2] => { results := [.lit (.bool true)], args := [d1, d2] }
  | _ => none }
def fnExactTiedInRow : OpenClaim := { program := "ytdjglbmcpfaofaa", sum := "b9e84278996fb53eb21aef6eb091ed30f032f1221aae60b236dabf22a86a4c61", func := "loop.example/g00494/laws.FnExactTiedIn", spec := "fnExactTiedIn", unfollowed := true, recurses := true, apart := false }
def FnExactTiedInSaid : Prop := fnExactTiedInRow.holds Try.pinned (OpenSpec.ofChange fnExactTiedInSpec)

/-- ITS FALSE NEIGHBOUR: 'it returns false'. Refute it at one input. -/
def fnExactTiedInWrong : ChangeSpec := { name := "fnExactTiedIn", fn := fun _ => fun
  | [d1, d2] => { results := [.lit (.bool false)], args := [d1, d2] }
  | _ => none }
def FnExactTiedInWrongFalsely : Prop := fnExactTiedInRow.holds Try.pinned (OpenSpec.ofChange fnExactTiedInWrong)

/-- 'laws.FnExactCountIn': WHATEVER THE INPUT: true; the input reads as it did. -/
def fnExactCountInSpec : ChangeSpec := { name := "fnExactCountIn", fn := fun _ => fun
  | [d1, d2] => { results := [.lit (.bool true)], args := [d1, d2] }
  | _ => none }
def fnExactCountInRow : OpenClaim := { program := "ytdjglbmcpfaofaa", sum := "b9e84278996fb53eb21aef6eb091ed30f032f1221aae60b236dabf22a86a4c61", func := "loop.example/g00494/laws.FnExactCountIn", spec := "fnExactCountIn", apart := false }
def FnExactCountInSaid : Prop := fnExactCountInRow.holds Try.pinned (OpenSpec.ofChange fnExactCountInSpec)

/-- ITS FALSE NEIGHBOUR: 'it returns false'. Refute it at one input. -/
def fnExactCountInWrong : ChangeSpec := { name := "fnExactCountIn", fn := fun _ => fun
  | [d1, d2] => { results := [.lit (.bool false)], args := [d1, d2] }
  | _ => none }
def FnExactCountInWrongFalsely : Prop := fnExactCountInRow.holds Try.pinned (OpenSpec.ofChange fnExactCountInWrong)

/-- 'laws.FnExactPinsIn': WHATEVER THE INPUT: true; the input reads as it did. -/
def fnExactPinsInSpec : ChangeSpec := { name := "fnExactPinsIn", fn := fun _ => fun
  | [d1, d2] => { results := [.lit (.bool true)], args := [d1, d2] }
  | _ => none }
def fnExactPinsInRow : OpenClaim := { program := "ytdjglbmcpfaofaa", sum := "b9e84278996fb53eb21aef6eb091ed30f032f1221aae60b236dabf22a86a4c61", func := "loop.example/g00494/laws.FnExactPinsIn", spec := "fnExactPinsIn", unfollowed := true, recurses := true, apart := false }
def FnExactPinsInSaid : Prop := fnExactPinsInRow.holds Try.pinned (OpenSpec.ofChange fnExactPinsInSpec)

/-- ITS FALSE NEIGHBOUR: 'it returns false'. Refute it at one input. -/
def fnExactPinsInWrong : ChangeSpec := { name := "fnExactPinsIn", fn := fun _ => fun
  | [d1, d2] => { results := [.lit (.bool false)], args := [d1, d2] }
  | _ => none }
def FnExactPinsInWrongFalsely : Prop := fnExactPinsInRow.holds Try.pinned (OpenSpec.ofChange fnExactPinsInWrong)

/-- 'laws.FnExactSameCabin': WHATEVER THE INPUT: true; the input reads as it did. -/
def fnExactSameCabinSpec : ChangeSpec := { name := "fnExactSameCabin", fn := fun _ => fun
  | [d1, d2] => { results := [.lit (.bool true)], args := [d1, d2] }
  | _ => none }
def fnExactSameCabinRow : OpenClaim := { program := "ytdjglbmcpfaofaa", sum := "b9e84278996fb53eb21aef6eb091ed30f032f1221aae60b236dabf22a86a4c61", func := "loop.example/g00494/laws.FnExactSameCabin", spec := "fnExactSameCabin", unfollowed := true, recurses := true, apart := false }
def FnExactSameCabinSaid : Prop := fnExactSameCabinRow.holds Try.pinned (OpenSpec.ofChange fnExactSameCabinSpec)

/-- ITS FALSE NEIGHBOUR: 'it returns false'. Refute it at one input. -/
def fnExactSameCabinWrong : ChangeSpec := { name := "fnExactSameCabin", fn := fun _ => fun
  | [d1, d2] => { results := [.lit (.bool false)], args := [d1, d2] }
  | _ => none }
def FnExactSameCabinWrongFalsely : Prop := fnExactSameCabinRow.holds Try.pinned (OpenSpec.ofChange fnExactSameCabinWrong)

/- THE SECOND FORM. 'bulk': how many values and letters a reading holds, each counted each time it is reached (what is shared counts as often as it is met; a slice's spare places count too). A statement '..UptoSaid' is the law's where the arguments, and the package variables that the reading takes, are together of bulk at most 1048576: NARROWER than '..Said'. Prove '..Said' where nothing that the law and all that it calls make is longer than what came in: it says more and counts as full. Else prove '..UptoSaid'. A law counts once. -/
mutual
def uptoBulk {H : Type} : DataW H → Nat
  | .lit (.string bytes) => bytes.length + 1
  | .lit _ => 1
  | .nil => 1
  | .ptr d => uptoBulk d + 1
  | .slice elems spare => uptoBulkAll elems + uptoBulkAll spare + 1
  | .agg parts => uptoBulkAll parts + 1
  | .iface _ d => uptoBulk d + 1
  | .map entries => uptoBulkEntries entries + 1
  | .held _ => 1
def uptoBulkAll {H : Type} : List (DataW H) → Nat
  | [] => 0
  | d :: r => uptoBulk d + uptoBulkAll r
def uptoBulkEntries {H : Type} : List (Lit × DataW H) → Nat
  | [] => 0
  | x :: r => uptoBulkEntry x + uptoBulkEntries r
def uptoBulkEntry {H : Type} : Lit × DataW H → Nat
  | (.string bytes, d) => bytes.length + uptoBulk d + 1
  | (_, d) => uptoBulk d + 1
 end
def uptoSmall : (H : Type) → List (DataW H) → Bool := fun _ ds => decide (uptoBulkAll ds ≤ 1048576)
def OpenSpec.upto (s : _root_.Go.ChangeSpec) : _root_.Go.OpenSpec := { _root_.Go.OpenSpec.ofChange s with cond := some uptoSmall }

/-- 'laws.FnHeldTied', WHERE WHAT IT READS IS OF BULK AT MOST 1048576: true; the input reads as it did. -/
def fnHeldTiedUptoRow : OpenClaim := { program := "ytdjglbmcpfaofaa", sum := "b9e84278996fb53eb21aef6eb091ed30f032f1221aae60b236dabf22a86a4c61", func := "loop.example/g00494/laws.FnHeldTied", spec := "fnHeldTied", unfollowed := true, recurses := true, apart := false, narrowed := true }
def FnHeldTiedUptoSaid : Prop := fnHeldTiedUptoRow.holds Try.pinned (OpenSpec.upto fnHeldTiedSpec)

/-- 'laws.FnExactCabinNew', WHERE WHAT IT READS IS OF BULK AT MOST 1048576: true; the input reads as it did. -/
def fnExactCabinNewUptoRow : OpenClaim := { program := "ytdjglbmcpfaofaa", sum := "b9e84278996fb53eb21aef6eb091ed30f032f1221aae60b236dabf22a86a4c61", func := "loop.example/g00494/laws.FnExactCabinNew", spec := "fnExactCabinNew", apart := false, narrowed := true }
def FnExactCabinNewUptoSaid : Prop := fnExactCabinNewUptoRow.holds Try.pinned (OpenSpec.upto fnExactCabinNewSpec)

/-- 'laws.FnExactCabinOk', WHERE WHAT IT READS IS OF BULK AT MOST 1048576: true; the input reads as it did. -/
def fnExactCabinOkUptoRow : OpenClaim := { program := "ytdjglbmcpfaofaa", sum := "b9e84278996fb53eb21aef6eb091ed30f032f1221aae60b236dabf22a86a4c61", func := "loop.example/g00494/laws.FnExactCabinOk", spec := "fnExactCabinOk", unfollowed := true, recurses := true, apart := false, narrowed := true }
def FnExactCabinOkUptoSaid : Prop := fnExactCabinOkUptoRow.holds Try.pinned (OpenSpec.upto fnExactCabinOkSpec)

/-- 'laws.FnExactHeldIn', WHERE WHAT IT READS IS OF BULK AT MOST 1048576: true; the input reads as it did. -/
def fnExactHeldInUptoRow : OpenClaim := { program := "ytdjglbmcpfaofaa", sum := "b9e84278996fb53eb21aef6eb091ed30f032f1221aae60b236dabf22a86a4c61", func := "loop.example/g00494/laws.FnExactHeldIn", spec := "fnExactHeldIn", unfollowed := true, recurses := true, apart := false, narrowed := true }
def FnExactHeldInUptoSaid : Prop := fnExactHeldInUptoRow.holds Try.pinned (OpenSpec.upto fnExactHeldInSpec)

/-- 'laws.FnExactTiedIn', WHERE WHAT IT READS IS OF BULK AT MOST 1048576: true; the input reads as it did. -/
def fnExactTiedInUptoRow : OpenClaim := { program := "ytdjglbmcpfaofaa", sum := "b9e84278996fb53eb21aef6eb091ed30f032f1221aae60b236dabf22a86a4c61", func := "loop.example/g00494/laws.FnExactTiedIn", spec := "fnExactTiedIn", unfollowed := true, recurses := true, apart := false, narrowed := true }
def FnExactTiedInUptoSaid : Prop := fnExactTiedInUptoRow.holds Try.pinned (OpenSpec.upto fnExactTiedInSpec)

/-- 'laws.FnExactCountIn', WHERE WHAT IT READS IS OF BULK AT MOST 1048576: true; the input reads as it did. -/
def fnExactCountInUptoRow : OpenClaim := { program := "ytdjglbmcpfaofaa", sum := "b9e84278996fb53eb21aef6eb091ed30f032f1221aae60b236dabf22a86a4c61", func := "loop.example/g00494/laws.FnExactCountIn", spec := "fnExactCountIn", apart := false, narrowed := true }
def FnExactCountInUptoSaid : Prop := fnExactCountInUptoRow.holds Try.pinned (OpenSpec.upto fnExactCountInSpec)

/-- 'laws.FnExactPinsIn', WHERE WHAT IT READS IS OF BULK AT MOST 1048576: true; the input reads as it did. -/
def fnExactPinsInUptoRow : OpenClaim := { program := "ytdjglbmcpfaofaa", sum := "b9e84278996fb53eb21aef6eb091ed30f032f1221aae60b236dabf22a86a4c61", func := "loop.example/g00494/laws.FnExactPinsIn", spec := "fnExactPinsIn", unfollowed := true, recurses := true, apart := false, narrowed := true }
def FnExactPinsInUptoSaid : Prop := fnExactPinsInUptoRow.holds Try.pinned (OpenSpec.upto fnExactPinsInSpec)

/-- 'laws.FnExactSameCabin', WHERE WHAT IT READS IS OF BULK AT MOST 1048576: true; the input reads as it did. -/
def fnExactSameCabinUptoRow : OpenClaim := { program := "ytdjglbmcpfaofaa", sum := "b9e84278996fb53eb21aef6eb091ed30f032f1221aae60b236dabf22a86a4c61", func := "loop.example/g00494/laws.FnExactSameCabin", spec := "fnExactSameCabin", unfollowed := true, recurses := true, apart := false, narrowed := true }
def FnExactSameCabinUptoSaid : Prop := fnExactSameCabinUptoRow.holds Try.pinned (OpenSpec.upto fnExactSameCabinSpec)

end Rows
end Go.Proofs.Ytdjglbmcpfaofaa
