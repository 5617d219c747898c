/-
  No cell of these rows narrows 'for every input' (looked for: loops, veiled, ifaces, maps, wideKeys, modest, calm, conditions, laid).
  DERIVED. THE GIVEN ROWS OF THIS SEAT. 7 by the template 'for every input the law returns true; each argument reads behind the call as it read before'; 0 by the template 'total and deterministic' (their statements: YtcapioiigfldoaaTotals.lean).
  GIVEN WITH THE SEED: the statements are not yours to turn. If you find one false, say at which input.
  Laid BY PROGRAM, IN A SANDBOX (cutbox-rows.mjs): the forced cells as the released guide's own fill.sh prints them over the translation 94751f73726e1327… (all of the seat's roots in one cut). By AI agents, Wed Nov 11 2026. No macro, syntax, notation, axiom, sorry.
-/
import Derived.Test.YtcapioiigfldoaaChecked
import GoSem.Claim
import GoSem.ClaimJoined
import GoSem.ClaimMapViews
import Derived.JoinedTies
import Derived.KernelRfl
namespace Go.Proofs.Ytcapioiigfldoaa
/- THE CELL 'sum', in the pinned program and in every row, IS THE sha256 OF THE DUMP (.gsa) THAT YtcapioiigfldoaaProg.lean LOADS. Nothing in Lean hashes anything: it is a label: what it is worth is what the hold of that sum in a sandbox is worth. -/
noncomputable def Try.pinned : Pinned := { name := "ytcapioiigfldoaa", sum := "94751f73726e1327b2146528d710c3c7cf8121e43d4c8455a6c7107b90345147", checked := Try.checked }
namespace Rows
def none {H : Type} : Left H := { results := [], args := [] }

/-- 'laws.FnFallen': WHATEVER THE INPUT: true; the input reads as it did. -/
def fnFallenSpec : ChangeSpec := { name := "fnFallen", fn := fun _ => fun
  | [d] => { results := [.lit (.bool true)], args := [d] }
  | _ => none }
def fnFallenRow : OpenClaim := { program := "ytcapioiigfldoaa", sum := "94751f73726e1327b2146528d710c3c7cf8121e43d4c8455a6c7107b90345147", func := "loop.example/g00494/laws.FnFallen", spec := "fnFallen", apart := false }
def FnFallenSaid : Prop := fnFallenRow.holds Try.pinned (OpenSpec.ofChange fnFallenSpec)

/-- ITS FALSE NEIGHBOUR: 'it returns false'. Refute it at one input. -/
def fnFallenWrong : ChangeSpec := { name := "fnFallen", fn := fun _ => fun
  | [d] => { results := [.lit (.bool false)], args := [d] }
  | _ => none }
def FnFallenWrongFalsely : Prop := fnFallenRow.holds Try.pinned (OpenSpec.ofChange fnFallenWrong)

/-- 'laws.FnLeft': WHATEVER THE INPUT: true; the input reads as it did. -/
def fnLeftSpec : ChangeSpec := { name := "fnLeft", fn := fun _ => fun
  | [d] => { results := [.lit (.bool true)], args := [d] }
  | _ => none }
def fnLeftRow : OpenClaim := { program := "ytcapioiigfldoaa", sum := "94751f73726e1327b2146528d710c3c7cf8121e43d4c8455a6c7107b90345147", func := "loop.example/g00494/laws.FnLeft", spec := "fnLeft", apart := false }
def FnLeftSaid : Prop := fnLeftRow.holds Try.pinned (OpenSpec.ofChange fnLeftSpec)

/-- ITS FALSE NEIGHBOUR: 'it returns false'. Refute it at one input. -/
def fnLeftWrong : ChangeSpec := { name := "fnLeft", fn := fun _ => fun
  | [d] => { results := [.lit (.bool false)], args := [d] }
  | _ => none }
def FnLeftWrongFalsely : Prop := fnLeftRow.holds Try.pinned (OpenSpec.ofChange fnLeftWrong)

/-- 'laws.FnExactLeft': WHATEVER THE INPUT: true; the input reads as it did. -/
def fnExactLeftSpec : ChangeSpec := { name := "fnExactLeft", fn := fun _ => fun
  | [d1, d2] => { results := [.lit (.bool true)], args := [d1, d2] }
  | _ => none }
def fnExactLeftRow : OpenClaim := { program := "ytcapioiigfldoaa", sum := "94751f73726e1327b2146528d710c3c7cf8121e43d4c8455a6c7107b90345147", func := "loop.example/g00494/laws.FnExactLeft", spec := "fnExactLeft", apart := false }
def FnExactLeftSaid : Prop := fnExactLeftRow.holds Try.pinned (OpenSpec.ofChange fnExactLeftSpec)

/-- ITS FALSE NEIGHBOUR: 'it returns false'. Refute it at one input. -/
def fnExactLeftWrong : ChangeSpec := { name := "fnExactLeft", fn := fun _ => fun
  | [d1, d2] => { results := [.lit (.bool false)], args := [d1, d2] }
  | _ => none }
def FnExactLeftWrongFalsely : Prop := fnExactLeftRow.holds Try.pinned (OpenSpec.ofChange fnExactLeftWrong)

/-- 'laws.FnExactFallen': WHATEVER THE INPUT: true; the input reads as it did. -/
def fnExactFallenSpec : ChangeSpec := { name := "fnExactFallen", fn := fun _ => fun
  | [d1, d2] => { results := [.lit (.bool true)], args := [d1, d2] }
  | _ => none }
def fnExactFallenRow : OpenClaim := { program := "ytcapioiigfldoaa", sum := "94751f73726e1327b2146528d710c3c7cf8121e43d4c8455a6c7107b90345147", func := "loop.example/g00494/laws.FnExactFallen", spec := "fnExactFallen", apart := false }
def FnExactFallenSaid : Prop := fnExactFallenRow.holds Try.pinned (OpenSpec.ofChange fnExactFallenSpec)

/-- ITS FALSE NEIGHBOUR: 'it returns false'. Refute it at one input. -/
def fnExactFallenWrong : ChangeSpec := { name := "fnExactFallen", fn := fun _ => fun
  | [d1, d2] => { results := [.lit (.bool false)], args := [d1, d2] }
  | _ => none }
def FnExactFallenWrongFalsely : Prop := fnExactFallenRow.holds Try.pinned (OpenSpec.ofChange fnExactFallenWrong)

/-- 'laws.FnExactCould': WHATEVER THE INPUT: true; the input reads as it did. -/
def fnExactCouldSpec : ChangeSpec := { name := "fnExactCould", fn := fun _ => fun
  | [d1, d2] => { results := [.lit (.bool true)], args := [d1, d2] }
  | _ => none }
def fnExactCouldRow : OpenClaim := { program := "ytcapioiigfldoaa", sum := "94751f73726e1327b2146528d710c3c7cf8121e43d4c8455a6c7107b90345147", func := "loop.example/g00494/laws.FnExactCould", spec := "fnExactCould", apart := false }
def FnExactCouldSaid : Prop := fnExactCouldRow.holds Try.pinned (OpenSpec.ofChange fnExactCouldSpec)

/-- ITS FALSE NEIGHBOUR: 'it returns false'. Refute it at one input. -/
def fnExactCouldWrong : ChangeSpec := { name := "fnExactCould", fn := fun _ => fun
  | [d1, d2] => { results := [.lit (.bool false)], args := [d1, d2] }
  | _ => none }
def FnExactCouldWrongFalsely : Prop := fnExactCouldRow.holds Try.pinned (OpenSpec.ofChange fnExactCouldWrong)

/-- 'laws.FnExactCalm': WHATEVER THE INPUT: true; the input reads as it did. -/
def fnExactCalmSpec : ChangeSpec := { name := "fnExactCalm", fn := fun _ => fun
  | [d] => { results := [.lit (.bool true)], args := [d] }
  | _ => none }
def fnExactCalmRow : OpenClaim := { program := "ytcapioiigfldoaa", sum := "94751f73726e1327b2146528d710c3c7cf8121e43d4c8455a6c7107b90345147", func := "loop.example/g00494/laws.FnExactCalm", spec := "fnExactCalm", apart := false }
def FnExactCalmSaid : Prop := fnExactCalmRow.holds Try.pinned (OpenSpec.ofChange fnExactCalmSpec)

/-- ITS FALSE NEIGHBOUR: 'it returns false'. Refute it at one input. -/
def fnExactCalmWrong : ChangeSpec := { name := "fnExactCalm", fn := fun _ => fun
  | [d] => { results := [.lit (.bool false)], args := [d] }
  | _ => none }
def FnExactCalmWrongFalsely : Prop := fnExactCalmRow.holds Try.pinned (OpenSpec.ofChange fnExactCalmWrong)

/-- 'laws.FnExactLost': WHATEVER THE INPUT: true; the input reads as it did. -/
def fnExactLostSpec : ChangeSpec := { name := "fnExactLost", fn := fun _ => fun
  | [d1, d2] => { results := [.lit (.bool true)], args := [d1, d2] }
  | _ => none }
def fnExactLostRow : OpenClaim := { program := "ytcapioiigfldoaa", sum := "94751f73726e1327b2146528d710c3c7cf8121e43d4c8455a6c7107b90345147", func := "loop.example/g00494/laws.FnExactLost", spec := "fnExactLost", apart := false }
def FnExactLostSaid : Prop := fnExactLostRow.holds Try.pinned (OpenSpec.ofChange fnExactLostSpec)

/-- ITS FALSE NEIGHBOUR: 'it returns false'. Refute it at one input. -/
def fnExactLostWrong : ChangeSpec := { name := "fnExactLost", fn := fun _ => fun
  | [d1, d2] => { results := [.lit (.bool false)], args := [d1, d2] }
  | _ => none }
def FnExactLostWrongFalsely : Prop := fnExactLostRow.holds Try.pinned (OpenSpec.ofChange fnExactLostWrong)

/- THE SECOND FORM. 'bulk': how many values and letters a reading holds, each counted each time it is reached (what is shared counts as often as it is met; a slice's spare places count too). A statement '..UptoSaid' is the law's where the arguments, and the package variables that the reading takes, are together of bulk at most 1048576: NARROWER than '..Said'. Prove '..Said' where nothing that the law and all that it calls make is longer than what came in: it says more and counts as full. Else prove '..UptoSaid'. A law counts once. -/
mutual
def uptoBulk {H : Type} : DataW H → Nat
  | .lit (.string bytes) => bytes.length + 1
  | .lit _ => 1
  | .nil => 1
  | .ptr d => uptoBulk d + 1
  | .slice elems spare => uptoBulkAll elems + uptoBulkAll spare + 1
  | .agg parts => uptoBulkAll parts + 1
  | .iface _ d => uptoBulk d + 1
  | .map entries => uptoBulkEntries entries + 1
  | .held _ => 1
def uptoBulkAll {H : Type} : List (DataW H) → Nat
  | [] => 0
  | d :: r => uptoBulk d + uptoBulkAll r
def uptoBulkEntries {H : Type} : List (Lit × DataW H) → Nat
  | [] => 0
  | x :: r => uptoBulkEntry x + uptoBulkEntries r
def uptoBulkEntry {H : Type} : Lit × DataW H → Nat
  | (.string bytes, d) => bytes.length + uptoBulk d + 1
  | (_, d) => uptoBulk d + 1
 end
def uptoSmall : (H : Type) → List (DataW H) → Bool := fun _ ds => decide (uptoBulkAll ds ≤ 1048576)
def OpenSpec.upto (s : _root_.Go.ChangeSpec) : _root_.Go.OpenSpec := { _root_.Go.OpenSpec.ofChange s with cond := some uptoSmall }

/-- 'laws.FnFallen', WHERE WHAT IT READS IS OF BULK AT MOST 1048576: true; the input reads as it did. -/
def fnFallenUptoRow : OpenClaim := { program := "ytcapioiigfldoaa", sum := "94751f73726e1327b2146528d710c3c7cf8121e43d4c8455a6c7107b90345147", func := "loop.example/g00494/laws.FnFallen", spec := "fnFallen", apart := false, narrowed := true }
def FnFallenUptoSaid : Prop := fnFallenUptoRow.holds Try.pinned (OpenSpec.upto fnFallenSpec)

/-- 'laws.FnLeft', WHERE WHAT IT READS IS OF BULK AT MOST 1048576: true; the input reads as it did. -/
def fnLeftUptoRow : OpenClaim := { program := "ytcapioiigfldoaa", sum := "94751f73726e1327b2146528d710c3c7cf8121e43d4c8455a6c7107b90345147", func := "loop.example/g00494/laws.FnLeft", spec := "fnLeft", apart := false, narrowed := true }
def FnLeftUptoSaid : Prop := fnLeftUptoRow.holds Try.pinned (OpenSpec.upto fnLeftSpec)

/-- 'laws.FnExactLeft', WHERE WHAT IT READS IS OF BULK AT MOST 1048576: true; the input reads as it did. -/
def fnExactLeftUptoRow : OpenClaim := { program := "ytcapioiigfldoaa", sum := "94751f73726e1327b2146528d710c3c7cf8121e43d4c8455a6c7107b90345147", func := "loop.example/g00494/laws.FnExactLeft", spec := "fnExactLeft", apart := false, narrowed := true }
def FnExactLeftUptoSaid : Prop := fnExactLeftUptoRow.holds Try.pinned (OpenSpec.upto fnExactLeftSpec)

/-- 'laws.FnExactFallen', WHERE WHAT IT READS IS OF BULK AT MOST 1048576: true; the input reads as it did. -/
def fnExactFallenUptoRow : OpenClaim := { program := "ytcapioiigfldoaa", sum := "94751f73726e1327b2146528d710c3c7cf8121e43d4c8455a6c7107b90345147", func := "loop.example/g00494/laws.FnExactFallen", spec := "fnExactFallen", apart := false, narrowed := true }
def FnExactFallenUptoSaid : Prop := fnExactFallenUptoRow.holds Try.pinned (OpenSpec.upto fnExactFallenSpec)

/-- 'laws.FnExactCould', WHERE WHAT IT READS IS OF BULK AT MOST 1048576: true; the input reads as it did. -/
def fnExactCouldUptoRow : OpenClaim := { program := "ytcapioiigfldoaa", sum := "94751f73726e1327b2146528d710c3c7cf8121e43d4c8455a6c7107b90345147", func := "loop.example/g00494/laws.FnExactCould", spec := "fnExactCould", apart := false, narrowed := true }
def FnExactCouldUptoSaid : Prop := fnExactCouldUptoRow.holds Try.pinned (OpenSpec.upto fnExactCouldSpec)

/-- 'laws.FnExactCalm', WHERE WHAT IT READS IS OF BULK AT MOST 1048576: true; the input reads as it did. -/
def fnExactCalmUptoRow : OpenClaim := { program := "ytcapioiigfldoaa", sum := "94751f73726e1327b2146528d710c3c7cf8121e43d4c8455a6c7107b90345147", func := "loop.example/g00494/laws.FnExactCalm", spec := "fnExactCalm", apart := false, narrowed := true }
def FnExactCalmUptoSaid : Prop := fnExactCalmUptoRow.holds Try.pinned (OpenSpec.upto fnExactCalmSpec)

/-- 'laws.FnExactLost', WHERE WHAT IT READS IS OF BULK AT MOST 1048576: true; the input reads as it did. -/
def fnExactLostUptoRow : OpenClaim := { program := "ytcapioiigfldoaa", sum := "94751f73726e1327b2146528d710c3c7cf8121e43d4c8455a6c7107b90345147", func := "loop.example/g00494/laws.FnExactLost", spec := "fnExactLost", apart := false, narrowed := true }
def FnExactLostUptoSaid : Prop := fnExactLostUptoRow.holds Try.pinned (OpenSpec.upto fnExactLostSpec)

end Rows
end Go.Proofs.Ytcapioiigfldoaa
