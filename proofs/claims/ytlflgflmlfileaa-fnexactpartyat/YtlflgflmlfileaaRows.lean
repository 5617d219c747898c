/-
  No cell of these rows narrows 'for every input' (looked for: loops, veiled, ifaces, maps, wideKeys, modest, calm, conditions, laid).
  DERIVED. THE GIVEN ROWS OF THIS SEAT. 6 by the template 'for every input the law returns true; each argument reads behind the call as it read before'; 0 by the template 'total and deterministic' (their statements: YtlflgflmlfileaaTotals.lean).
  GIVEN WITH THE SEED: the statements are not yours to turn. If you find one false, say at which input.
  Laid BY PROGRAM, IN A SANDBOX (cutbox-rows.mjs): the forced cells as the released guide's own fill.sh prints them over the translation 143afdc83ec49329… (all of the seat's roots in one cut). By AI agents, Wed Nov 11 2026. No macro, syntax, notation, axiom, sorry.
-/
import Derived.Test.YtlflgflmlfileaaChecked
import GoSem.Claim
import GoSem.ClaimJoined
import GoSem.ClaimMapViews
import Derived.JoinedTies
import Derived.KernelRfl
namespace Go.Proofs.Ytlflgflmlfileaa
/- THE CELL 'sum', in the pinned program and in every row, IS THE sha256 OF THE DUMP (.gsa) THAT YtlflgflmlfileaaProg.lean LOADS. Nothing in Lean hashes anything: it is a label: what it is worth is what the hold of that sum in a sandbox is worth. -/
noncomputable def Try.pinned : Pinned := { name := "ytlflgflmlfileaa", sum := "143afdc83ec49329e010756a6f7bf537a8e279b26453e26f28181f26d5d9001e", checked := Try.checked }
namespace Rows
def none {H : Type} : Left H := { results := [], args := [] }

/-- 'laws.FnPureRow': WHATEVER THE INPUT: true; the input reads as it did. -/
def fnPureRowSpec : ChangeSpec := { name := "fnPureRow", fn := fun _ => fun
  | [d] => { results := [.lit (.bool true)], args := [d] }
  | _ => none }
def fnPureRowRow : OpenClaim := { program := "ytlflgflmlfileaa", sum := "143afdc83ec49329e010756a6f7bf537a8e279b26453e26f28181f26d5d9001e", func := "loop.example/g00494/laws.FnPureRow", spec := "fnPureRow", unfollowed := true, recurses := true, apart := false }
def FnPureRowSaid : Prop := fnPureRowRow.holds Try.pinned (OpenSpec.ofChange fnPureRowSpec)

/-- ITS FALSE NEIGHBOUR: 'it returns false'. Refute it at one input. -/
def fnPureRowWrong : ChangeSpec := { name := "fnPureRow", fn := fun _ => fun
  | [d] => { results := [.lit (.bool false)], args := [d] }
  | _ => none }
def FnPureRowWrongFalsely : Prop := fnPureRowRow.holds Try.pinned (OpenSpec.ofChange fnPureRowWrong)

/-- 'laws.FnExactPartyAt': WHATEVER THE INPUT: true; the input reads as it did. -/
def fnExactPartyAtSpec : ChangeSpec := { name := "fnExactPartyAt", fn := fun _ => fun
  | [d1, d2] => { results := [.lit (.bool true)], args := [d1, d2] }
  | _ => none }
def fnExactPartyAtRow : OpenClaim := { program := "ytlflgflmlfileaa", sum := "143afdc83ec49329e010756a6f7bf537a8e279b26453e26f28181f26d5d9001e", func := "loop.example/g00494/laws.FnExactPartyAt", spec := "fnExactPartyAt", unfollowed := true, recurses := true, apart := false }
def FnExactPartyAtSaid : Prop := fnExactPartyAtRow.holds Try.pinned (OpenSpec.ofChange fnExactPartyAtSpec)

/-- ITS FALSE NEIGHBOUR: 'it returns false'. Refute it at one input. -/
def fnExactPartyAtWrong : ChangeSpec := { name := "fnExactPartyAt", fn := fun _ => fun
  | [d1, d2] => { results := [.lit (.bool false)], args := [d1, d2] }
  | _ => none }
def FnExactPartyAtWrongFalsely : Prop := fnExactPartyAtRow.holds Try.pinned (OpenSpec.ofChange fnExactPartyAtWrong)

/-- 'laws.FnExactPartyPut': WHATEVER THE INPUT: true; the input reads as it did. -/
def fnExactPartyPutSpec : ChangeSpec := { name := "fnExactPartyPut", fn := fun _ => fun
  | [d1, d2] => { results := [.lit (.bool true)], args := [d1, d2] }
  | _ => none }
def fnExactPartyPutRow : OpenClaim := { program := "ytlflgflmlfileaa", sum := "143afdc83ec49329e010756a6f7bf537a8e279b26453e26f28181f26d5d9001e", func := "loop.example/g00494/laws.FnExactPartyPut", spec := "fnExactPartyPut", unfollowed := true, recurses := true, apart := false }
def FnExactPartyPutSaid : Prop := fnExactPartyPutRow.holds Try.pinned (OpenSpec.ofChange fnExactPartyPutSpec)

/-- ITS FALSE NEIGHBOUR: 'it returns false'. Refute it at one input. -/
def fnExactPartyPutWrong : ChangeSpec := { name := "fnExactPartyPut", fn := fun _ => fun
  | [d1, d2] => { results := [.lit (.bool false)], args := [d1, d2] }
  | _ => none }
def FnExactPartyPutWrongFalsely : Prop := fnExactPartyPutRow.holds Try.pinned (OpenSpec.ofChange fnExactPartyPutWrong)

/-- 'laws.FnExactPartyCut': WHATEVER THE INPUT: true; the input reads as it did. -/
def fnExactPartyCutSpec : ChangeSpec := { name := "fnExactPartyCut", fn := fun _ => fun
  | [d1, d2] => { results := [.lit (.bool true)], args := [d1, d2] }
  | _ => none }
def fnExactPartyCutRow : OpenClaim := { program := "ytlflgflmlfileaa", sum := "143afdc83ec49329e010756a6f7bf537a8e279b26453e26f28181f26d5d9001e", func := "loop.example/g00494/laws.FnExactPartyCut", spec := "fnExactPartyCut", unfollowed := true, recurses := true, apart := false }
def FnExactPartyCutSaid : Prop := fnExactPartyCutRow.holds Try.pinned (OpenSpec.ofChange fnExactPartyCutSpec)

/-- ITS FALSE NEIGHBOUR: 'it returns false'. Refute it at one input. -/
def fnExactPartyCutWrong : ChangeSpec := { name := "fnExactPartyCut", fn := fun _ => fun
  | [d1, d2] => { results := [.lit (.bool false)], args := [d1, d2] }
  | _ => none }
def FnExactPartyCutWrongFalsely : Prop := fnExactPartyCutRow.holds Try.pinned (OpenSpec.ofChange fnExactPartyCutWrong)

/-- 'laws.FnExactTodoPut': WHATEVER THE INPUT: true; the input reads as it did. -/
def fnExactTodoPutSpec : ChangeSpec := { name := "fnExactTodoPut", fn := fun _ => fun
  | [d1, d2] => { results := [.lit (.bool true)], args := [d1, d2] }
  | _ => none }
def fnExactTodoPutRow : OpenClaim := { program := "ytlflgflmlfileaa", sum := "143afdc83ec49329e010756a6f7bf537a8e279b26453e26f28181f26d5d9001e", func := "loop.example/g00494/laws.FnExactTodoPut", spec := "fnExactTodoPut", apart := false }
def FnExactTodoPutSaid : Prop := fnExactTodoPutRow.holds Try.pinned (OpenSpec.ofChange fnExactTodoPutSpec)

/-- ITS FALSE NEIGHBOUR: 'it returns false'. Refute it at one input. -/
def fnExactTodoPutWrong : ChangeSpec := { name := "fnExactTodoPut", fn := fun _ => fun
  | [d1, d2] => { results := [.lit (.bool false)], args := [d1, d2] }
  | _ => none }
def FnExactTodoPutWrongFalsely : Prop := fnExactTodoPutRow.holds Try.pinned (OpenSpec.ofChange fnExactTodoPutWrong)

/-- 'laws.FnExactQueuePut': WHATEVER THE INPUT: true; the input reads as it did. -/
def fnExactQueuePutSpec : ChangeSpec := { name := "fnExactQueuePut", fn := fun _ => fun
  | [d1, d2] => { results := [.lit (.bool true)], args := [d1, d2] }
  | _ => none }
def fnExactQueuePutRow : OpenClaim := { program := "ytlflgflmlfileaa", sum := "143afdc83ec49329e010756a6f7bf537a8e279b26453e26f28181f26d5d9001e", func := "loop.example/g00494/laws.FnExactQueuePut", spec := "fnExactQueuePut", unfollowed := true, recurses := true, apart := false }
def FnExactQueuePutSaid : Prop := fnExactQueuePutRow.holds Try.pinned (OpenSpec.ofChange fnExactQueuePutSpec)

/-- ITS FALSE NEIGHBOUR: 'it returns false'. Refute it at one input. -/
def fnExactQueuePutWrong : ChangeSpec := { name := "fnExactQueuePut", fn := fun _ => fun
  | [d1, d2] => { results := [.lit (.bool false)], args := [d1, d2] }
  | _ => none }
def FnExactQueuePutWrongFalsely : Prop := fnExactQueuePutRow.holds Try.pinned (OpenSpec.ofChange fnExactQueuePutWrong)

/- THE SECOND FORM. 'bulk': how many values and letters a reading holds, each counted each time it is reached (what is shared counts as often as it is met; a slice's spare places count too). A statement '..UptoSaid' is the law's where the arguments, and the package variables that the reading takes, are together of bulk at most 1048576: NARROWER than '..Said'. Prove '..Said' where nothing that the law and all that it calls make is longer than what came in: it says more and counts as full. Else prove '..UptoSaid'. A law counts once. -/
mutual
def uptoBulk {H : Type} : DataW H → Nat
  | .lit (.string bytes) => bytes.length + 1
  | .lit _ => 1
  | .nil => 1
  | .ptr d => uptoBulk d + 1
  | .slice elems spare => uptoBulkAll elems + uptoBulkAll spare + 1
  | .agg parts => uptoBulkAll parts + 1
  | .iface _ d => uptoBulk d + 1
  | .map entries => uptoBulkEntries entries + 1
  | .held _ => 1
def uptoBulkAll {H : Type} : List (DataW H) → Nat
  | [] => 0
  | d :: r => uptoBulk d + uptoBulkAll r
def uptoBulkEntries {H : Type} : List (Lit × DataW H) → Nat
  | [] => 0
  | x :: r => uptoBulkEntry x + uptoBulkEntries r
def uptoBulkEntry {H : Type} : Lit × DataW H → Nat
  | (.string bytes, d) => bytes.length + uptoBulk d + 1
  | (_, d) => uptoBulk d + 1
 end
def uptoSmall : (H : Type) → List (DataW H) → Bool := fun _ ds => decide (uptoBulkAll ds ≤ 1048576)
def OpenSpec.upto (s : _root_.Go.ChangeSpec) : _root_.Go.OpenSpec := { _root_.Go.OpenSpec.ofChange s with cond := some uptoSmall }

/-- 'laws.FnPureRow', WHERE WHAT IT READS IS OF BULK AT MOST 1048576: true; the input reads as it did. -/
def fnPureRowUptoRow : OpenClaim := { program := "ytlflgflmlfileaa", sum := "143afdc83ec49329e010756a6f7bf537a8e279b26453e26f28181f26d5d9001e", func := "loop.example/g00494/laws.FnPureRow", spec := "fnPureRow", unfollowed := true, recurses := true, apart := false, narrowed := true }
def FnPureRowUptoSaid : Prop := fnPureRowUptoRow.holds Try.pinned (OpenSpec.upto fnPureRowSpec)

/-- 'laws.FnExactPartyAt', WHERE WHAT IT READS IS OF BULK AT MOST 1048576: true; the input reads as it did. -/
def fnExactPartyAtUptoRow : OpenClaim := { program := "ytlflgflmlfileaa", sum := "143afdc83ec49329e010756a6f7bf537a8e279b26453e26f28181f26d5d9001e", func := "loop.example/g00494/laws.FnExactPartyAt", spec := "fnExactPartyAt", unfollowed := true, recurses := true, apart := false, narrowed := true }
def FnExactPartyAtUptoSaid : Prop := fnExactPartyAtUptoRow.holds Try.pinned (OpenSpec.upto fnExactPartyAtSpec)

/-- 'laws.FnExactPartyPut', WHERE WHAT IT READS IS OF BULK AT MOST 1048576: true; the input reads as it did. -/
def fnExactPartyPutUptoRow : OpenClaim := { program := "ytlflgflmlfileaa", sum := "143afdc83ec49329e010756a6f7bf537a8e279b26453e26f28181f26d5d9001e", func := "loop.example/g00494/laws.FnExactPartyPut", spec := "fnExactPartyPut", unfollowed := true, recurses := true, apart := false, narrowed := true }
def FnExactPartyPutUptoSaid : Prop := fnExactPartyPutUptoRow.holds Try.pinned (OpenSpec.upto fnExactPartyPutSpec)

/-- 'laws.FnExactPartyCut', WHERE WHAT IT READS IS OF BULK AT MOST 1048576: true; the input reads as it did. -/
def fnExactPartyCutUptoRow : OpenClaim := { program := "ytlflgflmlfileaa", sum := "143afdc83ec49329e010756a6f7bf537a8e279b26453e26f28181f26d5d9001e", func := "loop.example/g00494/laws.FnExactPartyCut", spec := "fnExactPartyCut", unfollowed := true, recurses := true, apart := false, narrowed := true }
def FnExactPartyCutUptoSaid : Prop := fnExactPartyCutUptoRow.holds Try.pinned (OpenSpec.upto fnExactPartyCutSpec)

/-- 'laws.FnExactTodoPut', WHERE WHAT IT READS IS OF BULK AT MOST 1048576: true; the input reads as it did. -/
def fnExactTodoPutUptoRow : OpenClaim := { program := "ytlflgflmlfileaa", sum := "143afdc83ec49329e010756a6f7bf537a8e279b26453e26f28181f26d5d9001e", func := "loop.example/g00494/laws.FnExactTodoPut", spec := "fnExactTodoPut", apart := false, narrowed := true }
def FnExactTodoPutUptoSaid : Prop := fnExactTodoPutUptoRow.holds Try.pinned (OpenSpec.upto fnExactTodoPutSpec)

/-- 'laws.FnExactQueuePut', WHERE WHAT IT READS IS OF BULK AT MOST 1048576: true; the input reads as it did. -/
def fnExactQueuePutUptoRow : OpenClaim := { program := "ytlflgflmlfileaa", sum := "143afdc83ec49329e010756a6f7bf537a8e279b26453e26f28181f26d5d9001e", func := "loop.example/g00494/laws.FnExactQueuePut", spec := "fnExactQueuePut", unfollowed := true, recurses := true, apart := false, narrowed := true }
def FnExactQueuePutUptoSaid : Prop := fnExactQueuePutUptoRow.holds Try.pinned (OpenSpec.upto fnExactQueuePutSpec)

end Rows
end Go.Proofs.Ytlflgflmlfileaa
