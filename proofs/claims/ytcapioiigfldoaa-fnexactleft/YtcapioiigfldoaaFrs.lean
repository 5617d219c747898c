/- Frames, Whole, Torn, and the walks of their laws. -/
import Derived.Test.YtcapioiigfldoaaRows
import Derived.Test.YtcapioiigfldoaaFrMark
import Derived.WalkMore
import Derived.ScopeJumps
namespace Go.Proofs.Ytcapioiigfldoaa
open Go.RowKit
set_option linter.unusedSimpArgs false
set_option linter.unusedVariables false
theorem frC_one (f : Fr) : ∀ u ∈ frC f, u.oneCell' = true := by
  intro u hu
  simp only [frC, List.mem_cons, List.not_mem_nil, or_false] at hu
  rcases hu with rfl | rfl | rfl <;> rfl
theorem fAt_some {l : List Nat} {a seq sz : Nat} {b : List Nat} (h : fAt l (a : Int) = some (seq, b, sz)) : FrOk seq b ∧ frameOf seq b = (l.drop a).take sz ∧ sz = (frameOf seq b).length ∧ 0 < sz ∧ a + sz ≤ l.length := by
  unfold fAt at h
  split at h
  · rename_i h1
    rw [Int.toNat_natCast] at h
    obtain ⟨ok, e, hsz⟩ := specF_sound h
    have hle := frameOf_le ok
    have hl := frameOf_len ok
    have h2 : ((((l.drop a).take 80)).take sz).length = sz := by rw [← e, hsz]
    rw [List.length_take, List.length_take, List.length_drop] at h2
    refine ⟨ok, ?_, hsz, by omega, by omega⟩
    rw [e, List.take_take, Nat.min_eq_left (by omega)]
  · cases h
/-- The frames from a on, with fuel. -/
def frsF : Nat → List Nat → Nat → List Fr
  | 0, _, _ => []
  | n + 1, l, a => match fAt l (a : Int) with
    | none => []
    | some (seq, b, sz) => ⟨seq, strB b, ((a + sz : Nat) : Int)⟩ :: frsF n l (a + sz)
def framesOf (l : List Nat) : List Fr := frsF l.length l 0
theorem frsF_none {n a : Nat} {l : List Nat} (h : fAt l (a : Int) = none) : frsF n l a = [] := by
  cases n with
  | zero => rfl
  | succ n => simp only [frsF]; rw [h]
theorem frsF_some {n a seq sz : Nat} {l b : List Nat} (h : fAt l (a : Int) = some (seq, b, sz)) : frsF (n + 1) l a = ⟨seq, strB b, ((a + sz : Nat) : Int)⟩ :: frsF n l (a + sz) := by
  simp only [frsF]; rw [h]
/-- Where the loop of Frames stands: p is read, at a. -/
def FrAtt (l : List Nat) (p : List Fr) (a : Nat) : Prop := ∃ n, p ++ frsF n l a = framesOf l ∧ l.length ≤ a + n ∧ a ≤ l.length ∧ p.length ≤ a
theorem FrAtt.start (l : List Nat) : FrAtt l [] 0 := ⟨l.length, rfl, by omega, by omega, by simp⟩
theorem FrAtt.step {l : List Nat} {p : List Fr} {a seq sz : Nat} {b : List Nat} (h : FrAtt l p a) (hf : fAt l (a : Int) = some (seq, b, sz)) : FrAtt l (p ++ [⟨seq, strB b, ((a + sz : Nat) : Int)⟩]) (a + sz) := by
  obtain ⟨n, h1, h2, h3, h4⟩ := h
  obtain ⟨_, _, _, h5, h6⟩ := fAt_some hf
  cases n with
  | zero => omega
  | succ n =>
    refine ⟨n, ?_, by omega, by omega, by simp; omega⟩
    rw [← h1, frsF_some hf, List.append_assoc]; rfl
theorem FrAtt.stop {l : List Nat} {p : List Fr} {a : Nat} (h : FrAtt l p a) (hf : fAt l (a : Int) = none) : p = framesOf l := by
  obtain ⟨n, h1, _⟩ := h
  rw [← h1, frsF_none hf, List.append_nil]
theorem framesOf_len (l : List Nat) : (framesOf l).length ≤ l.length := by
  have key : ∀ n a, (frsF n l a).length ≤ n := by
    intro n
    induction n with
    | zero => intro a; simp [frsF]
    | succ n ih =>
      intro a
      simp only [frsF]
      split
      · simp
      · simp only [List.length_cons]; have := ih (a + ‹Nat›); omega
  exact key _ _
theorem own_not {w : World} {base e sz n B : Nat} {v : Value} {cs : List Value} (h : w.ownsRow base e sz v n cs) (hB : w.heap.size ≤ B) : v.ownBlock ≠ some B := by
  intro hv
  have := (World.ownsRow.lt h B hv).2
  omega
/-- What Whole returns. -/
def wholeOf (l : List Nat) : Int := if (framesOf l).length = 0 then 0 else ((framesOf l).getD ((framesOf l).length - 1) fr0).next
end Go.Proofs.Ytcapioiigfldoaa
