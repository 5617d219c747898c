/- GetText of the program. -/
import Derived.Test.YtcapioiigfldoaaRows
import Derived.Test.YtcapioiigfldoaaGetD
import Derived.Laws.BytesArg
namespace Go.Proofs.Ytcapioiigfldoaa
open Go.RowKit
set_option linter.unusedSimpArgs false
set_option linter.unusedVariables false
theorem getF_some (f k n : Nat) (l : List Nat) {v c : Nat} (h : getF f k n l = some (v, c)) : v ≤ 2147483647 ∧ k < c ∧ c ≤ k + f ∧ c ≤ k + l.length := by
  induction f generalizing k n l with
  | zero => cases h
  | succ f ih =>
    cases l with
    | nil => cases h
    | cons d r =>
      simp only [getF] at h
      split at h
      · have := ih _ _ _ h
        simp only [List.length_cons]; omega
      · split at h
        · cases h
        · injection h with h
          injection h with h1 h2
          simp only [List.length_cons]; omega
theorem getN_some {l : List Nat} {at_ : Int} {v c : Nat} (h : getN l at_ = some (v, c)) : 0 ≤ at_ ∧ v ≤ 2147483647 ∧ 0 < c ∧ c ≤ 5 ∧ at_.toNat + c ≤ l.length := by
  unfold getN at h
  split at h
  · cases h
  · have := getF_some _ _ _ _ h
    rw [List.length_drop] at this
    omega
/-- What GetText reads. -/
def getT (l : List Nat) (at_ : Int) : Option (List Nat × Nat) :=
  match getN l at_ with
  | none => none
  | some (n, k) => if l.length < at_.toNat + k + n then none else some ((l.drop (at_.toNat + k)).take n, at_.toNat + k + n)
/-- The string of these bytes. -/
def strB (l : List Nat) : ByteArray := strOfNums (l.map fun b : Nat => (b : Int))
def gotT (o : Option (List Nat × Nat)) : Value :=
  match o with
  | some (t, y) => .tuple #[.string (strB t), .int .i64 (y : Int), .bool true]
  | none => .tuple #[.string ⟨#[]⟩, .int .i64 0, .bool false]
set_option maxRecDepth 100000 in
theorem conv_bytes (w : World) (b off len cap : Nat) (t : List Nat) (hlen : t.length = len) (hc : ∀ k, k < t.length → w.cell? ⟨b, off + k, none⟩ = some (.int .u8 ((t.getD k 0 : Nat) : Int))) :
    (convert 22 9 (.slice (some ⟨b, off, none⟩) len cap)).run Try.prog w = .ok (.string (strB t)) w := by
  refine run_convert_bytes_arg w 22 5 Try.underlying22 Try.underlying5 b off len cap _ (by simpa using hlen) (fun i hi => ?_) 9 Try.underlying9
  rw [hc i (by omega)]
  simp [List.getD_eq_getElem?_getD]
  rw [List.getElem?_eq_getElem (by omega)]; rfl
set_option maxRecDepth 100000 in
/-- The slice that GetText turns into a string, at whatever place. -/
theorem conv_part (w : World) (b off : Nat) (l : List Nat) (y n cap len : Nat) (hlen : len = n) (hy : y + n ≤ l.length)
    (hc : ∀ k, k < l.length → w.cell? ⟨b, off + k, none⟩ = some (.int .u8 ((l.getD k 0 : Nat) : Int))) :
    (convert 22 9 (.slice (some ⟨b, off + y, none⟩) len cap)).run Try.prog w = .ok (.string (strB ((l.drop y).take n))) w := by
  refine conv_bytes w b (off + y) len cap _ (by simp; omega) (fun k hk => ?_)
  simp at hk
  rw [Nat.add_assoc, hc (y + k) (by omega)]
  simp [List.getD_eq_getElem?_getD, hk]
  rw [List.getElem?_eq_getElem (by omega)]; rfl
theorem getT_no1 {l : List Nat} {at_ : Int} (h : getN l at_ = none) : getT l at_ = none := by unfold getT; rw [h]
theorem getT_no2 {l : List Nat} {at_ : Int} {n k : Nat} (h : getN l at_ = some (n, k)) (hlt : l.length < at_.toNat + k + n) : getT l at_ = none := by unfold getT; rw [h]; simp only; rw [if_pos hlt]
theorem getT_yes {l : List Nat} {at_ : Int} {n k : Nat} (h : getN l at_ = some (n, k)) (hlt : ¬ l.length < at_.toNat + k + n) : getT l at_ = some ((l.drop (at_.toNat + k)).take n, at_.toNat + k + n) := by
  unfold getT; rw [h]; simp only; rw [if_neg hlt]
theorem gotT_form (o : Option (List Nat × Nat)) : ∃ (x : ByteArray) (y : Int) (t : Bool), gotT o = .tuple #[.string x, .int .i64 y, .bool t] := by
  rcases o with _ | ⟨n, k⟩
  · exact ⟨_, 0, false, rfl⟩
  · exact ⟨_, _, true, rfl⟩
end Go.Proofs.Ytcapioiigfldoaa
