/- GetText: what the model and the program return. -/
import Derived.Test.YtefoegicjigpaaaGetD
import Derived.Laws.BytesArg
namespace Go.Proofs.Ytefoegicjigpaaa
open Go.RowKit

theorem getF_some (f k n : Nat) (l : List Nat) {v c : Nat} (h : getF f k n l = some (v, c)) : v ≤ 2147483647 ∧ k < c ∧ c ≤ k + f ∧ c ≤ k + l.length := by
  induction f generalizing k n l with
  | zero => cases h
  | succ f ih =>
    cases l with
    | nil => cases h
    | cons d r =>
      simp only [getF] at h
      split at h
      · have := ih _ _ _ h
        simp only [List.length_cons]; omega
      · split at h
        · cases h
        · injection h with h
          injection h with h1 h2
          simp only [List.length_cons]; omega
theorem getN_some {l : List Nat} {at_ : Int} {v c : Nat} (h : getN l at_ = some (v, c)) : 0 ≤ at_ ∧ v ≤ 2147483647 ∧ 0 < c ∧ c ≤ 5 ∧ at_.toNat + c ≤ l.length := by
  unfold getN at h
  split at h
  · cases h
  · have := getF_some _ _ _ _ h
    rw [List.length_drop] at this
    omega
/-- What GetText reads. -/
def getT (l : List Nat) (at_ : Int) : Option (List Nat × Nat) :=
  match getN l at_ with
  | none => none
  | some (n, k) => if l.length < at_.toNat + k + n then none else some ((l.drop (at_.toNat + k)).take n, at_.toNat + k + n)
/-- The string of these bytes. -/
def strB (l : List Nat) : ByteArray := strOfNums (l.map fun b : Nat => (b : Int))
def gotT (o : Option (List Nat × Nat)) : Value :=
  match o with
  | some (t, y) => .tuple #[.string (strB t), .int .i64 (y : Int), .bool true]
  | none => .tuple #[.string ⟨#[]⟩, .int .i64 0, .bool false]
theorem conv_bytes (w : World) (b off len cap : Nat) (t : List Nat) (hlen : t.length = len) (hc : ∀ k, k < t.length → w.cell? ⟨b, off + k, none⟩ = some (.int .u8 ((t.getD k 0 : Nat) : Int))) :
    (convert 22 9 (.slice (some ⟨b, off, none⟩) len cap)).run Try.prog w = .ok (.string (strB t)) w := by
  refine run_convert_bytes_arg w 22 5 Try.underlying22 Try.underlying5 b off len cap _ (by simpa using hlen) (fun i hi => ?_) 9 Try.underlying9
  rw [hc i (by omega)]
  simp [List.getD_eq_getElem?_getD]
  rw [List.getElem?_eq_getElem (by omega)]; rfl

/-- The slice that GetText turns into a string, at whatever place. -/
theorem conv_part (w : World) (b off : Nat) (l : List Nat) (y n cap len : Nat) (hlen : len = n) (hy : y + n ≤ l.length)
    (hc : ∀ k, k < l.length → w.cell? ⟨b, off + k, none⟩ = some (.int .u8 ((l.getD k 0 : Nat) : Int))) :
    (convert 22 9 (.slice (some ⟨b, off + y, none⟩) len cap)).run Try.prog w = .ok (.string (strB ((l.drop y).take n))) w := by
  refine conv_bytes w b (off + y) len cap _ (by simp; omega) (fun k hk => ?_)
  simp at hk
  rw [Nat.add_assoc, hc (y + k) (by omega)]
  simp [List.getD_eq_getElem?_getD, hk]
  rw [List.getElem?_eq_getElem (by omega)]; rfl
theorem getT_no1 {l : List Nat} {at_ : Int} (h : getN l at_ = none) : getT l at_ = none := by unfold getT; rw [h]
theorem getT_no2 {l : List Nat} {at_ : Int} {n k : Nat} (h : getN l at_ = some (n, k)) (hlt : l.length < at_.toNat + k + n) : getT l at_ = none := by unfold getT; rw [h]; simp only; rw [if_pos hlt]
theorem getT_yes {l : List Nat} {at_ : Int} {n k : Nat} (h : getN l at_ = some (n, k)) (hlt : ¬ l.length < at_.toNat + k + n) : getT l at_ = some ((l.drop (at_.toNat + k)).take n, at_.toNat + k + n) := by
  unfold getT; rw [h]; simp only; rw [if_neg hlt]

set_option maxHeartbeats 800000 in
set_option maxRecDepth 100000 in
theorem getText_spec (A : Option Addr) (l : List Nat) (c B : Nat) (at_ : Int) (w : World) (hl : l.length ≤ 2097152) (hcap : l.length ≤ c) (hA : Bts w B A l) (hb : AllB l) (hat : at_ ≤ 9223372036854775807) :
    Calls Try.prog 30 #[.slice A l.length c, .int .i64 at_] w fun e w' => e = .returned (gotT (getT l at_)) ∧ w = w' := by
  have C := Lib.hid (fun w hA => getNum_spec A l c B at_ w hl hA hb hat)
  rcases hg : getN l at_ with _ | ⟨n, k⟩
  · rw [getT_no1 hg]
    have C2 : Hid (∀ w : World, Bts w B A l → Calls Try.prog 27 #[.slice A l.length c, .int .i64 at_] w fun e w' => e = .returned (.tuple #[.int .i64 0, .int .i64 0, .bool false]) ∧ w = w') := by
      have h := C.out; rw [hg] at h; exact h
    clear C hg
    go_enter Try.func30, Try.ntmps30
    go_wp2_with fail
    refine (C2.out _ hA).mono ?_
    rintro e w' ⟨rfl, rfl⟩
    go_wp2
    go_ret3
    exact ⟨rfl, rfl⟩
  · obtain ⟨h0, hn, hk, hk5, hy⟩ := getN_some hg
    obtain ⟨b, off, rfl, hbB, hcell⟩ : ∃ b off, A = some ⟨b, off, none⟩ ∧ b < B ∧ ∀ k, k < l.length → w.cell? ⟨b, off + k, none⟩ = some (.int .u8 ((l.getD k 0 : Nat) : Int)) := by
      rcases hA with rfl | h
      · simp at hy; omega
      · exact h
    obtain ⟨y, hyy⟩ : ∃ y, y = at_.toNat + k := ⟨_, rfl⟩
    have C2 : Hid (∀ w : World, Bts w B (some ⟨b, off, none⟩) l → Calls Try.prog 27 #[.slice (some ⟨b, off, none⟩) l.length c, .int .i64 at_] w fun e w' => e = .returned (.tuple #[.int .i64 (n : Int), .int .i64 (y : Int), .bool true]) ∧ w = w') := by
      have h := C.out; rw [hg] at h; rw [hyy]; exact h
    by_cases hlt : l.length < at_.toNat + k + n
    · rw [getT_no2 hg hlt]
      rw [← hyy] at hlt hy
      have hgt : decide ((l.length : Int) - y < n) = true := by simp; omega
      clear hyy hg C
      go_enter Try.func30, Try.ntmps30
      go_wp2_with fail
      refine (C2.out _ hA).mono ?_
      rintro e w' ⟨rfl, rfl⟩
      go_wp2
      go_ret3
      exact ⟨rfl, rfl⟩
    · obtain ⟨S, hS⟩ : ∃ S, S = strB ((l.drop (at_.toNat + k)).take n) := ⟨_, rfl⟩
      have HF : Hid (∀ z : Int, z = y + n → Ending.returned (.tuple #[.string S, .int .i64 z, .bool true]) = .returned (gotT (getT l at_))) := by
        intro z hz
        rw [getT_yes hg hlt, hz, hS, hyy]; rfl
      rw [← hyy] at hlt hy hS
      have hgt : decide ((l.length : Int) - y < n) = false := by simp; omega
      clear hyy hg C
      by_cases hcy : c = y
      · obtain rfl : n = 0 := by omega
        obtain rfl : y = l.length := by omega
        subst hcy
        have hcv := conv_bytes w b off 0 0 [] rfl (fun k hk => absurd hk (by simp))
        rw [List.take_zero] at hS
        rw [← hS] at hcv
        clear hcell hS
        go_enter Try.func30, Try.ntmps30
        go_wp2_with fail
        refine (C2.out _ hA).mono ?_
        rintro e w' ⟨rfl, rfl⟩
        go_wp2
        go_ret3
        exact ⟨HF.out _ (by omega), rfl⟩
      · have hcv := conv_part w b off l y n (c - y) n rfl (by omega) hcell
        rw [← hS] at hcv
        clear hcell hS
        go_enter Try.func30, Try.ntmps30
        go_wp2_with fail
        refine (C2.out _ hA).mono ?_
        rintro e w' ⟨rfl, rfl⟩
        go_wp2
        go_ret3
        exact ⟨HF.out _ rfl, rfl⟩
end Go.Proofs.Ytefoegicjigpaaa
