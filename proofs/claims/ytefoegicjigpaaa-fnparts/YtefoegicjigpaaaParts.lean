/- Parts: what the program and the model return. -/
import Derived.Test.YtefoegicjigpaaaMarkS
namespace Go.Proofs.Ytefoegicjigpaaa
open Go.RowKit

/-- The parts behind k bytes, and where the next one begins. -/
def pst (s : ByteArray) (c : Nat) : Nat → List ByteArray × Nat
  | 0 => ([], 0)
  | k + 1 => if (strN s).getD k 0 = c then ((pst s c k).1 ++ [s.extract (pst s c k).2 k], k + 1) else pst s c k
def partsOf (s : ByteArray) (c : Nat) : List ByteArray := (pst s c s.size).1 ++ [s.extract (pst s c s.size).2 s.size]
theorem pst_bounds (s : ByteArray) (c k : Nat) : (pst s c k).2 ≤ k ∧ (pst s c k).1.length ≤ k := by
  induction k with
  | zero => simp [pst]
  | succ k ih =>
    simp only [pst]
    split
    · simp; omega
    · omega
theorem pst_hit (s : ByteArray) (c k : Nat) (h : (strN s).getD k 0 = c) : pst s c (k + 1) = ((pst s c k).1 ++ [s.extract (pst s c k).2 k], k + 1) := by simp only [pst]; rw [if_pos h]
theorem pst_miss (s : ByteArray) (c k : Nat) (h : ¬ (strN s).getD k 0 = c) : pst s c (k + 1) = pst s c k := by simp only [pst]; rw [if_neg h]
theorem strN_at (s : ByteArray) (k : Nat) (h : k < s.size) : (strN s).getD k 0 = (s[k]'h).toNat := strN_getD s k h
theorem one_newS (w : World) (t : ByteArray) : (w.alloc (.cells #[.string t] 9)).cell? ⟨w.heap.size, 0, none⟩ = some (.string t) := by
  rw [World.cell?_alloc_at _ _ _ _ rfl]; rfl
theorem owns_alloc {w : World} {base : Nat} {v : Value} {l : List ByteArray} (h : OwnS w base v l) (o : Obj) : OwnS (w.alloc o) base v l := World.ownsRow.alloc h o

set_option maxHeartbeats 800000 in
theorem parts_impl (s : ByteArray) (c : Nat) (w : World) (hs : s.size ≤ 2097152) : Calls Try.prog 21 #[.string s, .int .u8 c] w (NewS w (partsOf s c)) := by
  go_enter Try.func21, Try.ntmps21
  go_wp2
  go_loopw [5, 6, 7] (fun v f i wr => ∃ k : Nat, k ≤ s.size ∧ i = .int .i64 k ∧ f = .int .i64 ((pst s c k).2 : Int) ∧ OwnS wr w.heap.size v (pst s c k).1 ∧ Below w.heap.size w wr) (fun _ _ i _ => s.size - (intOf i).toNat)
  case atStart => exact ⟨0, by omega, rfl, rfl, World.ownsRow_nil _ _ _ _, Below.refl _ _⟩
  case round =>
    obtain ⟨k, hk, rfl, rfl, hown, hbel⟩ := hrel
    obtain ⟨h1, h2⟩ := pst_bounds s c k
    have hbs := hbel.size
    by_cases hlt : k < s.size
    · have hat := strN_at s k hlt
      by_cases hh : (strN s).getD k 0 = c
      · have HS := Lib.hid (pst_hit s c k hh)
        have hb : (((s[k]'hlt).toNat : Int) == (c : Int)) = true := by rw [← hat, hh]; simp
        clear hat hh
        generalize (pst s c k).1 = xs at *
        generalize (pst s c k).2 = f at *
        go_wp2_with (at_builtin; refine wpList_app1S _ rfl (.tmp 19) (.tmp 24) rfl w.heap.size _ xs rfl (owns_alloc hown _) wr.heap.size _ rfl (one_newS _ _) (by omega) (by simp; omega) ?_)
        intro v' w1 o1 g1
        have b1 : Below w.heap.size w w1 := (hbel.alloc hbs _).grown g1 (by simp; omega) (owns_lo hown)
        clear g1 hown hbel
        go_wp2
        go_roundw
        case rel => exact ⟨k + 1, by omega, by go_num, by rw [HS.out]; go_num, by rw [HS.out]; exact o1, b1⟩
        case measure => simp [intOf]; omega
      · have HS := Lib.hid (pst_miss s c k hh)
        have hb : (((s[k]'hlt).toNat : Int) == (c : Int)) = false := by rw [hat] at hh; simp; omega
        clear hat hh
        go_wp2
        go_roundw
        case rel => exact ⟨k + 1, by omega, by go_num, by rw [HS.out], by rw [HS.out]; exact hown, hbel⟩
        case measure => simp [intOf]; omega
    · obtain rfl : k = s.size := by omega
      have HP : Hid (partsOf s c = (pst s c s.size).1 ++ [s.extract (pst s c s.size).2 s.size]) := rfl
      generalize (pst s c s.size).1 = xs at *
      generalize (pst s c s.size).2 = f at *
      go_wp2_with (at_builtin; refine wpList_app1S _ rfl (.tmp 28) (.tmp 32) rfl w.heap.size _ xs rfl (owns_alloc hown _) wr.heap.size _ rfl (one_newS _ _) (by omega) (by simp; omega) ?_)
      intro v' w1 o1 g1
      have b1 : Below w.heap.size w w1 := (hbel.alloc hbs _).grown g1 (by simp; omega) (owns_lo hown)
      have R : Hid (NewS w (partsOf s c) (.returned v') w1) := by
        show NewS _ _ _ _
        rw [HP.out]; exact NewS.of_own o1 b1
      clear g1 hown hbel o1 b1
      go_wp2
      go_ret
      exact R.out

theorem ownS_empty (w : World) (base : Nat) (h : base ≤ w.heap.size) : OwnS (w.alloc (.cells #[] 9)) base (.slice (some ⟨w.heap.size, 0, none⟩) 0 0) [] :=
  ⟨by simp [scells], .inr ⟨_, _, _, rfl, h, heap_alloc_new _ _, Nat.le_refl _, by simp, by simp, by simp [scells]⟩⟩
set_option maxHeartbeats 800000 in
theorem parts_spec (s : ByteArray) (c : Nat) (w : World) (hs : s.size ≤ 2097152) : Calls Try.prog 31 #[.string s, .int .u8 c] w (NewS w (partsOf s c)) := by
  go_enter Try.func31, Try.ntmps31
  go_wp2
  go_loopw [5, 6, 7] (fun v f i wr => Below w.heap.size w wr ∧ ((∃ k : Nat, k ≤ s.size ∧ i = .int .i64 k ∧ f = .int .i64 ((pst s c k).2 : Int) ∧ OwnS wr w.heap.size v (pst s c k).1) ∨ (∃ z, i = .int .i64 ((s.size : Int) + 1) ∧ f = .int .i64 z ∧ OwnS wr w.heap.size v (partsOf s c)))) (fun _ _ i _ => s.size + 1 - (intOf i).toNat)
  case atStart => exact ⟨(Below.refl _ _).alloc (Nat.le_refl _) _, .inl ⟨0, by omega, rfl, rfl, ownS_empty _ _ (Nat.le_refl _)⟩⟩
  case round =>
    obtain ⟨hbel, hrel⟩ := hrel
    have hbs := hbel.size
    rcases hrel with ⟨k, hk, rfl, rfl, hown⟩ | ⟨z, rfl, rfl, hown⟩
    · obtain ⟨h1, h2⟩ := pst_bounds s c k
      by_cases hlt : k < s.size
      · have hat := strN_at s k hlt
        have hkn : ((k : Int) == (s.size : Int)) = false := by simp; omega
        by_cases hh : (strN s).getD k 0 = c
        · have HS := Lib.hid (pst_hit s c k hh)
          have hb : (((s[k]'hlt).toNat : Int) == (c : Int)) = true := by rw [← hat, hh]; simp
          clear hat hh
          generalize (pst s c k).1 = xs at *
          generalize (pst s c k).2 = f at *
          go_wp2_with (at_builtin; refine wpList_app1S _ rfl (.tmp 26) (.tmp 31) rfl w.heap.size _ xs rfl (owns_alloc hown _) wr.heap.size _ rfl (one_newS _ _) (by omega) (by simp; omega) ?_)
          intro v' w1 o1 g1
          have b1 : Below w.heap.size w w1 := (hbel.alloc hbs _).grown g1 (by simp; omega) (owns_lo hown)
          clear g1 hown hbel
          go_wp2
          go_roundw
          case rel => exact ⟨b1, .inl ⟨k + 1, by omega, by go_num, by rw [HS.out]; go_num, by rw [HS.out]; exact o1⟩⟩
          case measure => simp [intOf]; omega
        · have HS := Lib.hid (pst_miss s c k hh)
          have hb : (((s[k]'hlt).toNat : Int) == (c : Int)) = false := by rw [hat] at hh; simp; omega
          clear hat hh
          go_wp2
          go_roundw
          case rel => exact ⟨hbel, .inl ⟨k + 1, by omega, by go_num, by rw [HS.out], by rw [HS.out]; exact hown⟩⟩
          case measure => simp [intOf]; omega
      · obtain rfl : k = s.size := by omega
        have hkn : ((s.size : Int) == (s.size : Int)) = true := by simp
        have HP : Hid (partsOf s c = (pst s c s.size).1 ++ [s.extract (pst s c s.size).2 s.size]) := rfl
        generalize (pst s c s.size).1 = xs at *
        generalize (pst s c s.size).2 = f at *
        go_wp2_with (at_builtin; refine wpList_app1S _ rfl (.tmp 26) (.tmp 31) rfl w.heap.size _ xs rfl (owns_alloc hown _) wr.heap.size _ rfl (one_newS _ _) (by omega) (by simp; omega) ?_)
        intro v' w1 o1 g1
        have b1 : Below w.heap.size w w1 := (hbel.alloc hbs _).grown g1 (by simp; omega) (owns_lo hown)
        clear g1 hown hbel
        go_wp2
        go_roundw
        case rel => exact ⟨b1, .inr ⟨_, rfl, rfl, by rw [HP.out]; exact o1⟩⟩
        case measure => simp [intOf]
    · have R := Lib.hid (NewS.of_own hown hbel)
      clear hown hbel
      go_wp2
      go_ret
      exact R.out
end Go.Proofs.Ytefoegicjigpaaa
