/- Could, Calm, Lost of the model; slices of ints in the laws. -/
import Derived.Test.YtcapioiigfldoaaRows
import Derived.Test.YtcapioiigfldoaaFall
namespace Go.Proofs.Ytcapioiigfldoaa
open Go.RowKit
set_option linter.unusedSimpArgs false
set_option linter.unusedVariables false
def couldS (s t : St) : Prop := couldA s.log t.log ∧ couldA s.even t.even ∧ couldA s.odd t.odd
instance (s t : St) : Decidable (couldS s t) := by unfold couldS; infer_instance
def calmA (a : Ar) : Prop := a.safe = a.data.size
instance (a : Ar) : Decidable (calmA a) := by unfold calmA; infer_instance
def calmS (s : St) : Prop := calmA s.log ∧ calmA s.even ∧ calmA s.odd
instance (s : St) : Decidable (calmS s) := by unfold calmS; infer_instance
def lenS (s : St) : Nat := s.log.data.size + s.even.data.size + s.odd.data.size
def lostS (s t : St) : Int := if couldS s t then (lenS s : Int) - lenS t else 0
set_option maxRecDepth 100000 in
set_option maxHeartbeats 800000 in
theorem could_spec (s t : St) (w : World) (hg : s.go) : Calls Try.prog 32 #[stA s, stA t] w fun e w' => e = .returned (.bool (decide (couldS s t))) ∧ Below w.heap.size w w' := by
  obtain ⟨g1, g2, g3⟩ := hg
  have C1 := Lib.hid (fun w => could1_spec s.log t.log w g1)
  have C2 := Lib.hid (fun w => could1_spec s.even t.even w g2)
  have C3 := Lib.hid (fun w => could1_spec s.odd t.odd w g3)
  clear g1 g2 g3
  unfold couldS
  unfold arA at C1 C2 C3
  unfold stA
  by_cases h1 : couldA s.log t.log
  · by_cases h2 : couldA s.even t.even
    · simp only [h1, h2, true_and, decide_true] at C1 C2 ⊢
      go_enter Try.func32, Try.ntmps32
      go_wp2_with fail
      refine (C1.out _).mono ?_
      rintro e w1 ⟨rfl, b1⟩
      have q21 := boxk _ w1 _ _ b1 2 _ rfl
      simp only [World.size_alloc] at q21
      have p21 := boxk w w1 _ _ (boxB _ w1 _ b1) 2 _ rfl
      have q31 := boxk _ w1 _ _ b1 3 _ rfl
      simp only [World.size_alloc] at q31
      have p31 := boxk w w1 _ _ (boxB _ w1 _ b1) 3 _ rfl
      go_wp2_with fail
      refine (C2.out _).mono ?_
      rintro e w2 ⟨rfl, b2⟩
      have b2 := b1.trans (b2.mono b1.size)
      clear b1
      have q42 := boxk _ w2 _ _ b2 4 _ rfl
      simp only [World.size_alloc] at q42
      have p42 := boxk w w2 _ _ (boxB _ w2 _ b2) 4 _ rfl
      have q52 := boxk _ w2 _ _ b2 5 _ rfl
      simp only [World.size_alloc] at q52
      have p52 := boxk w w2 _ _ (boxB _ w2 _ b2) 5 _ rfl
      go_wp2_with fail
      refine (C3.out _).mono ?_
      rintro e w3 ⟨rfl, b3⟩
      have b3 := b2.trans (b3.mono b2.size)
      clear b2
      go_wp2
      go_ret
      exact ⟨by simp, boxB _ _ _ (boxB _ _ _ b3)⟩
    · simp only [h1, h2, true_and, false_and, decide_true, decide_false] at C1 C2 ⊢
      go_enter Try.func32, Try.ntmps32
      go_wp2_with fail
      refine (C1.out _).mono ?_
      rintro e w1 ⟨rfl, b1⟩
      have q21 := boxk _ w1 _ _ b1 2 _ rfl
      simp only [World.size_alloc] at q21
      have p21 := boxk w w1 _ _ (boxB _ w1 _ b1) 2 _ rfl
      have q31 := boxk _ w1 _ _ b1 3 _ rfl
      simp only [World.size_alloc] at q31
      have p31 := boxk w w1 _ _ (boxB _ w1 _ b1) 3 _ rfl
      go_wp2_with fail
      refine (C2.out _).mono ?_
      rintro e w2 ⟨rfl, b2⟩
      have b2 := b1.trans (b2.mono b1.size)
      clear b1
      have q42 := boxk _ w2 _ _ b2 4 _ rfl
      simp only [World.size_alloc] at q42
      have p42 := boxk w w2 _ _ (boxB _ w2 _ b2) 4 _ rfl
      have q52 := boxk _ w2 _ _ b2 5 _ rfl
      simp only [World.size_alloc] at q52
      have p52 := boxk w w2 _ _ (boxB _ w2 _ b2) 5 _ rfl
      go_wp2
      go_ret
      exact ⟨rfl, boxB _ _ _ (boxB _ _ _ b2)⟩
  · simp only [h1, false_and, decide_false] at C1 ⊢
    go_enter Try.func32, Try.ntmps32
    go_wp2_with fail
    refine (C1.out _).mono ?_
    rintro e w1 ⟨rfl, b1⟩
    have q21 := boxk _ w1 _ _ b1 2 _ rfl
    simp only [World.size_alloc] at q21
    have p21 := boxk w w1 _ _ (boxB _ w1 _ b1) 2 _ rfl
    have q31 := boxk _ w1 _ _ b1 3 _ rfl
    simp only [World.size_alloc] at q31
    have p31 := boxk w w1 _ _ (boxB _ w1 _ b1) 3 _ rfl
    go_wp2
    go_ret
    exact ⟨rfl, boxB _ _ _ (boxB _ _ _ b1)⟩
set_option maxRecDepth 100000 in
set_option maxHeartbeats 800000 in
theorem calm_spec (s : St) (w : World) : Calls Try.prog 33 #[stA s] w fun e w' => e = .returned (.bool (decide (calmS s))) ∧ Below w.heap.size w w' := by
  have C1 : Hid (∀ w, Calls Try.prog 52 #[arA s.log] w fun e w' => e = .returned (.bool (decide (calmA s.log))) ∧ Below w.heap.size w w') := fun w => calm1_spec s.log w
  have C2 : Hid (∀ w, Calls Try.prog 52 #[arA s.even] w fun e w' => e = .returned (.bool (decide (calmA s.even))) ∧ Below w.heap.size w w') := fun w => calm1_spec s.even w
  have C3 : Hid (∀ w, Calls Try.prog 52 #[arA s.odd] w fun e w' => e = .returned (.bool (decide (calmA s.odd))) ∧ Below w.heap.size w w') := fun w => calm1_spec s.odd w
  unfold calmS
  unfold arA at C1 C2 C3
  unfold stA
  by_cases h1 : calmA s.log
  · by_cases h2 : calmA s.even
    · simp only [h1, h2, true_and, decide_true] at C1 C2 ⊢
      go_enter Try.func33, Try.ntmps33
      go_wp2_with fail
      refine (C1.out _).mono ?_
      rintro e w1 ⟨rfl, b1⟩
      have q21 := boxk w w1 _ _ b1 2 _ rfl
      have q31 := boxk w w1 _ _ b1 3 _ rfl
      go_wp2_with fail
      refine (C2.out _).mono ?_
      rintro e w2 ⟨rfl, b2⟩
      have b2 := b1.trans (b2.mono b1.size)
      clear b1
      have q42 := boxk w w2 _ _ b2 4 _ rfl
      have q52 := boxk w w2 _ _ b2 5 _ rfl
      go_wp2_with fail
      refine (C3.out _).mono ?_
      rintro e w3 ⟨rfl, b3⟩
      have b3 := b2.trans (b3.mono b2.size)
      clear b2
      go_wp2
      go_ret
      exact ⟨by simp, boxB _ _ _ b3⟩
    · simp only [h1, h2, true_and, false_and, decide_true, decide_false] at C1 C2 ⊢
      go_enter Try.func33, Try.ntmps33
      go_wp2_with fail
      refine (C1.out _).mono ?_
      rintro e w1 ⟨rfl, b1⟩
      have q21 := boxk w w1 _ _ b1 2 _ rfl
      have q31 := boxk w w1 _ _ b1 3 _ rfl
      go_wp2_with fail
      refine (C2.out _).mono ?_
      rintro e w2 ⟨rfl, b2⟩
      have b2 := b1.trans (b2.mono b1.size)
      clear b1
      have q42 := boxk w w2 _ _ b2 4 _ rfl
      have q52 := boxk w w2 _ _ b2 5 _ rfl
      go_wp2
      go_ret
      exact ⟨rfl, boxB _ _ _ b2⟩
  · simp only [h1, false_and, decide_false] at C1 ⊢
    go_enter Try.func33, Try.ntmps33
    go_wp2_with fail
    refine (C1.out _).mono ?_
    rintro e w1 ⟨rfl, b1⟩
    have q21 := boxk w w1 _ _ b1 2 _ rfl
    have q31 := boxk w w1 _ _ b1 3 _ rfl
    go_wp2
    go_ret
    exact ⟨rfl, boxB _ _ _ b1⟩
set_option maxRecDepth 100000 in
set_option maxHeartbeats 800000 in
theorem lost_spec (s t : St) (w : World) (hg : s.go) (hs : lenS s ≤ 2097152) (ht : lenS t ≤ 2097152) : Calls Try.prog 34 #[stA s, stA t] w fun e w' => e = .returned (.int .i64 (lostS s t)) ∧ Below w.heap.size w w' := by
  have C := Lib.hid (fun w => could_spec s t w hg)
  have C1 : Hid (∀ w, Calls Try.prog 16 #[stA s] w fun e w' => e = .returned (.int .i64 (lenS s : Int)) ∧ Below w.heap.size w w') := fun w => storeLen_spec s w (by unfold lenS at hs; omega)
  have C2 : Hid (∀ w, Calls Try.prog 16 #[stA t] w fun e w' => e = .returned (.int .i64 (lenS t : Int)) ∧ Below w.heap.size w w') := fun w => storeLen_spec t w (by unfold lenS at ht; omega)
  by_cases hc : couldS s t
  · have HR : Hid (lostS s t = (lenS s : Int) - lenS t) := by show _ = _; unfold lostS; rw [if_pos hc]
    generalize lostS s t = L at *
    simp only [hc, decide_true] at C
    unfold stA at C
    unfold stA
    go_enter Try.func34, Try.ntmps34
    go_wp2_with fail
    refine (C.out _).mono ?_
    rintro e w2 ⟨rfl, b2⟩
    have T0 := two_at w w2 _ _ b2
    have KS : Hid (∀ w', Below w2.heap.size w2 w' → w'.heap[w.heap.size]? = some (.cells #[.string s.log.data, .int .i64 s.log.safe, .string s.even.data, .int .i64 s.even.safe, .string s.odd.data, .int .i64 s.odd.safe] 27 (0, 0))) := fun w' h => blk_call T0.1 h
    have KT : Hid (∀ w', Below w2.heap.size w2 w' → w'.heap[w.heap.size + 1]? = some (.cells #[.string t.log.data, .int .i64 t.log.safe, .string t.even.data, .int .i64 t.even.safe, .string t.odd.data, .int .i64 t.odd.safe] 27 (0, 0))) := fun w' h => blk_call T0.2.1 h
    have bW := Lib.hid T0.2.2
    clear T0 b2
    go_wp2_with fail
    refine wp_region_held_drew (S := fun w' => Hid (Below w2.heap.size w2 w')) (by kernel_rfl) (below_drawn (Below.refl _ _) 1) (fun hHeld => ?_)
    refine held_take 0 9 (stA s) rfl rfl (by kernel_rfl) (by kernel_rfl) (by kernel_rfl) (fun _ _ _ h => h) rfl hHeld (fun w hS => exec_loadI _ s w (KS.out w hS.out)) ?_
    refine held_take 2 11 (stA t) rfl rfl (by kernel_rfl) (by kernel_rfl) (by kernel_rfl) (fun _ _ _ h => h) rfl hHeld (fun w hS => exec_loadI _ t w (KT.out w hS.out)) ?_
    simp only [Act.put, List.setIfInBounds_toArray, List.set_cons_zero, List.set_cons_succ]
    refine held_call 1 10 16 #[stA s] rfl rfl (by kernel_rfl) rfl (exec_call Try.func16 (by kernel_rfl) (by kernel_rfl) _) ?_
    refine (C1.out _).mono ?_
    rintro e u1 ⟨rfl, x1⟩
    have k1 := hHeld.out.trans (x1.mono hHeld.out.size)
    refine ⟨_, rfl, k1, ?_⟩
    simp only [Act.put, List.setIfInBounds_toArray, List.set_cons_zero, List.set_cons_succ]
    refine held_call 3 12 16 #[stA t] rfl rfl (by kernel_rfl) rfl (exec_call Try.func16 (by kernel_rfl) (by kernel_rfl) _) ?_
    refine (C2.out _).mono ?_
    rintro e u2 ⟨rfl, x2⟩
    have k2 := k1.trans (x2.mono k1.size)
    refine ⟨_, rfl, k2, ?_⟩
    simp only [Act.put, List.setIfInBounds_toArray, List.set_cons_zero, List.set_cons_succ]
    refine held_op 4 13 (.int .i64 ((lenS s : Int) - lenS t)) rfl rfl (by kernel_rfl) rfl (exec_subI _ _ _ _ rfl (by omega) (by omega)) k2 ?_
    simp only [Act.put, List.setIfInBounds_toArray, List.set_cons_zero, List.set_cons_succ]
    refine held_op 5 4 (.int .i64 ((lenS s : Int) - lenS t)) rfl rfl (by kernel_rfl) rfl rfl k2 ?_
    simp only [Act.put, List.setIfInBounds_toArray, List.set_cons_zero, List.set_cons_succ]
    refine wpAnyH_done (by kernel_rfl) ?_ _
    go_wp2
    go_ret
    exact ⟨by rw [HR.out]; rfl, bW.out.trans (k2.mono bW.out.size)⟩
  · have HR : Hid (lostS s t = 0) := by show _ = _; unfold lostS; rw [if_neg hc]
    rw [HR.out]
    simp only [hc, decide_false] at C
    unfold stA at C
    unfold stA
    go_enter Try.func34, Try.ntmps34
    go_wp2_with fail
    refine (C.out _).mono ?_
    rintro e w2 ⟨rfl, b2⟩
    go_wp2
    go_ret
    exact ⟨rfl, boxB _ _ _ (boxB _ _ _ b2)⟩
/-- toIntS halfway. -/
def halfI (l : List Int) (k : Nat) : List Value := ints (l.take k) ++ ints (List.replicate (l.length - k) 0)
theorem halfI_zero (l : List Int) : (madeCells #[Value.int .i64 0] l.length).toList = halfI l 0 := by
  rw [toList_madeCells_one]; simp [halfI, ints]
theorem halfI_all (l : List Int) : halfI l l.length = ints l := by simp [halfI, ints]
theorem halfI_len (l : List Int) (k : Nat) (hk : k ≤ l.length) : (halfI l k).length = l.length := by simp [halfI, ints]; omega
theorem halfI_set (l : List Int) (k : Nat) (hk : k < l.length) : (halfI l k).set k (.int .i64 (l.getD k 0)) = halfI l (k + 1) := by
  unfold halfI
  rw [take_snoc l k 0 hk, ints_append, List.set_append]
  have h1 : (ints (l.take k)).length = k := by simp [ints]; omega
  rw [if_neg (by omega), h1, Nat.sub_self]
  have h2 : l.length - k = (l.length - (k + 1)) + 1 := by omega
  rw [h2, List.replicate_succ]
  simp [ints]
set_option maxRecDepth 100000 in
theorem info3 : (Try.prog.info? 3).map (fun i => (i.zero, i.size, i.bytes)) = some (some (.int .i64 0), 1, 8) := by kernel_rfl
set_option maxRecDepth 100000 in
set_option maxHeartbeats 400000 in
/-- toIntS: a new block with the same numbers. -/
theorem toInt_any (A : Option Addr) (l : List Int) (c B : Nat) (w : World) (hl : l.length ≤ 2097152) (hA : Rws w B A (ints l)) (hB : B ≤ w.heap.size) :
    Calls Try.prog 29 #[.slice A l.length c] w fun e w' => e = .returned (.slice (some ⟨w.heap.size, 0, none⟩) l.length l.length) ∧ w.alloc (.cells (ints l).toArray 3) = w' := by
  obtain ⟨i0, hi, hz0, hz1, hz2⟩ := info_parts info3
  have hmk : (Instr.makeSlice 28 (.int .i64 (l.length : Int)) (.int .i64 (l.length : Int))).run Try.prog w =
      .ok (.slice (some ⟨w.heap.size, 0, none⟩) l.length l.length) (w.alloc (.cells (halfI l 0).toArray 3)) := by
    have h := run_make (P := Try.prog) w 28 3 i0 (.int .i64 0) Try.underlying28 hi hz0 .i64 .i64 l.length l.length (by omega) (by omega) (by rw [hz2]; omega) (by omega)
    rw [h, hz1, Int.toNat_natCast, Nat.mul_one, ← halfI_zero]
    rfl
  go_enter Try.func29, Try.ntmps29
  go_wp2
  go_loopw [4] (fun i wr => ∃ k : Nat, k ≤ l.length ∧ i = .int .i64 k ∧ wr = w.alloc (.cells (halfI l k).toArray 3)) (fun i _ => l.length - (intOf i).toNat)
  case atStart => exact ⟨0, by omega, rfl, rfl⟩
  case round =>
    clear hmk
    obtain ⟨k, hk, rfl, rfl⟩ := hrel
    by_cases hlt : k < l.length
    · obtain ⟨b, off, rfl, hbB, hc⟩ := hA.int hlt
      have hne : ¬ b = w.heap.size := by omega
      have hltb : b < w.heap.size := by omega
      have HS := Lib.hid (halfI_set l k hlt)
      have hsz2 : k < (halfI l k).length := by rw [halfI_len l k hk]; omega
      generalize l.getD k 0 = v at *
      generalize halfI l k = cur at *
      go_wp2
      go_roundw
      case rel => exact ⟨k + 1, by omega, by go_num, by rw [← HS.out]⟩
      case measure => simp [intOf]; omega
    · obtain rfl : k = l.length := by omega
      rw [halfI_all]
      go_wp2
      go_ret
      exact ⟨rfl, rfl⟩
set_option maxRecDepth 100000 in
set_option maxHeartbeats 400000 in
/-- eqIntS on two slices that read alike. -/
theorem eqInt_same (A A' : Option Addr) (l : List Int) (c c' B B' : Nat) (w : World) (hl : l.length ≤ 2097152) (hA : Rws w B A (ints l)) (hA' : Rws w B' A' (ints l)) :
    Calls Try.prog 31 #[.slice A l.length c, .slice A' l.length c'] w fun e w' => e = .returned (.bool true) ∧ Below w.heap.size w w' := by
  have hne : ((l.length : Int) != (l.length : Int)) = false := by simp
  go_enter Try.func31, Try.ntmps31
  go_wp2
  go_loopw [5] (fun i wr => ∃ k n : Nat, k ≤ l.length ∧ i = .int .i64 k ∧ wr = w.drewN n) (fun i _ => l.length - (intOf i).toNat)
  case atStart => exact ⟨0, 0, by omega, rfl, rfl⟩
  case round =>
    obtain ⟨k, n, hk, rfl, rfl⟩ := hrel
    by_cases hlt : k < l.length
    · obtain ⟨b, off, rfl, hbB, hc⟩ := hA.int hlt
      obtain ⟨b', off', rfl, hbB', hc'⟩ := hA'.int hlt
      generalize l.getD k 0 = x at *
      have hx : (x != x) = false := by simp
      go_wp2_with fail
      go_quiet (fail)
      go_wp2
      go_roundw
      case rel => exact ⟨k + 1, _, by omega, by go_num, rfl⟩
      case measure => simp [intOf]; omega
    · go_wp2
      go_ret
      exact ⟨rfl, below_drawn (Below.refl _ _) _⟩
end Go.Proofs.Ytcapioiigfldoaa
