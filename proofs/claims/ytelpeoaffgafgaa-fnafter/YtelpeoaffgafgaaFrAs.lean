/- FrameAt of the model. -/
import Derived.Test.YtelpeoaffgafgaaRows
import Derived.Test.YtelpeoaffgafgaaFrAt
namespace Go.Proofs.Ytelpeoaffgafgaa
open Go.RowKit
set_option maxRecDepth 100000 in
theorem l1Min_any (a b : Int) (w : World) : Calls Try.prog 52 #[.int .i64 a, .int .i64 b] w fun e w' => e = .returned (.int .i64 (if a < b then a else b)) ∧ w = w' := by
  by_cases h : a < b
  · rw [if_pos h]
    go_enter Try.func52, Try.ntmps52
    go_wp2
    go_ret
    exact ⟨rfl, rfl⟩
  · rw [if_neg h]
    have h2 : decide (a < b) = false := by simpa using h
    go_enter Try.func52, Try.ntmps52
    go_wp2
    go_ret
    exact ⟨rfl, rfl⟩
set_option maxRecDepth 100000 in
theorem getNumS_no (A : Option Addr) (l : List Nat) (n c : Nat) (at_ : Int) (w : World) (hn : n = l.length) (hl : l.length ≤ 2097152) (hA : Bts w w.heap.size A l) (hb : AllB l)
    (hat : at_ ≤ 9223372036854775807) (hg : getN l at_ = none) :
    Calls Try.prog 53 #[.slice A n c, .int .i64 at_] w fun e w' => e = .returned (.tuple #[.int .i64 0, .int .i64 0, .bool false]) ∧ w = w' := by
  subst hn
  exact (getNum_spec A l c w.heap.size at_ w hl hA hb hat).mono fun e w' ⟨he, h⟩ => ⟨by rw [he, hg]; rfl, h⟩
set_option maxRecDepth 100000 in
theorem getNumS_yes (A : Option Addr) (l : List Nat) (n c : Nat) (at_ : Nat) (x : Int) (w : World) (hn : n = l.length) (hl : l.length ≤ 2097152) (hA : Bts w w.heap.size A l) (hb : AllB l)
    (hx : x = (at_ : Int)) (hat : at_ ≤ 9223372036854775807) {v k : Nat} (hg : getN l (at_ : Int) = some (v, k)) {z : Nat} (hz : z = at_ + k) :
    Calls Try.prog 53 #[.slice A n c, .int .i64 x] w fun e w' => e = .returned (.tuple #[.int .i64 (v : Int), .int .i64 (z : Int), .bool true]) ∧ w = w' := by
  subst hn hx hz
  exact (getNum_spec A l c w.heap.size at_ w hl hA hb (by omega)).mono fun e w' ⟨he, h⟩ => ⟨by rw [he, hg]; rfl, h⟩
set_option maxRecDepth 100000 in
theorem frameAt_spec_out (s : ByteArray) (at_ : Int) (w : World) (h : ¬ (0 ≤ at_ ∧ at_ ≤ s.size)) :
    Calls Try.prog 22 #[.string s, .int .i64 at_] w fun e w' => e = .returned (frV none at_.toNat) ∧ Below w.heap.size w w' := by
  go_enter Try.func22, Try.ntmps22
  go_wp2_with (go_at_call 48; refine (l1In_no _ _ _ _ h).mono ?_; rintro e w' ⟨rfl, rfl⟩)
  simp [bodyPost, results, Try.results22, go_sem]
  exact ⟨rfl, (Below.refl _ _).alloc (Nat.le_refl _) _⟩
/-- The window that the model looks at. -/
theorem window_of (s : ByteArray) (a m : Nat) (ha : a ≤ s.size) (hm : (m = s.size ∧ s.size < a + 80) ∨ (m = a + 80 ∧ a + 80 ≤ s.size)) : ∃ H, s.extract a m = H ∧ H.size ≤ 80 ∧ strN H = ((strN s).drop a).take 80 := by
  refine ⟨_, rfl, ?_, ?_⟩
  · rw [← strN_length, strN_extract, List.length_take]; omega
  · rw [strN_extract]
    rcases hm with ⟨rfl, _⟩ | ⟨rfl, h2⟩
    · rw [List.take_of_length_le (by rw [List.length_drop, strN_length]; omega), List.take_of_length_le (by rw [List.length_drop, strN_length]; omega)]
    · rw [show a + 80 - a = 80 by omega]
set_option maxRecDepth 100000 in
set_option maxHeartbeats 1600000 in
theorem frameAt_spec_in (s : ByteArray) (a : Nat) (w : World) (hs : s.size ≤ 2097152) (h : a ≤ s.size) :
    Calls Try.prog 22 #[.string s, .int .i64 a] w fun e w' => e = .returned (frV (fAt (strN s) a) a) ∧ Below w.heap.size w w' := by
  obtain ⟨m, hm⟩ : ∃ m, (m = s.size ∧ s.size < a + 80) ∨ (m = a + 80 ∧ a + 80 ≤ s.size) := by
    by_cases hm : s.size < a + 80
    · exact ⟨_, .inl ⟨rfl, hm⟩⟩
    · exact ⟨_, .inr ⟨rfl, by omega⟩⟩
  obtain ⟨H, hH, hHs, hHl⟩ := window_of s a m h hm
  have hmm : (if (s.size : Int) < (a : Int) + 80 then (s.size : Int) else (a : Int) + 80) = (m : Int) := by
    rcases hm with ⟨rfl, h2⟩ | ⟨rfl, h2⟩
    · rw [if_pos (by omega)]
    · rw [if_neg (by omega)]; omega
  have hm1 : a ≤ m := by omega
  have hm2 : m ≤ s.size := by omega
  have HF : Hid (fAt (strN s) a = specF (strN H)) := by
    show _ = _
    unfold fAt
    rw [if_pos (by rw [strN_length]; omega), Int.toNat_natCast, hHl]
  have hHn := strN_length H
  have hHa := strN_all H
  generalize hHH : strN H = L at *
  have HHH := Lib.hid hHH
  have HM := Lib.hid hmm
  clear hHl hHH hm hmm
  have hLl : L.length ≤ 2097152 := by omega
  obtain ⟨A1, c1, w1, hcv1, t1, hc1, b1⟩ := bytes_of (w.alloc (.cells #[.int .i64 0, .string ⟨#[]⟩, .int .i64 0] 38)) H
  rw [HHH.out] at t1
  have hLc : L.length ≤ c1 := by omega
  have bW : Below w.heap.size w w1 := ((Below.refl _ _).alloc (Nat.le_refl _) _).trans (b1.mono (by simp))
  obtain ⟨⟨q0, q1, q2⟩, z0, z1, z2⟩ := box3 w w1 _ _ _ _ b1
  have zero : Hid (fAt (strN s) a = none → Value.tuple #[.agg #[.int .i64 0, .string ⟨#[]⟩, .int .i64 0], .bool false] = frV (fAt (strN s) a) a) := by
    intro h; rw [h]; rfl
  rcases hg : getN L 0 with _ | ⟨n, k⟩
  · have C1 := Lib.hid (getNumS_no A1 L H.size c1 0 w1 hHn.symm hLl t1 hHa (by omega) hg)
    have HR := Lib.hid (zero.out (by rw [HF.out]; unfold specF; rw [hg]))
    have HB := Lib.hid bW
    clear hHn hg bW b1 t1
    go_enter Try.func22, Try.ntmps22
    go_wp2_with (first | (go_at_call 48; refine (l1In_yes _ _ _ _ (by omega)).mono ?_; rintro e w' ⟨rfl, rfl⟩) | (go_at_call 52; refine (l1Min_any _ _ _).mono ?_; rw [HM.out]; rintro e w' ⟨rfl, rfl⟩) | (go_at_call 53; refine C1.out.mono ?_; rintro e w2 ⟨rfl, rfl⟩))
    simp [bodyPost, results, Try.results22, go_sem, q0, q1, q2]
    exact ⟨HR.out, ((HB.out.setCell (by simp) _).setCell (by simp) _).setCell (by simp) _⟩
  · obtain ⟨_, hn, hk, hk5, hkl⟩ := getN_some hg
    simp only [Int.toNat_zero, Nat.zero_add] at hkl
    have C1 := Lib.hid (getNumS_yes A1 L H.size c1 0 0 w1 hHn.symm hLl t1 hHa rfl (by omega) hg (Nat.zero_add k).symm)
    by_cases hbad : L.length < k + n ∨ n < 5
    · have HR := Lib.hid (zero.out (by rw [HF.out]; unfold specF; rw [hg]; simp only; rw [if_pos hbad]))
      have HB := Lib.hid bW
      have hb2 : (H.size : Int) - k < n ∨ n < 5 := by omega
      clear hg bW b1 t1 hbad
      by_cases hb3 : (H.size : Int) - k < n
      · clear hb2
        go_enter Try.func22, Try.ntmps22
        go_wp2_with (first | (go_at_call 48; refine (l1In_yes _ _ _ _ (by omega)).mono ?_; rintro e w' ⟨rfl, rfl⟩) | (go_at_call 52; refine (l1Min_any _ _ _).mono ?_; rw [HM.out]; rintro e w' ⟨rfl, rfl⟩) | (go_at_call 53; refine C1.out.mono ?_; rintro e w2 ⟨rfl, rfl⟩))
        simp [bodyPost, results, Try.results22, go_sem, q0, q1, q2]
        exact ⟨HR.out, ((HB.out.setCell (by simp) _).setCell (by simp) _).setCell (by simp) _⟩
      · have hb4 : n < 5 := by omega
        clear hb2
        go_enter Try.func22, Try.ntmps22
        go_wp2_with (first | (go_at_call 48; refine (l1In_yes _ _ _ _ (by omega)).mono ?_; rintro e w' ⟨rfl, rfl⟩) | (go_at_call 52; refine (l1Min_any _ _ _).mono ?_; rw [HM.out]; rintro e w' ⟨rfl, rfl⟩) | (go_at_call 53; refine C1.out.mono ?_; rintro e w2 ⟨rfl, rfl⟩))
        simp [bodyPost, results, Try.results22, go_sem, q0, q1, q2]
        exact ⟨HR.out, ((HB.out.setCell (by simp) _).setCell (by simp) _).setCell (by simp) _⟩
    · have hn1 : n ≤ 80 := by omega
      have hn5 : 5 ≤ n := by omega
      have hnl : (n : Int) ≤ (H.size : Int) - k := by omega
      rcases hg2 : getN L ((k + 4 : Nat) : Int) with _ | ⟨seq, j⟩
      · have HR := Lib.hid (zero.out (by rw [HF.out]; unfold specF; rw [hg]; simp only; rw [if_neg hbad, hg2]))
        have C2 := Lib.hid (getNumS_no A1 L H.size c1 ((k + 4 : Nat) : Int) w1 hHn.symm hLl t1 hHa (by omega) hg2)
        have HB := Lib.hid bW
        have e4 : ((k + 4 : Nat) : Int) = (k : Int) + 4 := by omega
        rw [e4] at C2
        clear hg hg2 bW b1 t1 hbad e4
        go_enter Try.func22, Try.ntmps22
        go_wp2_with (first | (go_at_call 48; refine (l1In_yes _ _ _ _ (by omega)).mono ?_; rintro e w' ⟨rfl, rfl⟩) | (go_at_call 52; refine (l1Min_any _ _ _).mono ?_; rw [HM.out]; rintro e w' ⟨rfl, rfl⟩) | fail)
        refine C1.out.mono ?_
        rintro e w2 ⟨rfl, rfl⟩
        go_wp2_with fail
        refine C2.out.mono ?_
        rintro e w2 ⟨rfl, rfl⟩
        go_wp2
        simp [bodyPost, results, Try.results22, go_sem, q0, q1, q2]
        exact ⟨HR.out, ((HB.out.setCell (by simp) _).setCell (by simp) _).setCell (by simp) _⟩
      · obtain ⟨_, hsq, hj, hj5, hjl⟩ := getN_some hg2
        obtain ⟨f, hf⟩ : ∃ f : Nat, f = k + 4 + j := ⟨_, rfl⟩
        have C2 := Lib.hid (getNumS_yes A1 L H.size c1 (k + 4) ((k : Int) + 4) w1 hHn.symm hLl t1 hHa (by omega) (by omega) hg2 hf)
        have hfl : f ≤ L.length := by rw [hf]; rw [Int.toNat_natCast] at hjl; exact hjl
        by_cases hb5 : k + n < f
        · have HR := Lib.hid (zero.out (by rw [HF.out]; unfold specF; rw [hg]; simp only; rw [if_neg hbad, hg2]; simp only; rw [← hf, if_pos hb5]))
          have HB := Lib.hid bW
          clear hg hg2 bW b1 t1 hbad hf hjl
          go_enter Try.func22, Try.ntmps22
          go_wp2_with (first | (go_at_call 48; refine (l1In_yes _ _ _ _ (by omega)).mono ?_; rintro e w' ⟨rfl, rfl⟩) | (go_at_call 52; refine (l1Min_any _ _ _).mono ?_; rw [HM.out]; rintro e w' ⟨rfl, rfl⟩) | fail)
          refine C1.out.mono ?_
          rintro e w2 ⟨rfl, rfl⟩
          go_wp2_with fail
          refine C2.out.mono ?_
          rintro e w2 ⟨rfl, rfl⟩
          go_wp2
          simp [bodyPost, results, Try.results22, go_sem, q0, q1, q2]
          exact ⟨HR.out, ((HB.out.setCell (by simp) _).setCell (by simp) _).setCell (by simp) _⟩
        · obtain ⟨b, off, rfl, hbB, hcell⟩ : ∃ b off, A1 = some ⟨b, off, none⟩ ∧ b < w1.heap.size ∧ ∀ k, k < L.length → w1.cell? ⟨b, off + k, none⟩ = some (.int .u8 ((L.getD k 0 : Nat) : Int)) := by
            rcases t1 with rfl | h
            · simp at hkl; omega
            · exact h
          obtain ⟨z, hz⟩ : ∃ z : Nat, (k : Int) + n = z := ⟨k + n, by omega⟩
          have hzl : z ≤ L.length := by omega
          have hfz : f ≤ z := by omega
          have hzc : (z : Int) ≤ c1 := by omega
          have hba : AllB ((L.drop f).take (z - f)) := (hHa.drop _).take _
          have c3 := fun w => frameOf_spec (seq : Int) (strB ((L.drop f).take (z - f))) w (by rw [strB_size, List.length_take]; omega)
          rw [strN_strB _ hba] at c3
          have hcvz : ∀ w', Below w1.heap.size w1 w' → (convert 22 9 (.slice (some ⟨b, off, none⟩) z c1)).run Try.prog w' = .ok (.string (strB (L.take z))) w' := fun w' b' =>
            conv_bytes w' b off z c1 (L.take z) (by rw [List.length_take]; omega) (fun i hi => by
              rw [List.length_take] at hi
              rw [(b'.cell (by exact hbB)).trans (hcell i (by omega)), List.getD_eq_getElem?_getD, List.getD_eq_getElem?_getD, List.getElem?_take_of_lt (by omega)])
          have hiff : strB (fOf (seq : Int) ((L.drop f).take (z - f))) = strB (L.take z) ↔ fOf (seq : Int) ((L.drop f).take (z - f)) = L.take z := by
            constructor
            · intro he
              have := congrArg strN he
              rw [strN_strB _ (fOf_all _ hba), strN_strB _ (hHa.take z)] at this
              exact this
            · intro he; rw [he]
          have hem : strB ((L.drop f).take (z - f)) = ⟨#[]⟩ ↔ (L.drop f).take (z - f) = [] := by
            constructor
            · intro he
              have := congrArg strN he
              rw [strN_strB _ hba] at this
              exact this
            · intro he; rw [he]; rfl
          have HR1 : Hid (¬ (strB (fOf (seq : Int) ((L.drop f).take (z - f))) = strB (L.take z) ∧ ¬ strB ((L.drop f).take (z - f)) = ⟨#[]⟩) → Value.tuple #[.agg #[.int .i64 0, .string ⟨#[]⟩, .int .i64 0], .bool false] = frV (fAt (strN s) a) a) := by
            intro hne
            rw [hiff, hem] at hne
            refine zero.out ?_
            rw [HF.out]; unfold specF; rw [hg]; simp only; rw [if_neg hbad, hg2]; simp only
            rw [← hf, if_neg hb5, show k + n = z by omega, if_neg hne]
          have HR2 : Hid ((strB (fOf (seq : Int) ((L.drop f).take (z - f))) = strB (L.take z) ∧ ¬ strB ((L.drop f).take (z - f)) = ⟨#[]⟩) → ∀ x : Int, x = a + z → Value.tuple #[.agg #[.int .i64 (seq : Int), .string (strB ((L.drop f).take (z - f))), .int .i64 x], .bool true] = frV (fAt (strN s) a) a) := by
            intro hne x hx
            rw [hiff, hem] at hne
            rw [HF.out]; unfold specF; rw [hg]; simp only; rw [if_neg hbad, hg2]; simp only
            rw [← hf, if_neg hb5, show k + n = z by omega, if_pos hne, hx]; rfl
          have hpart : ∀ (hcf : ¬ c1 = f), (convert 22 9 (.slice (some ⟨b, off + f, none⟩) (z - f) (c1 - f))).run Try.prog w1 = .ok (.string (strB ((L.drop f).take (z - f)))) w1 := fun _ =>
            conv_part w1 b off L f (z - f) (c1 - f) (z - f) rfl (by omega) hcell
          have hpart0 : ∀ (hcf : c1 = f), (convert 22 9 (.slice (some ⟨b, off, none⟩) 0 0)).run Try.prog w1 = .ok (.string (strB ((L.drop f).take (z - f)))) w1 := fun hcf => by
            rw [show z - f = 0 by omega, List.take_zero]
            exact conv_bytes w1 b off 0 0 [] rfl (fun k hk => absurd hk (by simp))
          generalize strB (fOf (seq : Int) ((L.drop f).take (z - f))) = F at c3 HR1 HR2
          generalize strB ((L.drop f).take (z - f)) = BB at *
          generalize strB (L.take z) = T at *
          have hkz := hcvz w1.drew (below_drawn (Below.refl _ _) 1)
          have HCV := Lib.hid hcvz
          have C3 := Lib.hid c3
          have HB := Lib.hid bW
          clear c3 hcvz hba hiff hem hcell bW hg hg2 hbad hf hjl hb5 zero t1
          obtain ⟨d1, hd1⟩ : ∃ d : Bool, (!decide (F = T)) = d := ⟨_, rfl⟩
          obtain ⟨d2, hd2⟩ : ∃ d : Bool, decide (BB = ⟨#[]⟩) = d := ⟨_, rfl⟩
          have HD1 := Lib.hid hd1
          have HD2 := Lib.hid hd2
          clear hd1 hd2 q0 q1 q2 z0 z1 z2
          by_cases hcf : c1 = f
          · have hp := hpart0 hcf
            subst hcf
            have hzc2 : c1 = z := by omega
            subst hzc2
            clear hpart hpart0
            go_enter Try.func22, Try.ntmps22
            go_wp2_with (first | (go_at_call 48; refine (l1In_yes _ _ _ _ (by omega)).mono ?_; rintro e w' ⟨rfl, rfl⟩) | (go_at_call 52; refine (l1Min_any _ _ _).mono ?_; rw [HM.out]; rintro e w' ⟨rfl, rfl⟩) | fail)
            refine C1.out.mono ?_
            rintro e w2 ⟨rfl, rfl⟩
            go_wp2_with fail
            refine C2.out.mono ?_
            rintro e w2 ⟨rfl, rfl⟩
            go_wp2
            refine wp_region_held_drew (S := fun w' => (convert 22 9 (.slice (some ⟨b, off, none⟩) c1 c1)).run Try.prog w' = .ok (.string T) w') (by kernel_rfl) hkz (fun hHeld => ?_)
            refine held_take 0 75 (.int .i64 (seq : Int)) rfl rfl (by kernel_rfl) (by kernel_rfl) (by kernel_rfl) (fun _ _ _ h => h) rfl hHeld (fun w _ => rfl) ?_
            refine held_take 1 76 (.string BB) rfl rfl (by kernel_rfl) (by kernel_rfl) (by kernel_rfl) (fun _ _ _ h => h) rfl hHeld (fun w _ => rfl) ?_
            refine held_take 3 78 (.slice (some ⟨b, off, none⟩) H.size c1) rfl rfl (by kernel_rfl) (by kernel_rfl) (by kernel_rfl) (fun _ _ _ h => h) rfl hHeld (fun w _ => rfl) ?_
            simp only [Act.put, List.setIfInBounds_toArray, List.set_cons_zero, List.set_cons_succ]
            refine held_take 4 79 (.int .i64 (k : Int)) rfl rfl (by kernel_rfl) (by kernel_rfl) (by kernel_rfl) (fun _ _ _ h => h) rfl hHeld (fun w _ => rfl) ?_
            refine held_take 5 80 (.int .i64 (n : Int)) rfl rfl (by kernel_rfl) (by kernel_rfl) (by kernel_rfl) (fun _ _ _ h => h) rfl hHeld (fun w _ => rfl) ?_
            simp only [Act.put, List.setIfInBounds_toArray, List.set_cons_zero, List.set_cons_succ]
            refine held_take 6 81 (.int .i64 (c1 : Int)) rfl rfl (by kernel_rfl) (by kernel_rfl) (by kernel_rfl) (fun _ _ _ h => h) rfl hHeld (fun w _ => exec_addI k n c1 w hz (by omega) (by omega)) ?_
            simp only [Act.put, List.setIfInBounds_toArray, List.set_cons_zero, List.set_cons_succ]
            refine held_take 7 82 (.slice (some ⟨b, off, none⟩) c1 c1) rfl rfl (by kernel_rfl) (by kernel_rfl) (by kernel_rfl) (fun _ _ _ h => h) rfl hHeld (fun w _ => exec_toB b off H.size c1 c1 w (by omega)) ?_
            simp only [Act.put, List.setIfInBounds_toArray, List.set_cons_zero, List.set_cons_succ]
            refine held_take 8 83 (.string T) rfl rfl (by kernel_rfl) (by kernel_rfl) (by kernel_rfl) (fun _ _ _ h => h) rfl hHeld (fun w hS => exec_convert rfl hS) ?_
            simp only [Act.put, List.setIfInBounds_toArray, List.set_cons_zero, List.set_cons_succ]
            refine held_call 2 77 21 #[.int .i64 (seq : Int), .string BB] rfl rfl (by kernel_rfl) rfl (exec_call Try.func21 (by kernel_rfl) (by kernel_rfl) _) ?_
            refine (C3.out _).mono ?_
            rintro e w5 ⟨rfl, b5'⟩
            have b5 : Below w1.heap.size w1 w5 := (below_drawn (Below.refl w1.heap.size w1) 1).trans b5'
            have hS5 := HCV.out _ b5
            refine ⟨_, rfl, hS5, ?_⟩
            simp only [Act.put, List.setIfInBounds_toArray, List.set_cons_zero, List.set_cons_succ]
            clear hHeld hkz
            refine held_op 9 84 (.bool d1) rfl rfl (by kernel_rfl) rfl (by rw [← HD1.out]; exact exec_neqS F T w5) hS5 ?_
            simp only [Act.put, List.setIfInBounds_toArray, List.set_cons_zero, List.set_cons_succ]
            refine held_op 10 85 (.bool d1) rfl rfl (by kernel_rfl) rfl rfl hS5 ?_
            simp only [Act.put, List.setIfInBounds_toArray, List.set_cons_zero, List.set_cons_succ]
            obtain ⟨⟨q0, q1, q2⟩, z0, z1, z2⟩ := box3 w w5 _ _ _ _ (b1.trans (b5.mono b1.size))
            have bF : Hid (Below w.heap.size w w5) := HB.out.trans (b5.mono HB.out.size)
            clear b1 b5 b5'
            cases d1 with
            | true =>
              have HX := Lib.hid (HR1.out (by have := HD1.out; simp at this; simp [this]))
              refine held_skip 11 86 rfl rfl (by kernel_rfl) (by kernel_rfl) (by kernel_rfl) (fun _ _ _ h => h) rfl hS5 ?_
              refine held_skip 12 87 rfl rfl (by kernel_rfl) (by kernel_rfl) (by kernel_rfl) (fun _ _ _ h => h) rfl hS5 ?_
              simp only [Act.put, List.setIfInBounds_toArray, List.set_cons_zero, List.set_cons_succ]
              refine held_op 13 88 (.bool true) rfl rfl (by kernel_rfl) rfl rfl hS5 ?_
              simp only [Act.put, List.setIfInBounds_toArray, List.set_cons_zero, List.set_cons_succ]
              refine wpAnyH_done (by kernel_rfl) ?_ _
              clear hS5 hp
              go_wp2
              simp [bodyPost, results, Try.results22, go_sem, q0, q1, q2]
              exact ⟨HX.out, ((bF.out.setCell (by simp) _).setCell (by simp) _).setCell (by simp) _⟩
            | false =>
              refine held_op 11 86 (.string BB) rfl rfl (by kernel_rfl) rfl rfl hS5 ?_
              simp only [Act.put, List.setIfInBounds_toArray, List.set_cons_zero, List.set_cons_succ]
              refine held_op 12 87 (.bool d2) rfl rfl (by kernel_rfl) rfl (by rw [← HD2.out]; exact exec_eqS BB ⟨#[]⟩ w5) hS5 ?_
              simp only [Act.put, List.setIfInBounds_toArray, List.set_cons_zero, List.set_cons_succ]
              refine held_op 13 88 (.bool d2) rfl rfl (by kernel_rfl) rfl rfl hS5 ?_
              simp only [Act.put, List.setIfInBounds_toArray, List.set_cons_zero, List.set_cons_succ]
              refine wpAnyH_done (by kernel_rfl) ?_ _
              clear hS5 hp
              cases d2 with
              | true =>
                have HX := Lib.hid (HR1.out (by have := HD2.out; simp at this; simp [this]))
                go_wp2
                simp [bodyPost, results, Try.results22, go_sem, q0, q1, q2]
                exact ⟨HX.out, ((bF.out.setCell (by simp) _).setCell (by simp) _).setCell (by simp) _⟩
              | false =>
                have HX := Lib.hid (HR2.out (by have h1 := HD1.out; have h2 := HD2.out; simp at h1 h2; exact ⟨h1, h2⟩))
                go_wp2
                simp [bodyPost, results, Try.results22, go_sem, q0, q1, q2]
                exact ⟨HX.out _ (by omega), ((bF.out.setCell (by simp) _).setCell (by simp) _).setCell (by simp) _⟩
          · have hp := hpart hcf
            clear hpart hpart0
            go_enter Try.func22, Try.ntmps22
            go_wp2_with (first | (go_at_call 48; refine (l1In_yes _ _ _ _ (by omega)).mono ?_; rintro e w' ⟨rfl, rfl⟩) | (go_at_call 52; refine (l1Min_any _ _ _).mono ?_; rw [HM.out]; rintro e w' ⟨rfl, rfl⟩) | fail)
            refine C1.out.mono ?_
            rintro e w2 ⟨rfl, rfl⟩
            go_wp2_with fail
            refine C2.out.mono ?_
            rintro e w2 ⟨rfl, rfl⟩
            go_wp2
            refine wp_region_held_drew (S := fun w' => (convert 22 9 (.slice (some ⟨b, off, none⟩) z c1)).run Try.prog w' = .ok (.string T) w') (by kernel_rfl) hkz (fun hHeld => ?_)
            refine held_take 0 75 (.int .i64 (seq : Int)) rfl rfl (by kernel_rfl) (by kernel_rfl) (by kernel_rfl) (fun _ _ _ h => h) rfl hHeld (fun w _ => rfl) ?_
            refine held_take 1 76 (.string BB) rfl rfl (by kernel_rfl) (by kernel_rfl) (by kernel_rfl) (fun _ _ _ h => h) rfl hHeld (fun w _ => rfl) ?_
            refine held_take 3 78 (.slice (some ⟨b, off, none⟩) H.size c1) rfl rfl (by kernel_rfl) (by kernel_rfl) (by kernel_rfl) (fun _ _ _ h => h) rfl hHeld (fun w _ => rfl) ?_
            simp only [Act.put, List.setIfInBounds_toArray, List.set_cons_zero, List.set_cons_succ]
            refine held_take 4 79 (.int .i64 (k : Int)) rfl rfl (by kernel_rfl) (by kernel_rfl) (by kernel_rfl) (fun _ _ _ h => h) rfl hHeld (fun w _ => rfl) ?_
            refine held_take 5 80 (.int .i64 (n : Int)) rfl rfl (by kernel_rfl) (by kernel_rfl) (by kernel_rfl) (fun _ _ _ h => h) rfl hHeld (fun w _ => rfl) ?_
            simp only [Act.put, List.setIfInBounds_toArray, List.set_cons_zero, List.set_cons_succ]
            refine held_take 6 81 (.int .i64 (z : Int)) rfl rfl (by kernel_rfl) (by kernel_rfl) (by kernel_rfl) (fun _ _ _ h => h) rfl hHeld (fun w _ => exec_addI k n z w hz (by omega) (by omega)) ?_
            simp only [Act.put, List.setIfInBounds_toArray, List.set_cons_zero, List.set_cons_succ]
            refine held_take 7 82 (.slice (some ⟨b, off, none⟩) z c1) rfl rfl (by kernel_rfl) (by kernel_rfl) (by kernel_rfl) (fun _ _ _ h => h) rfl hHeld (fun w _ => exec_toB b off H.size c1 z w (by omega)) ?_
            simp only [Act.put, List.setIfInBounds_toArray, List.set_cons_zero, List.set_cons_succ]
            refine held_take 8 83 (.string T) rfl rfl (by kernel_rfl) (by kernel_rfl) (by kernel_rfl) (fun _ _ _ h => h) rfl hHeld (fun w hS => exec_convert rfl hS) ?_
            simp only [Act.put, List.setIfInBounds_toArray, List.set_cons_zero, List.set_cons_succ]
            refine held_call 2 77 21 #[.int .i64 (seq : Int), .string BB] rfl rfl (by kernel_rfl) rfl (exec_call Try.func21 (by kernel_rfl) (by kernel_rfl) _) ?_
            refine (C3.out _).mono ?_
            rintro e w5 ⟨rfl, b5'⟩
            have b5 : Below w1.heap.size w1 w5 := (below_drawn (Below.refl w1.heap.size w1) 1).trans b5'
            have hS5 := HCV.out _ b5
            refine ⟨_, rfl, hS5, ?_⟩
            simp only [Act.put, List.setIfInBounds_toArray, List.set_cons_zero, List.set_cons_succ]
            clear hHeld hkz
            refine held_op 9 84 (.bool d1) rfl rfl (by kernel_rfl) rfl (by rw [← HD1.out]; exact exec_neqS F T w5) hS5 ?_
            simp only [Act.put, List.setIfInBounds_toArray, List.set_cons_zero, List.set_cons_succ]
            refine held_op 10 85 (.bool d1) rfl rfl (by kernel_rfl) rfl rfl hS5 ?_
            simp only [Act.put, List.setIfInBounds_toArray, List.set_cons_zero, List.set_cons_succ]
            obtain ⟨⟨q0, q1, q2⟩, z0, z1, z2⟩ := box3 w w5 _ _ _ _ (b1.trans (b5.mono b1.size))
            have bF : Hid (Below w.heap.size w w5) := HB.out.trans (b5.mono HB.out.size)
            clear b1 b5 b5'
            cases d1 with
            | true =>
              have HX := Lib.hid (HR1.out (by have := HD1.out; simp at this; simp [this]))
              refine held_skip 11 86 rfl rfl (by kernel_rfl) (by kernel_rfl) (by kernel_rfl) (fun _ _ _ h => h) rfl hS5 ?_
              refine held_skip 12 87 rfl rfl (by kernel_rfl) (by kernel_rfl) (by kernel_rfl) (fun _ _ _ h => h) rfl hS5 ?_
              simp only [Act.put, List.setIfInBounds_toArray, List.set_cons_zero, List.set_cons_succ]
              refine held_op 13 88 (.bool true) rfl rfl (by kernel_rfl) rfl rfl hS5 ?_
              simp only [Act.put, List.setIfInBounds_toArray, List.set_cons_zero, List.set_cons_succ]
              refine wpAnyH_done (by kernel_rfl) ?_ _
              clear hS5 hp
              go_wp2
              simp [bodyPost, results, Try.results22, go_sem, q0, q1, q2]
              exact ⟨HX.out, ((bF.out.setCell (by simp) _).setCell (by simp) _).setCell (by simp) _⟩
            | false =>
              refine held_op 11 86 (.string BB) rfl rfl (by kernel_rfl) rfl rfl hS5 ?_
              simp only [Act.put, List.setIfInBounds_toArray, List.set_cons_zero, List.set_cons_succ]
              refine held_op 12 87 (.bool d2) rfl rfl (by kernel_rfl) rfl (by rw [← HD2.out]; exact exec_eqS BB ⟨#[]⟩ w5) hS5 ?_
              simp only [Act.put, List.setIfInBounds_toArray, List.set_cons_zero, List.set_cons_succ]
              refine held_op 13 88 (.bool d2) rfl rfl (by kernel_rfl) rfl rfl hS5 ?_
              simp only [Act.put, List.setIfInBounds_toArray, List.set_cons_zero, List.set_cons_succ]
              refine wpAnyH_done (by kernel_rfl) ?_ _
              clear hS5 hp
              cases d2 with
              | true =>
                have HX := Lib.hid (HR1.out (by have := HD2.out; simp at this; simp [this]))
                go_wp2
                simp [bodyPost, results, Try.results22, go_sem, q0, q1, q2]
                exact ⟨HX.out, ((bF.out.setCell (by simp) _).setCell (by simp) _).setCell (by simp) _⟩
              | false =>
                have HX := Lib.hid (HR2.out (by have h1 := HD1.out; have h2 := HD2.out; simp at h1 h2; exact ⟨h1, h2⟩))
                go_wp2
                simp [bodyPost, results, Try.results22, go_sem, q0, q1, q2]
                exact ⟨HX.out _ (by omega), ((bF.out.setCell (by simp) _).setCell (by simp) _).setCell (by simp) _⟩
set_option maxRecDepth 100000 in
theorem frameAt_spec (s : ByteArray) (at_ : Int) (w : World) (hs : s.size ≤ 2097152) :
    Calls Try.prog 22 #[.string s, .int .i64 at_] w fun e w' => e = .returned (frV (fAt (strN s) at_) at_.toNat) ∧ Below w.heap.size w w' := by
  by_cases h : 0 ≤ at_ ∧ at_ ≤ s.size
  · obtain ⟨a, rfl⟩ := Int.eq_ofNat_of_zero_le h.1
    rw [Int.toNat_natCast]
    exact frameAt_spec_in s a w hs (by omega)
  · have e : fAt (strN s) at_ = none := by unfold fAt; rw [if_neg (by rw [strN_length]; exact h)]
    rw [e]
    exact frameAt_spec_out s at_ w h
set_option maxRecDepth 100000 in
theorem frameAt_impl (s : ByteArray) (at_ : Int) (w : World) (hs : s.size ≤ 2097152) :
    Calls Try.prog 23 #[.string s, .int .i64 at_] w fun e w' => e = .returned (frV (fAt (strN s) at_) at_.toNat) ∧ Below w.heap.size w w' := by
  by_cases h : 0 ≤ at_ ∧ at_ < s.size
  · obtain ⟨a, rfl⟩ := Int.eq_ofNat_of_zero_le h.1
    rw [Int.toNat_natCast]
    exact frameAt_impl_in s a w hs (by omega)
  · have e : fAt (strN s) at_ = none := by
      unfold fAt
      split
      · rename_i h2
        rw [strN_length] at h2
        rw [List.drop_of_length_le (by rw [strN_length]; omega)]
        rfl
      · rfl
    rw [e]
    exact frameAt_impl_out s at_ w h
end Go.Proofs.Ytelpeoaffgafgaa
