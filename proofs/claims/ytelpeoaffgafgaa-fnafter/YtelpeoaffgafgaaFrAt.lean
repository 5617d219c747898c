/- FrameAt of the program. -/
import Derived.Test.YtelpeoaffgafgaaRows
import Derived.Test.YtelpeoaffgafgaaFrM
namespace Go.Proofs.Ytelpeoaffgafgaa
open Go.RowKit
/-- What FrameAt returns. -/
def frV (o : Option (Nat × List Nat × Nat)) (at_ : Nat) : Value :=
  match o with
  | some (seq, b, sz) => .tuple #[.agg #[.int .i64 (seq : Int), .string (strB b), .int .i64 ((at_ + sz : Nat) : Int)], .bool true]
  | none => .tuple #[.agg #[.int .i64 0, .string ⟨#[]⟩, .int .i64 0], .bool false]
set_option maxRecDepth 100000 in
set_option maxHeartbeats 400000 in
theorem frameAt_impl_out (s : ByteArray) (at_ : Int) (w : World) (h : ¬ (0 ≤ at_ ∧ at_ < s.size)) :
    Calls Try.prog 23 #[.string s, .int .i64 at_] w fun e w' => e = .returned (frV none at_.toNat) ∧ Below w.heap.size w w' := by
  by_cases h0 : at_ < 0
  · go_enter Try.func23, Try.ntmps23
    go_wp2
    simp [bodyPost, results, Try.results23, go_sem]
    exact ⟨rfl, (Below.refl _ _).alloc (Nat.le_refl _) _⟩
  · have h1 : (s.size : Int) ≤ at_ := by omega
    go_enter Try.func23, Try.ntmps23
    go_wp2
    simp [bodyPost, results, Try.results23, go_sem]
    exact ⟨rfl, (Below.refl _ _).alloc (Nat.le_refl _) _⟩
set_option maxRecDepth 100000 in
theorem getText_no (A : Option Addr) (l : List Nat) (n c : Nat) (at_ : Int) (w : World) (hn : n = l.length) (hl : l.length ≤ 2097152) (hc : l.length ≤ c) (hA : Bts w w.heap.size A l) (hb : AllB l)
    (hat : at_ ≤ 9223372036854775807) (hg : getT l at_ = none) :
    Calls Try.prog 54 #[.slice A n c, .int .i64 at_] w fun e w' => e = .returned (.tuple #[.string ⟨#[]⟩, .int .i64 0, .bool false]) ∧ Below w.heap.size w w' := by
  subst hn
  exact (getText_impl A l c at_ w hl hc hA hb hat).mono fun e w' ⟨he, h⟩ => ⟨by rw [he, hg]; rfl, h⟩
set_option maxRecDepth 100000 in
theorem getNum_no (A : Option Addr) (l : List Nat) (n c : Nat) (at_ : Int) (w : World) (hn : n = l.length) (hl : l.length ≤ 2097152) (hc : l.length ≤ c) (hA : Bts w w.heap.size A l) (hb : AllB l)
    (hat : at_ ≤ 9223372036854775807) (hg : getN l at_ = none) :
    Calls Try.prog 55 #[.slice A n c, .int .i64 at_] w fun e w' => e = .returned (.tuple #[.int .i64 0, .int .i64 0, .bool false]) ∧ Below w.heap.size w w' := by
  subst hn
  exact (getNum_impl A l c at_ w hl hc hA hb hat).mono fun e w' ⟨he, h⟩ => ⟨by rw [he, hg]; rfl, h⟩
/-- The head that FrameAt looks at. -/
theorem head_of (s : ByteArray) (a m : Nat) (hm : (m = 68 ∧ 68 ≤ s.size - a) ∨ (m = s.size - a ∧ m < 68)) : ∃ H, s.extract a (a + m) = H ∧ H.size ≤ 68 ∧ strN H = ((strN s).drop a).take 68 := by
  refine ⟨_, rfl, ?_, ?_⟩
  · rw [← strN_length, strN_extract, List.length_take]; omega
  · rw [strN_extract, show a + m - a = m by omega]
    rcases hm with ⟨rfl, _⟩ | ⟨hm, h2⟩
    · rfl
    · rw [List.take_of_length_le (by rw [List.length_drop, strN_length]; omega), List.take_of_length_le (by rw [List.length_drop, strN_length]; omega)]
theorem frameOf_all (seq : Nat) {b : List Nat} (h : AllB b) : AllB (frameOf seq b) := by
  unfold frameOf
  have h1 := AllB.append (encI_all (seq : Int)) h
  exact AllB.append (encI_all _) (AllB.append (four_all _ (M.crc_lt _ h1)) h1)
theorem fOf_all (seq : Int) {b : List Nat} (h : AllB b) : AllB (fOf seq b) := by
  unfold fOf
  split
  · exact frameOf_all _ h
  · intro x hx; cases hx
theorem box3 (w w2 : World) (v0 v1 v2 : Value) (t : TypeId) (b : Below (w.alloc (.cells #[v0, v1, v2] t)).heap.size (w.alloc (.cells #[v0, v1, v2] t)) w2) :
    (w2.cell? ⟨w.heap.size, 0, none⟩ = some v0 ∧ w2.cell? ⟨w.heap.size, 1, none⟩ = some v1 ∧ w2.cell? ⟨w.heap.size, 2, none⟩ = some v2) ∧ w2.frozen? ⟨w.heap.size, 0, none⟩ = false ∧ w2.frozen? ⟨w.heap.size, 1, none⟩ = false ∧ w2.frozen? ⟨w.heap.size, 2, none⟩ = false :=
  ⟨⟨(b.cell (by simp)).trans (by simp [go_sem]), (b.cell (by simp)).trans (by simp [go_sem]), (b.cell (by simp)).trans (by simp [go_sem])⟩, (b.frozen (by simp)).trans (by simp [go_sem]), (b.frozen (by simp)).trans (by simp [go_sem]), (b.frozen (by simp)).trans (by simp [go_sem])⟩
set_option maxRecDepth 100000 in
set_option maxHeartbeats 800000 in
theorem frameAt_impl_in (s : ByteArray) (a : Nat) (w : World) (hs : s.size ≤ 2097152) (h : a < s.size) :
    Calls Try.prog 23 #[.string s, .int .i64 a] w fun e w' => e = .returned (frV (fAt (strN s) a) a) ∧ Below w.heap.size w w' := by
  obtain ⟨m, hm⟩ : ∃ m, (m = 68 ∧ 68 ≤ s.size - a) ∨ (m = s.size - a ∧ m < 68) := by
    by_cases hm : 68 ≤ s.size - a
    · exact ⟨68, .inl ⟨rfl, hm⟩⟩
    · exact ⟨s.size - a, .inr ⟨rfl, by omega⟩⟩
  obtain ⟨H, hH, hHs, hHl⟩ := head_of s a m hm
  have HF : Hid (fAt (strN s) a = implF (strN H)) := by
    show _ = _
    unfold fAt
    rw [if_pos (by rw [strN_length]; omega), Int.toNat_natCast, ← implF_eq, hHl]
  have hHn := strN_length H
  have hHa := strN_all H
  generalize hHH : strN H = L at *
  have HHH := Lib.hid hHH
  clear hHl hHH
  have hLl : L.length ≤ 2097152 := by omega
  obtain ⟨A1, c1, w1, hcv1, t1, hc1, b1⟩ := bytes_of (w.alloc (.cells #[.int .i64 0, .string ⟨#[]⟩, .int .i64 0] 38)) H
  rw [HHH.out] at t1
  have hLc : L.length ≤ c1 := by omega
  have bW : Below w.heap.size w w1 := ((Below.refl _ _).alloc (Nat.le_refl _) _).trans (b1.mono (by simp))
  rcases hg : getT L 0 with _ | ⟨r, y⟩
  · have C1 := Lib.hid (getText_no A1 L H.size c1 0 w1 hHn.symm hLl hLc t1 hHa (by omega) hg)
    have HR : Hid (Value.tuple #[.agg #[.int .i64 0, .string ⟨#[]⟩, .int .i64 0], .bool false] = frV (fAt (strN s) a) a) := by
      show _ = _
      rw [HF.out]; unfold implF; rw [hg]; rfl
    clear hHn hg
    rcases hm with ⟨rfl, hm⟩ | ⟨rfl, hm⟩
    all_goals
      go_enter Try.func23, Try.ntmps23
      go_wp2_with fail
      refine C1.out.mono ?_
      rintro e w2 ⟨rfl, b2⟩
      obtain ⟨⟨q0, q1, q2⟩, z0, z1, z2⟩ := box3 w w2 _ _ _ _ (b1.trans (b2.mono b1.size))
      have bF : Hid (Below w.heap.size w w2) := bW.trans (b2.mono bW.size)
      clear hcv1 b1 b2 bW t1
      go_wp2
      simp [bodyPost, results, Try.results23, go_sem, q0, q1, q2]
      exact ⟨HR.out, ((bF.out.setCell (by simp) _).setCell (by simp) _).setCell (by simp) _⟩
  · obtain ⟨n, k, hg1, hr, hy, hyl⟩ := getT_some hg
    have hra : AllB r := by rw [hr]; exact (hHa.drop _).take _
    have hrl : r.length ≤ L.length := by rw [hr, List.length_take, List.length_drop]; omega
    have c1' := getText_impl_n A1 L H.size c1 0 w1 hHn.symm hLl hLc t1 hHa (by omega) hg
    obtain ⟨R, hR⟩ : ∃ R, strB r = R := ⟨_, rfl⟩
    rw [hR] at c1'
    have hRn : strN R = r := by rw [← hR, strN_strB r hra]
    have hRs : R.size = r.length := by rw [← hRn, strN_length]
    have hRl : R.size ≤ 68 := by omega
    have hyH : y ≤ H.size := by omega
    have C1 := Lib.hid c1'
    clear c1'
    rcases hg2 : getN r 4 with _ | ⟨seq, j⟩
    · have HR : Hid (Value.tuple #[.agg #[.int .i64 0, .string ⟨#[]⟩, .int .i64 0], .bool false] = frV (fAt (strN s) a) a) := by
        show _ = _
        rw [HF.out]; unfold implF; rw [hg]; simp only; rw [hg2]; rfl
      have C2 := Lib.hid (fun A c w hc hA => getNum_no A r R.size c 4 w hRs (by omega) hc hA hra (by omega) hg2)
      have HRn := Lib.hid hRn
      have HRs := Lib.hid hRs
      clear hHn hg hg2 hg1 hr hy hRn hRs hR
      rcases hm with ⟨rfl, hm⟩ | ⟨rfl, hm⟩
      all_goals
        go_enter Try.func23, Try.ntmps23
        go_wp2_with fail
        refine C1.out.mono ?_
        rintro e w2 ⟨rfl, b2⟩
        obtain ⟨A3, c3, w3, hcv3, t3, hc3, b3⟩ := bytes_of w2 R
        rw [HRn.out] at t3
        go_wp2_with fail
        refine (C2.out A3 c3 w3 (by rw [← HRs.out]; exact hc3) t3).mono ?_
        rintro e w4 ⟨rfl, b4⟩
        have b24 : Below w1.heap.size w1 w4 := b2.trans ((b3.trans (b4.mono b3.size)).mono b2.size)
        obtain ⟨⟨q0, q1, q2⟩, z0, z1, z2⟩ := box3 w w4 _ _ _ _ (b1.trans (b24.mono b1.size))
        have bF : Hid (Below w.heap.size w w4) := bW.trans (b24.mono bW.size)
        clear hcv1 b1 b2 bW t1 hcv3 t3 b3 b4 b24
        go_wp2
        go_quiet (fail)
        go_wp2
        simp [bodyPost, results, Try.results23, go_sem, q0, q1, q2]
        exact ⟨HR.out, below_drawn (((bF.out.setCell (by simp) _).setCell (by simp) _).setCell (by simp) _) _⟩
    · obtain ⟨_, hsq, hj, hj5, hjr⟩ := getN_some hg2
      obtain ⟨f, hf⟩ : ∃ f : Nat, f = 4 + j := ⟨_, rfl⟩
      have hfl : f ≤ r.length := by rw [hf]; exact hjr
      have hfR : f ≤ R.size := by omega
      have C2 : Hid (∀ A c w, r.length ≤ c → Bts w w.heap.size A r → Calls Try.prog 55 #[.slice A R.size c, .int .i64 4] w fun e w' => e = .returned (.tuple #[.int .i64 (seq : Int), .int .i64 (f : Int), .bool true]) ∧ Below w.heap.size w w') :=
        fun A c w hc hA => (getNum_impl_n A r R.size c 4 w hRs (by omega) hc hA hra (by omega) hg2).mono fun e w' ⟨he, h⟩ => ⟨by rw [he, hf]; rfl, h⟩
      have hB : R.extract f R.size = strB (r.drop f) := by
        rw [← hR, strB_extract r hra, strB_size, List.take_of_length_le (by simp)]
      have hBn : strN (R.extract f R.size) = r.drop f := by rw [hB, strN_strB _ (hra.drop f)]
      have c3 := fun w => frameOf_impl (seq : Int) (R.extract f R.size) w (by rw [← strN_length, hBn, List.length_drop]; omega)
      rw [hBn] at c3
      have hTy : H.extract 0 y = strB (L.take y) := by
        rw [← strB_strN (H.extract 0 y), strN_extract, HHH.out, List.drop_zero, Nat.sub_zero]
      have hiff : strB (fOf (seq : Int) (r.drop f)) = H.extract 0 y ↔ fOf (seq : Int) (r.drop f) = L.take y := by
        rw [hTy]
        constructor
        · intro he
          have := congrArg strN he
          rw [strN_strB _ (fOf_all _ (hra.drop f)), strN_strB _ (hHa.take y)] at this
          exact this
        · intro he; rw [he]
      have HR1 : Hid (¬ strB (fOf (seq : Int) (r.drop f)) = H.extract 0 y → Value.tuple #[.agg #[.int .i64 0, .string ⟨#[]⟩, .int .i64 0], .bool false] = frV (fAt (strN s) a) a) := by
        intro hne
        rw [HF.out]; unfold implF; rw [hg]; simp only; rw [hg2]; simp only
        rw [if_neg (by rw [← hf]; exact fun e => hne (hiff.2 e))]; rfl
      have HR2 : Hid (strB (fOf (seq : Int) (r.drop f)) = H.extract 0 y → ∀ z : Int, z = a + y → Value.tuple #[.agg #[.int .i64 (seq : Int), .string (R.extract f R.size), .int .i64 z], .bool true] = frV (fAt (strN s) a) a) := by
        intro he z hz
        rw [HF.out]; unfold implF; rw [hg]; simp only; rw [hg2]; simp only
        rw [if_pos (by rw [← hf]; exact hiff.1 he), hB, hz, ← hf]; rfl
      obtain ⟨BB, hBB⟩ : ∃ BB, R.extract f R.size = BB := ⟨_, rfl⟩
      obtain ⟨T, hT⟩ : ∃ T, H.extract 0 y = T := ⟨_, rfl⟩
      rw [hBB] at c3 HR2
      rw [hT] at HR1 HR2
      generalize strB (fOf (seq : Int) (r.drop f)) = F at c3 HR1 HR2
      obtain ⟨d, hd⟩ : ∃ d : Bool, (!decide (F = T)) = d := ⟨_, rfl⟩
      have HD := Lib.hid hd
      clear hd
      have C3 := Lib.hid c3
      have HRn := Lib.hid hRn
      have HRs := Lib.hid hRs
      have HY : Hid (H.extract 0 y = T) := hT
      have HBB := Lib.hid hBB
      clear hHn hg hg2 hg1 hr hy hRn hRs hR hf hiff hTy hB hBn c3 hT
      rcases hm with ⟨rfl, hm⟩ | ⟨rfl, hm⟩
      all_goals
        go_enter Try.func23, Try.ntmps23
        go_wp2_with fail
        refine C1.out.mono ?_
        rintro e w2 ⟨rfl, b2⟩
        obtain ⟨A3, c3, w3, hcv3, t3, hc3, b3⟩ := bytes_of w2 R
        rw [HRn.out] at t3
        go_wp2_with fail
        refine (C2.out A3 c3 w3 (by rw [← HRs.out]; exact hc3) t3).mono ?_
        rintro e w4 ⟨rfl, b4⟩
        have b24 : Below w1.heap.size w1 w4 := b2.trans ((b3.trans (b4.mono b3.size)).mono b2.size)
        clear hcv1 b2 t1 hcv3 t3 b3 b4
        go_wp2
        refine wp_region_held_drew (S := fun _ => True) (by kernel_rfl) trivial (fun hHeld => ?_)
        refine held_take 0 48 (.bool true) rfl rfl (by kernel_rfl) (by kernel_rfl) (by kernel_rfl) (fun _ _ _ h => h) rfl hHeld (fun w _ => rfl) ?_
        refine held_take 1 49 (.bool false) rfl rfl (by kernel_rfl) (by kernel_rfl) (by kernel_rfl) (fun _ _ _ h => h) rfl hHeld (fun w _ => rfl) ?_
        refine held_take 2 50 (.bool false) rfl rfl (by kernel_rfl) (by kernel_rfl) (by kernel_rfl) (fun _ _ _ h => h) rfl hHeld (fun w _ => rfl) ?_
        simp only [Act.put, List.setIfInBounds_toArray, List.set_cons_zero, List.set_cons_succ]
        refine held_take 3 51 (.int .i64 (seq : Int)) rfl rfl (by kernel_rfl) (by kernel_rfl) (by kernel_rfl) (fun _ _ _ h => h) rfl hHeld (fun w _ => rfl) ?_
        refine held_take 4 52 (.string R) rfl rfl (by kernel_rfl) (by kernel_rfl) (by kernel_rfl) (fun _ _ _ h => h) rfl hHeld (fun w _ => rfl) ?_
        refine held_take 5 53 (.int .i64 (f : Int)) rfl rfl (by kernel_rfl) (by kernel_rfl) (by kernel_rfl) (fun _ _ _ h => h) rfl hHeld (fun w _ => rfl) ?_
        simp only [Act.put, List.setIfInBounds_toArray, List.set_cons_zero, List.set_cons_succ]
        refine held_take 6 54 (.string BB) rfl rfl (by kernel_rfl) (by kernel_rfl) (by kernel_rfl) (fun _ _ _ h => h) rfl hHeld (fun w _ => by rw [← HBB.out]; exact exec_fromS R f w hfR) ?_
        refine held_take 8 56 (.string H) rfl rfl (by kernel_rfl) (by kernel_rfl) (by kernel_rfl) (fun _ _ _ h => h) rfl hHeld (fun w _ => rfl) ?_
        refine held_take 9 57 (.int .i64 (y : Int)) rfl rfl (by kernel_rfl) (by kernel_rfl) (by kernel_rfl) (fun _ _ _ h => h) rfl hHeld (fun w _ => rfl) ?_
        simp only [Act.put, List.setIfInBounds_toArray, List.set_cons_zero, List.set_cons_succ]
        refine held_take 10 58 (.string T) rfl rfl (by kernel_rfl) (by kernel_rfl) (by kernel_rfl) (fun _ _ _ h => h) rfl hHeld (fun w _ => by rw [← HY.out]; exact exec_toS H y w hyH) ?_
        simp only [Act.put, List.setIfInBounds_toArray, List.set_cons_zero, List.set_cons_succ]
        refine held_call 7 55 14 #[.int .i64 (seq : Int), .string BB] rfl rfl (by kernel_rfl) rfl (exec_call Try.func14 (by kernel_rfl) (by kernel_rfl) _) ?_
        refine (C3.out _).mono ?_
        rintro e w5 ⟨rfl, b5⟩
        refine ⟨_, rfl, trivial, ?_⟩
        simp only [Act.put, List.setIfInBounds_toArray, List.set_cons_zero, List.set_cons_succ]
        refine held_op 11 59 (.bool d) rfl rfl (by kernel_rfl) rfl (by rw [← HD.out]; exact exec_neqS F T w5) trivial ?_
        simp only [Act.put, List.setIfInBounds_toArray, List.set_cons_zero, List.set_cons_succ]
        refine held_op 12 60 (.bool d) rfl rfl (by kernel_rfl) rfl rfl trivial ?_
        simp only [Act.put, List.setIfInBounds_toArray, List.set_cons_zero, List.set_cons_succ]
        refine wpAnyH_done (by kernel_rfl) ?_ _
        have b25 : Below w1.heap.size w1 w5 := (below_drawn b24 1).trans (b5.mono (by exact b24.size))
        obtain ⟨⟨q0, q1, q2⟩, z0, z1, z2⟩ := box3 w w5 _ _ _ _ (b1.trans (b25.mono b1.size))
        have bF : Hid (Below w.heap.size w w5) := bW.trans (b25.mono bW.size)
        clear b24 b25 b5 bW b1
        cases d with
        | false =>
          have HX := Lib.hid (HR2.out (by have := HD.out; simpa using this))
          go_wp2
          simp [bodyPost, results, Try.results23, go_sem, q0, q1, q2]
          exact ⟨HX.out _ rfl, ((bF.out.setCell (by simp) _).setCell (by simp) _).setCell (by simp) _⟩
        | true =>
          have HX := Lib.hid (HR1.out (by have := HD.out; simpa using this))
          go_wp2
          simp [bodyPost, results, Try.results23, go_sem, q0, q1, q2]
          exact ⟨HX.out, ((bF.out.setCell (by simp) _).setCell (by simp) _).setCell (by simp) _⟩
end Go.Proofs.Ytelpeoaffgafgaa
