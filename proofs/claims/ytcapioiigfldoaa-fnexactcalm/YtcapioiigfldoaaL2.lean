/- The draws over frames. -/
import Derived.Test.YtcapioiigfldoaaRows
import Derived.Test.YtcapioiigfldoaaDraw
import Derived.Deep.AppendLies
namespace Go.Proofs.Ytcapioiigfldoaa
open Go.RowKit
set_option linter.unusedSimpArgs false
set_option linter.unusedVariables false
def GotStr (w : World) (g : Nat) (A : Option Addr) (l : List Nat) (c n : Nat) (e : Ending) (w' : World) : Prop :=
  ∃ s : ByteArray, s.size ≤ n ∧ e = .returned (.string s) ∧ Cur w' g A l c ∧ w.grownBy w' (some g)
theorem GotStr.more {w : World} {g : Nat} {A : Option Addr} {l : List Nat} {c n m : Nat} {e : Ending} {w' : World} (h : GotStr w g A l c n e w') (hm : n ≤ m) : GotStr w g A l c m e w' := by
  obtain ⟨s, hs, r⟩ := h; exact ⟨s, by omega, r⟩
set_option maxRecDepth 100000 in
/-- string(b) behind the store of one byte. -/
theorem spoil_conv (w : World) (b : Nat) (L : List Nat) (at_ nv n c : Nat) (hn : L.length = n) (hc : ∀ k, k < L.length → w.cell? ⟨b, k, none⟩ = some (.int .u8 ((L.getD k 0 : Nat) : Int))) :
    (convert 22 9 (.slice (some ⟨b, 0, none⟩) n c)).run Try.prog (w.setCell ⟨b, at_, none⟩ (.int .u8 (nv : Int))) = .ok (.string (strB (L.set at_ nv))) (w.setCell ⟨b, at_, none⟩ (.int .u8 (nv : Int))) := by
  refine conv_bytes _ b 0 n c (L.set at_ nv) (by rw [List.length_set]; exact hn) (fun k hk => ?_)
  rw [Nat.zero_add]
  rw [List.length_set] at hk
  by_cases he : k = at_
  · subst he
    rw [World.cell?_setCell_same _ _ _ (hc k hk)]
    simp [hk]
  · rw [World.cell?_setCell_other _ _ _ _ (by intro e; injection e with _ e2 _; exact he e2.symm), hc k hk]
    simp [List.getD_eq_getElem?_getD, List.getElem?_set_ne (Ne.symm he)]
set_option maxRecDepth 100000 in
theorem exec_idxB0 {ρ : Operand → Value} {o : Oper} {x y : Operand} (b n c k : Nat) (w : World) (h : k < n) (ho : o.op = .indexAddr 22 x y := by rfl) (hx : ρ x = .slice (some ⟨b, 0, none⟩) n c := by rfl) (hy : ρ y = .int .i64 (k : Int) := by rfl) :
    (execOp ρ o).run Try.prog w = .ok (.value (.pointer (some ⟨b, k, none⟩))) w := by
  have := exec_idxB b 0 n c k w h ho hx hy
  rw [Nat.zero_add] at this
  exact this
theorem spoil_got {w w1 w2 w3 : World} {g b off : Nat} {A : Option Addr} {l : List Nat} {c n : Nat} {v : Value} {S : ByteArray} (hcw : Cur w g A l c) (h1 : Below w.heap.size w w1) (g12 : w1.grownBy w2 (some g)) (g23 : w2.grownBy w3 (some g)) (hc : Cur w3 g A l c) (hS : S.size ≤ n) (hb : b = w.heap.size := by rfl) :
    GotStr w g A l c n (.returned (.string S)) (w3.setCell ⟨b, off, none⟩ v) := by
  have hlt := hcw.lt
  have gs : w3.grownBy (w3.setCell ⟨b, off, none⟩ v) (some b) := ⟨rfl, rfl, rfl, by simp [World.setCell], fun k _ hk => by
    unfold World.setCell
    simp
    rw [Array.getElem?_modify]
    rw [if_neg (by intro e; exact hk (by rw [← e]))]⟩
  refine ⟨S, hS, rfl, hc.grown gs (fun k hk => by injection hk with hk; omega), ?_⟩
  exact grown_step (((grown_of_below h1 _).trans g12).trans g23) gs (fun k hk => by injection hk with hk; omega)
set_option maxRecDepth 100000 in
set_option maxHeartbeats 800000 in
theorem l1Spoil_any (A : Option Addr) (l : List Nat) (c g : Nat) (s : ByteArray) (w : World) (hl : l.length ≤ 2097152) (hb : AllB l) (hs : s.size ≤ 2097152) (hcw : Cur w g A l c) :
    Calls Try.prog 65 #[.pointer (some ⟨g, 0, none⟩), .string s] w (GotStr w g A l c (s.size + 2)) := by
  by_cases h0 : s.size = 0
  · have he : s = ⟨#[]⟩ := by
      apply ByteArray.ext
      exact Array.eq_empty_of_size_eq_zero h0
    subst he
    go_enter Try.func65, Try.ntmps65
    go_wp2_with fail
    refine (l1Bytes_any A l c g 2 _ hl hb (by omega) hcw).mono ?_
    rintro e w1 ⟨bs, B, cb, hbl, hba, rfl, o1, hc1, gr1⟩
    have hcv := OwnB.conv o1 (by omega)
    have R : Hid (GotStr w g A l c ((⟨#[]⟩ : ByteArray).size + 2) (.returned (.string (strB bs))) w1) := ⟨_, by rw [strB_size]; omega, rfl, hc1, gr1⟩
    clear o1 hc1 gr1
    go_wp2
    go_ret
    exact R.out
  · have hne : s.toList.isEmpty = false := by
      rw [Bool.eq_false_iff]
      intro h
      rw [List.isEmpty_iff, ByteArray.toList_eq] at h
      exact h0 (by have := congrArg List.length h; simpa using this)
    have hlt := hcw.lt
    obtain ⟨cb, w1, hcv, cell1, frz1, hcb, hsz1, hcv0⟩ := bytes_new w s
    have hLs : (strN s).length = s.size := strN_length s
    have hLa := strN_all s
    generalize strN s = L at *
    have hc1 := hcw.mem hcv0
    go_enter Try.func65, Try.ntmps65
    go_wp2_with fail
    refine (l1Below_any A l c g s.size _ hl hb (by omega) (by omega) hc1).mono ?_
    rintro e w2 ⟨at_, hat, rfl, hc2, gr12⟩
    have cell : ∀ k, k < L.length → w2.cell? ⟨w.heap.size, k, none⟩ = some (.int .u8 ((L.getD k 0 : Nat) : Int)) := fun k hk => gr12.cell (by have := cell1 k hk; rw [Nat.zero_add] at this; exact this) (by simp; omega)
    have c0 := cell at_ (by omega)
    have f0 : w2.frozen? ⟨w.heap.size, at_, none⟩ = false := by
      rw [gr12.frozen_far ⟨w.heap.size, at_, none⟩ (by simp; omega) (by simp; omega)]; exact frz1 at_ hat
    have hv := hLa.getD at_
    have gs12 := gr12.size
    generalize hve : L.getD at_ 0 = v at *
    clear hve hcv cell1 frz1
    go_wp2
    refine wp_region_held_drew (S := fun _ => True) (by kernel_rfl) trivial (fun hHeld => ?_)
    refine held_take 0 18 (.slice (some ⟨w.heap.size, 0, none⟩) s.size cb) rfl rfl (by kernel_rfl) (by kernel_rfl) (by kernel_rfl) (fun _ _ _ h => h) rfl hHeld (fun w _ => rfl) ?_
    refine held_take 1 19 (.int .i64 (at_ : Int)) rfl rfl (by kernel_rfl) (by kernel_rfl) (by kernel_rfl) (fun _ _ _ h => h) rfl hHeld (fun w _ => rfl) ?_
    refine held_take 2 20 (.slice (some ⟨w.heap.size, 0, none⟩) s.size cb) rfl rfl (by kernel_rfl) (by kernel_rfl) (by kernel_rfl) (fun _ _ _ h => h) rfl hHeld (fun w _ => rfl) ?_
    simp only [Act.put, List.setIfInBounds_toArray, List.set_cons_zero, List.set_cons_succ]
    refine held_take 3 21 (.int .i64 (at_ : Int)) rfl rfl (by kernel_rfl) (by kernel_rfl) (by kernel_rfl) (fun _ _ _ h => h) rfl hHeld (fun w _ => rfl) ?_
    refine held_take 4 22 (.pointer (some ⟨w.heap.size, at_, none⟩)) rfl rfl (by kernel_rfl) (by kernel_rfl) (by kernel_rfl) (fun _ _ _ h => h) rfl hHeld (fun w _ => exec_idxB0 _ s.size cb at_ w hat) ?_
    simp only [Act.put, List.setIfInBounds_toArray, List.set_cons_zero, List.set_cons_succ]
    refine held_take 6 24 (.pointer (some ⟨g, 0, none⟩)) rfl rfl (by kernel_rfl) (by kernel_rfl) (by kernel_rfl) (fun _ _ _ h => h) rfl hHeld (fun w _ => rfl) ?_
    simp only [Act.put, List.setIfInBounds_toArray, List.set_cons_zero, List.set_cons_succ]
    refine wpAnyH_ready (rs := [5, 7]) (by kernel_rfl) (by simp) (ready_op 5 23 (.int .u8 (v : Int)) rfl rfl rfl (exec_load1 5 _ _ _ _ (by simp) c0) trivial ?_ (ready_call 7 25 53 #[.pointer (some ⟨g, 0, none⟩), .int .i64 255] rfl rfl rfl (exec_call Try.func53 (by kernel_rfl) (by kernel_rfl) _) ?_ AllReadyH.nil))
    · simp only [Act.put, List.setIfInBounds_toArray, List.set_cons_zero, List.set_cons_succ]
      refine held_call 7 25 53 #[.pointer (some ⟨g, 0, none⟩), .int .i64 255] rfl rfl (by kernel_rfl) rfl (exec_call Try.func53 (by kernel_rfl) (by kernel_rfl) _) ?_
      refine (l1Below_any A l c g 255 w2.drew hl hb (by omega) (by omega) hc2).mono ?_
      rintro e w3 ⟨x, hx, rfl, hc3, gr3'⟩
      have gr3 : w2.grownBy w3 (some g) := (grown_of_below (below_drawn (Below.refl w2.heap.size w2) 1) _).trans gr3'
      obtain ⟨nv, hnv⟩ : ∃ nv, nv = v ^^^ (1 + x) := ⟨_, rfl⟩
      have hnl : nv < 256 := by rw [hnv]; exact Nat.xor_lt_two_pow (n := 8) (by omega) (by omega)
      have hxor : bits .xor .u8 (v : Int) (1 + (x : Int)) = (nv : Int) := by rw [hnv]; exact u8_xor_nat v (1 + x) (by omega) (by omega)
      have d0 : w3.cell? ⟨w.heap.size, at_, none⟩ = some (.int .u8 (v : Int)) := gr3.cell c0 (by simp; omega)
      have z0 : w3.frozen? ⟨w.heap.size, at_, none⟩ = false := by rw [gr3.frozen_far ⟨w.heap.size, at_, none⟩ (by simp; omega) (by simp; omega)]; exact f0
      refine ⟨_, rfl, trivial, ?_⟩
      simp only [Act.put, List.setIfInBounds_toArray, List.set_cons_zero, List.set_cons_succ]
      refine held_op 8 26 (.int .i64 (1 + (x : Int))) rfl rfl (by kernel_rfl) rfl (exec_addI 1 x (1 + (x : Int)) w3 rfl (by omega) (by omega)) trivial ?_
      simp only [Act.put, List.setIfInBounds_toArray, List.set_cons_zero, List.set_cons_succ]
      refine held_op 9 27 (.int .u8 (1 + (x : Int))) rfl rfl (by kernel_rfl) rfl (exec_u8 (1 + (x : Int)) w3 (by omega) (by omega)) trivial ?_
      simp only [Act.put, List.setIfInBounds_toArray, List.set_cons_zero, List.set_cons_succ]
      refine held_op 10 28 (.int .u8 (nv : Int)) rfl rfl (by kernel_rfl) rfl (by rw [← hxor]; exact exec_xorU _ _ w3) trivial ?_
      simp only [Act.put, List.setIfInBounds_toArray, List.set_cons_zero, List.set_cons_succ]
      refine held_op 11 29 (.pointer (some ⟨w.heap.size, at_, none⟩)) rfl rfl (by kernel_rfl) rfl (exec_idxB0 _ s.size cb at_ w3 hat) trivial ?_
      simp only [Act.put, List.setIfInBounds_toArray, List.set_cons_zero, List.set_cons_succ]
      refine held_store 12 rfl rfl (by kernel_rfl) rfl (exec_storeI 5 _ _ .u8 nv _ w3 (by simp) d0 z0) trivial ?_
      refine wpAnyH_done (by kernel_rfl) ?_ _
      have hcv := spoil_conv w3 w.heap.size L at_ nv s.size cb hLs (fun k hk => gr3.cell (cell k hk) (by simp; omega))
      have R : Hid (GotStr w g A l c (s.size + 2) (.returned (.string (strB (L.set at_ nv)))) (w3.setCell ⟨w.heap.size, at_, none⟩ (.int .u8 (nv : Int)))) := spoil_got hcw hcv0 gr12 gr3 hc3 (by rw [strB_size, List.length_set]; omega)
      clear d0 z0 hxor gr3 gr3' hnv
      go_wp2
      go_ret
      exact R.out
    · refine (l1Below_any A l c g 255 w2.drew hl hb (by omega) (by omega) hc2).mono ?_
      rintro e w3 ⟨x, hx, rfl, hc3, gr3'⟩
      have gr3 : w2.grownBy w3 (some g) := (grown_of_below (below_drawn (Below.refl w2.heap.size w2) 1) _).trans gr3'
      obtain ⟨nv, hnv⟩ : ∃ nv, nv = v ^^^ (1 + x) := ⟨_, rfl⟩
      have hnl : nv < 256 := by rw [hnv]; exact Nat.xor_lt_two_pow (n := 8) (by omega) (by omega)
      have hxor : bits .xor .u8 (v : Int) (1 + (x : Int)) = (nv : Int) := by rw [hnv]; exact u8_xor_nat v (1 + x) (by omega) (by omega)
      have d0 : w3.cell? ⟨w.heap.size, at_, none⟩ = some (.int .u8 (v : Int)) := gr3.cell c0 (by simp; omega)
      have z0 : w3.frozen? ⟨w.heap.size, at_, none⟩ = false := by rw [gr3.frozen_far ⟨w.heap.size, at_, none⟩ (by simp; omega) (by simp; omega)]; exact f0
      refine ⟨_, rfl, trivial, ?_⟩
      simp only [Act.put, List.setIfInBounds_toArray, List.set_cons_zero, List.set_cons_succ]
      refine held_take 8 26 (.int .i64 (1 + (x : Int))) rfl rfl (by kernel_rfl) (by kernel_rfl) (by kernel_rfl) (fun _ _ _ h => h) rfl trivial (fun w _ => exec_addI 1 x (1 + (x : Int)) w rfl (by omega) (by omega)) ?_
      simp only [Act.put, List.setIfInBounds_toArray, List.set_cons_zero, List.set_cons_succ]
      refine held_take 9 27 (.int .u8 (1 + (x : Int))) rfl rfl (by kernel_rfl) (by kernel_rfl) (by kernel_rfl) (fun _ _ _ h => h) rfl trivial (fun w _ => exec_u8 (1 + (x : Int)) w (by omega) (by omega)) ?_
      simp only [Act.put, List.setIfInBounds_toArray, List.set_cons_zero, List.set_cons_succ]
      refine held_op 5 23 (.int .u8 (v : Int)) rfl rfl (by kernel_rfl) rfl (exec_load1 5 _ _ _ _ (by simp) d0) trivial ?_
      simp only [Act.put, List.setIfInBounds_toArray, List.set_cons_zero, List.set_cons_succ]
      refine held_op 10 28 (.int .u8 (nv : Int)) rfl rfl (by kernel_rfl) rfl (by rw [← hxor]; exact exec_xorU _ _ w3) trivial ?_
      simp only [Act.put, List.setIfInBounds_toArray, List.set_cons_zero, List.set_cons_succ]
      refine held_op 11 29 (.pointer (some ⟨w.heap.size, at_, none⟩)) rfl rfl (by kernel_rfl) rfl (exec_idxB0 _ s.size cb at_ w3 hat) trivial ?_
      simp only [Act.put, List.setIfInBounds_toArray, List.set_cons_zero, List.set_cons_succ]
      refine held_store 12 rfl rfl (by kernel_rfl) rfl (exec_storeI 5 _ _ .u8 nv _ w3 (by simp) d0 z0) trivial ?_
      refine wpAnyH_done (by kernel_rfl) ?_ _
      have hcv := spoil_conv w3 w.heap.size L at_ nv s.size cb hLs (fun k hk => gr3.cell (cell k hk) (by simp; omega))
      have R : Hid (GotStr w g A l c (s.size + 2) (.returned (.string (strB (L.set at_ nv)))) (w3.setCell ⟨w.heap.size, at_, none⟩ (.int .u8 (nv : Int)))) := spoil_got hcw hcv0 gr12 gr3 hc3 (by rw [strB_size, List.length_set]; omega)
      clear d0 z0 hxor gr3 gr3' hnv
      go_wp2
      go_ret
      exact R.out
theorem fOf_le (q : Int) (b : List Nat) : (fOf q b).length ≤ 68 := by
  unfold fOf
  split
  · rename_i h
    exact frameOf_le (by unfold FrOk; omega)
  · simp
theorem l2Log_go {w w1 : World} {g : Nat} {A : Option Addr} {l : List Nat} {c : Nat} {s : ByteArray} (hs : s.size ≤ 400) (hc : Cur w1 g A l c) (gr : w.grownBy w1 (some g)) : GotStr w g A l c 1000 (.returned (.string s)) w1 := ⟨s, by omega, rfl, hc, gr⟩
set_option maxRecDepth 100000 in
set_option maxHeartbeats 1600000 in
theorem l2Log_any (A : Option Addr) (l : List Nat) (c g : Nat) (w : World) (hl : l.length ≤ 2097152) (hb : AllB l) (hcw : Cur w g A l c) :
    Calls Try.prog 62 #[.pointer (some ⟨g, 0, none⟩)] w (GotStr w g A l c 1000) := by
  go_enter Try.func62, Try.ntmps62
  go_wp2_with fail
  refine (l1Below_any A l c g 5 _ hl hb (by omega) (by omega) hcw).mono ?_
  rintro e w1 ⟨n, hn, rfl, hc1, gr1⟩
  go_wp2_with fail
  refine (l1Below_any A l c g 4 _ hl hb (by omega) (by omega) hc1).mono ?_
  rintro e w2 ⟨q0, hq0, rfl, hc2, gr2'⟩
  have gr2 := gr1.trans gr2'
  clear gr1 gr2' hc1
  go_wp2
  go_loopw [3, 5, 6] (fun v q i wr => ∃ (k z : Nat) (S : ByteArray), k ≤ n ∧ i = .int .i64 k ∧ q = .int .i64 z ∧ 1 ≤ z ∧ z ≤ 10 + k ∧ v = .string S ∧ S.size ≤ 68 * k ∧ Cur wr g A l c ∧ w.grownBy wr (some g)) (fun _ _ i _ => n - (intOf i).toNat)
  case atStart => exact ⟨0, 1 + q0, _, by omega, rfl, by go_num, by omega, by omega, rfl, by show 0 ≤ 68 * 0; omega, hc2, gr2⟩
  case round =>
    obtain ⟨k, z, S, hk, rfl, rfl, hz1, hz2, rfl, hS, hcr, hgr⟩ := hrel
    by_cases hlt : k < n
    · go_wp2_with fail
      refine (l1Below_any A l c g 6 _ hl hb (by omega) (by omega) hcr).mono ?_
      rintro e w3 ⟨m, hm, rfl, hc3, gr3'⟩
      have gr3 := hgr.trans gr3'
      clear gr3' hgr hcr
      have CB : Hid (Calls Try.prog 64 #[.pointer (some ⟨g, 0, none⟩), .int .i64 (1 + (m : Int))] w3 (GotBytes w3 g A l c (1 + m))) := l1Bytes_any A l c g (1 + m) w3 hl hb (by omega) hc3
      go_wp2_with fail
      refine CB.out.mono ?_
      rintro e w4 ⟨bs, B, cb, hbl, hba, rfl, o4, hc4, gr4'⟩
      have gr4 := gr3.trans gr4'
      have hcv := OwnB.conv o4 (by omega)
      have hbs : (strB bs).size ≤ 6 := by rw [strB_size]; omega
      have CF := Lib.hid (fun w => frameOf_spec (z : Int) (strB bs) w (by omega))
      have hfs : (strB (fOf (z : Int) (strN (strB bs)))).size ≤ 68 := by rw [strB_size]; exact fOf_le _ _
      generalize strB (fOf (z : Int) (strN (strB bs))) = F at *
      generalize strB bs = T at *
      clear gr3 gr4' hc3 o4 CB
      go_wp2_with fail
      refine (CF.out _).mono ?_
      rintro e w5 ⟨rfl, b5⟩
      have gr5 := grown_below gr4 b5
      have hc5 := hc4.mem b5
      clear b5 gr4 hc4 hcv CF
      have hadd : S.size + F.size ≤ 9223372036854775807 := by omega
      have hSF : (S ++ F).size ≤ 68 * (k + 1) := by rw [ByteArray.size_append]; omega
      go_wp2_with fail
      refine (l1Once_any A l c g 8 _ hl hb (by omega) (by omega) hc5).mono ?_
      rintro e w6 ⟨t, rfl, hc6, gr6'⟩
      have gr6 := gr5.trans gr6'
      clear gr5 gr6' hc5
      cases t with
      | true =>
        go_wp2_with fail
        refine (l1Below_any A l c g 6 _ hl hb (by omega) (by omega) hc6).mono ?_
        rintro e w7 ⟨x, hx, rfl, hc7, gr7'⟩
        have gr7 := gr6.trans gr7'
        clear gr6 gr7' hc6
        go_wp2
        go_roundw
        case rel => exact ⟨k + 1, 1 + x, _, by omega, by go_num, by go_num, by omega, by omega, rfl, hSF, hc7, gr7⟩
        case measure => simp [intOf]; omega
      | false =>
        go_wp2
        go_roundw
        case rel => exact ⟨k + 1, z + 1, _, by omega, by go_num, by go_num, by omega, by omega, rfl, hSF, hc6, gr6⟩
        case measure => simp [intOf]; omega
    · have hS2 : S.size ≤ 400 := by omega
      go_wp2_with fail
      refine (l1Below_any A l c g 4 _ hl hb (by omega) (by omega) hcr).mono ?_
      rintro e w3 ⟨t, ht, rfl, hc3, gr3'⟩
      have gr3 := hgr.trans gr3'
      clear gr3' hgr hcr
      by_cases ht0 : t = 0
      · subst ht0
        have CB : Hid (Calls Try.prog 53 #[.pointer (some ⟨g, 0, none⟩), .int .i64 ((S.size : Int) + 1)] w3 (GotBelow w3 g A l c (S.size + 1))) := l1Below_any A l c g (S.size + 1) _ hl hb (by omega) (by omega) hc3
        go_wp2_with fail
        refine CB.out.mono ?_
        rintro e w4 ⟨x, hx, rfl, hc4, gr4'⟩
        have R : Hid (GotStr w g A l c 1000 (.returned (.string (S.extract 0 x))) w4) := l2Log_go (by rw [ByteArray.size_extract]; omega) hc4 (gr3.trans gr4')
        have hx2 : (x : Int) ≤ S.size := by omega
        clear gr3 gr4' hc4 hc3 CB
        go_wp2
        go_ret
        exact R.out
      · have hd0 : ((t : Int) == 0) = false := by simp; omega
        by_cases ht1 : t = 1
        · subst ht1
          go_wp2_with fail
          refine (l1Spoil_any A l c g S _ hl hb (by omega) hc3).mono ?_
          rintro e w4 ⟨S', hS', rfl, hc4, gr4'⟩
          have R : Hid (GotStr w g A l c 1000 (.returned (.string S')) w4) := ⟨S', by omega, rfl, hc4, gr3.trans gr4'⟩
          clear gr3 gr4' hc4 hc3
          go_wp2
          go_ret
          exact R.out
        · have hd1 : ((t : Int) == 1) = false := by simp; omega
          have R : Hid (GotStr w g A l c 1000 (.returned (.string S)) w3) := l2Log_go hS2 hc3 gr3
          clear gr3 hc3
          go_wp2
          go_ret
          exact R.out
end Go.Proofs.Ytcapioiigfldoaa
