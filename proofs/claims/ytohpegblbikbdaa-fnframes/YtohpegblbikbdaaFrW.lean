/- The walk of the law FnFrames. -/
import Derived.Test.YtohpegblbikbdaaRows
import Derived.Test.YtohpegblbikbdaaHs33
import Derived.Test.YtohpegblbikbdaaHs30
import Derived.Test.YtohpegblbikbdaaFrJ
namespace Go.Proofs.Ytohpegblbikbdaa
open Go.RowKit
set_option linter.unusedSimpArgs false
set_option linter.unusedVariables false
theorem map_getD (E : List Nat) (i : Nat) (h : i < E.length) : (E.map (fun x : Nat => (x : Int))).getD i 0 = ((E.getD i 0 : Nat) : Int) := by
  simp [List.getD_eq_getElem?_getD, List.getElem?_map, List.getElem?_eq_getElem h]
set_option maxRecDepth 100000 in
theorem exec_neqBool {ρ : Operand → Value} {o : Oper} {x y : Operand} (X : Bool) (w : World) (ho : o.op = .binOp .neq 4 x y 4 := by rfl) (hx : ρ x = .bool X := by rfl) (hy : ρ y = .bool X := by rfl) :
    (execOp ρ o).run Try.prog w = .ok (.value (.bool false)) w := by
  unfold execOp
  rw [ho]
  cases X <;> simp [go_sem, hx, hy]
set_option maxRecDepth 100000 in
theorem exec_fldFr0 {ρ : Operand → Value} {o : Oper} {x : Operand} (b off : Nat) (w : World) (ho : o.op = .fieldAddr 38 x 0 := by rfl) (hx : ρ x = .pointer (some ⟨b, off, none⟩) := by rfl) :
    (execOp ρ o).run Try.prog w = .ok (.value (.pointer (some ⟨b, off, none⟩))) w := by
  unfold execOp
  rw [ho]
  simp [go_sem, hx]
set_option maxRecDepth 100000 in
theorem exec_fldFr2 {ρ : Operand → Value} {o : Oper} {x : Operand} (b off : Nat) (w : World) (ho : o.op = .fieldAddr 38 x 2 := by rfl) (hx : ρ x = .pointer (some ⟨b, off, none⟩) := by rfl) :
    (execOp ρ o).run Try.prog w = .ok (.value (.pointer (some ⟨b, off + 2, none⟩))) w := by
  unfold execOp
  rw [ho]
  simp [go_sem, hx]
theorem str_some {s : ByteArray} (h : ¬ s.size = 0) : s.toList.isEmpty = false := by
  have h1 := str_beq s ⟨#[]⟩
  have h2 : ¬ s = ⟨#[]⟩ := by rintro rfl; exact h rfl
  rw [decide_eq_false h2] at h1
  rcases hh : s.toList with _ | ⟨x, xs⟩
  · rw [hh] at h1
    have h3 : (ByteArray.toList ⟨#[]⟩) = [] := by decide +kernel
    rw [h3] at h1
    cases h1
  · rfl
set_option maxRecDepth 100000 in
set_option maxHeartbeats 6400000 in
theorem FnFrames_walk (A : Option Addr) (l : List Nat) (cap : Nat) (w : World) (hA : Bts w w.heap.size A l) (hb : AllB l) (hm : l.length ≤ maxLen) :
    Calls Try.prog 3 #[.slice A l.length cap] w fun e w' => e = .returned (.bool true) ∧ Below w.heap.size w w' := by
  by_cases hbig : 1048576 < l.length
  · go_enter Try.func3, Try.ntmps3
    go_wp2_with fail
    refine (big_yes _ _ _ _ hbig).mono ?_
    rintro e w' ⟨rfl, rfl⟩
    go_wp2
    go_ret
    exact ⟨rfl, Below.refl _ _⟩
  have hl : l.length ≤ 1048576 := by omega
  clear hbig hm
  have CD := Lib.hid (drawLogOf_any A l cap w (by omega) hA hb)
  go_enter Try.func3, Try.ntmps3
  go_wp2_with fail
  refine (big_no _ _ _ _ hl).mono ?_
  rintro e w' ⟨rfl, rfl⟩
  go_wp2_with fail
  refine CD.out.mono ?_
  rintro e w2 ⟨rq, v, z, hrq, rfl, orq, b2⟩
  obtain ⟨RA, rc, rfl, _⟩ := own_form orq
  have KR := Lib.hid (fun w' (h : Below w2.heap.size w2 w') => (own_rws orq).below h)
  have KA := Lib.hid (fun w' (h : Below w2.heap.size w2 w') => (hA.below b2).below (h.mono b2.size))
  have B2 := Lib.hid b2
  clear CD orq b2
  have o0 := own_ints w2 w2.heap.size [0] (Nat.le_refl _) (by simp)
  have bw0 : Below w2.heap.size w2 (w2.alloc (.cells #[.int .i64 0] 3)) := (Below.refl _ _).alloc (Nat.le_refl _) _
  go_wp2
  go_loopw [5, 6, 7] (fun sv v i wr => ∃ (k : Nat) (L E : List Nat) (Z : ByteArray), k ≤ rq.length ∧ i = .int .i64 k ∧ sv = .string Z ∧ Hid (Z = strB L ∧ AllB L ∧ Jn L E) ∧ Z.size ≤ 68 * k ∧ E.length ≤ k + 1 ∧ 1 ≤ E.length ∧ wr.ownsRow w2.heap.size 3 1 v E.length (ints (E.map (fun x : Nat => (x : Int)))) ∧ Below w2.heap.size w2 wr) (fun _ _ i _ => rq.length - (intOf i).toNat)
  case atStart => exact ⟨0, [], [0], _, by omega, rfl, rfl, ⟨rfl, (fun x hx => by cases hx), jn_nil⟩, by show 0 ≤ 68 * 0; omega, by simp, by simp, o0, bw0⟩
  case round =>
    clear o0 bw0
    obtain ⟨k, L, E, Z, hk, rfl, rfl, HJ, hZ, hE1, hE2, hown, hbw⟩ := hrel
    obtain ⟨EA, ec, rfl, hec⟩ := own_form hown
    by_cases hk2 : k < rq.length
    · obtain ⟨b, off, eRA, hbB, h0, h1, h2, h3, h4, h5⟩ := (KR.out wr hbw).rq hk2
      have CB := Lib.hid (reqBytes_any (rq.getD k rq0) wr)
      generalize rq.getD k rq0 = q at *
      unfold rqA at CB
      subst eRA
      go_wp2_with fail
      refine CB.out.mono ?_
      rintro e w3 ⟨s3, rfl, hs3, b3⟩
      have hown3 := own_below hown b3
      have hbw3 := hbw.trans (b3.mono hbw.size)
      have hsz3 := hbw3.size
      clear CB h0 h1 h2 h3 h4 h5 hown b3 hbw
      by_cases hs0 : s3.size = 0
      · have e3 : s3 = ⟨#[]⟩ := by cases s3 with | mk d => cases d; simp [ByteArray.size] at hs0; simp [hs0]
        subst e3
        go_wp2
        go_roundw
        case rel => exact ⟨k + 1, L, E, Z, by omega, by go_num, rfl, HJ, by omega, by omega, hE2, hown3, hbw3⟩
        case measure => simp [intOf]; omega
      · have e3 : s3.toList.isEmpty = false := str_some hs0
        have e4 : (!s3.toList.isEmpty) = true := by rw [e3]; rfl
        have ok : FrOk E.length (strN s3) := by unfold FrOk; rw [strN_length]; omega
        have CF := Lib.hid (fun w => frameOf_impl_in E.length s3 w (by omega) (by omega) (by omega) (by omega))
        have hYs : (strB (frameOf E.length (strN s3))).size ≤ 68 := by rw [strB_size]; exact frameOf_le ok
        have HY : Hid (Z ++ strB (frameOf E.length (strN s3)) = strB (L ++ frameOf E.length (strN s3)) ∧ AllB (L ++ frameOf E.length (strN s3)) ∧ Jn (L ++ frameOf E.length (strN s3)) (E ++ [(L ++ frameOf E.length (strN s3)).length])) := ⟨by rw [strB_append, HJ.out.1], HJ.out.2.1.append (frameOf_all _ (strN_all s3)), HJ.out.2.2.step ok⟩
        have HN : Hid ((L ++ frameOf E.length (strN s3)).length = (Z ++ strB (frameOf E.length (strN s3))).size) := by show _ = _; rw [HY.out.1, strB_size]
        clear ok
        generalize frameOf E.length (strN s3) = F at *
        obtain ⟨Y, eY⟩ : ∃ Y, strB F = Y := ⟨_, rfl⟩
        rw [eY] at CF hYs HY HN
        clear eY
        go_wp2_with fail
        refine (CF.out _).mono ?_
        rintro e w4 ⟨rfl, b4⟩
        have hown4 := own_below hown3 b4
        have hbw4 := hbw3.trans (b4.mono hbw3.size)
        have hsz4 := hbw4.size
        clear CF hown3 hbw3 b4 hsz3 e3 e4
        have hadd : Z.size + Y.size ≤ 9223372036854775807 := by omega
        obtain ⟨Z2, hT⟩ : ∃ Z2, Z ++ Y = Z2 := ⟨_, rfl⟩
        have hZ2 : Z2.size ≤ 68 * (k + 1) := by rw [← hT, ByteArray.size_append]; omega
        rw [hT] at HY HN
        have hown5 := World.ownsRow.alloc hown4 (.cells #[.int .i64 (Z2.size : Int)] 3)
        have hR := Rws.new w4 (ints [(Z2.size : Int)]) 3
        have hbw5 := hbw4.alloc hsz4 (.cells #[.int .i64 (Z2.size : Int)] 3)
        have hsz5 := hbw5.size
        clear hown4
        go_wp2_with (at_builtin; refine wpList_appR rowInt _ rfl (.tmp 40) (.tmp 43) rfl w2.heap.size _ E.length (ints (E.map (fun x : Nat => (x : Int)))) rfl hown5 (w4.heap.size + 1) (some ⟨w4.heap.size, 0, none⟩) 1 1 (ints [(Z2.size : Int)]) rfl rfl hR (fun h => by cases h) (ints_one _) (by omega) hsz5 ?_)
        intro v' w6 o6 gr6
        have hbw6 := hbw5.grown gr6 hsz5 (own_low hown5)
        rw [← ints_append] at o6
        have HF : Hid (Z2 = strB (L ++ F) ∧ AllB (L ++ F) ∧ Jn (L ++ F) (E ++ [Z2.size])) := by have h := HY.out; rw [HN.out] at h; exact h
        clear HY HN hown5 hR hbw5 hsz5 gr6 hbw4 hsz4 hT
        go_wp2
        go_roundw
        case rel => exact ⟨k + 1, L ++ F, E ++ [Z2.size], Z2, by omega, by go_num, rfl, HF, hZ2, by simp; omega, by simp, (by rw [List.length_append, List.map_append]; exact o6), hbw6⟩
        case measure => simp [intOf]; omega
    · have hk3 : k = rq.length := by omega
      have hZ' : Z.size ≤ 272 := by omega
      subst hk3
      clear hk hk2 KR
      obtain ⟨eb, rfl, heb⟩ := hec.2.2 (by omega)
      have KE : Hid (∀ w', Below wr.heap.size wr w' → ∀ i, i < E.length → w'.cell? ⟨eb, 0 + i, none⟩ = some (.int .i64 ((E.getD i 0 : Nat) : Int))) := fun w' h i hi => by
        obtain ⟨b, off, e, hlt, hc⟩ := ((own_rws hown).below h).int (i := i) (by simpa using hi)
        injection e with e
        injection e with e1 e2
        subst e1 e2
        rw [map_getD E i hi] at hc
        exact hc
      have HBW := Lib.hid hbw
      clear hown hbw hec
      go_upto_region 13 with fail
      go_cut [53] (fun s53 wx => s53 = .bool false ∧ wx = wr)
      case first =>
        by_cases hE3 : 1 < E.length
        · have c1 := KE.out wr (Below.refl _ _) 1 hE3
          have h7 := HJ.out.2.2.seven hE3
          generalize E.getD 1 0 = N1 at *
          go_wp2_with fail
          go_meet
          exact ⟨by rw [decide_eq_false (by omega)], rfl⟩
        · have hE4 : ¬ ((1 : Int) < (E.length : Int)) := by omega
          go_wp2_with fail
          go_meet
          exact ⟨rfl, rfl⟩
      case rest =>
        obtain ⟨rfl, rfl⟩ := hcut
        go_wp2_with fail
        refine (at0_any A l cap w.heap.size 5 _ (by omega) (by omega) (KA.out _ HBW.out) hb).mono ?_
        rintro e w' ⟨rfl, rfl⟩
        have hx0 := at0N_lt hb 5
        generalize at0N l 5 = x0 at *
        have hT0 : Int.tmod (x0 : Int) ((Z.size : Int) + 1) = ((x0 % (Z.size + 1) : Nat) : Int) := by
          rw [Int.tmod_eq_emod_of_nonneg (by omega), Int.natCast_emod, Int.natCast_add]
          rfl
        have hcz : x0 % (Z.size + 1) ≤ Z.size := by have := Nat.mod_lt x0 (show 0 < Z.size + 1 by omega); omega
        generalize x0 % (Z.size + 1) = cut at *
        have hz1 : (((Z.size : Int) + 1) == 0) = false := by simp; omega
        have hz2 : ¬ ((Z.size : Int) + 1 = 0) := by omega
        go_wp2
        clear hT0 hx0 hz1 hz2
        go_loop [10] (fun i => ∃ m : Nat, m < E.length ∧ i = .int .i64 m ∧ E.getD m 0 ≤ cut) (fun i => E.length - (intOf i).toNat)
        case atStart => exact ⟨0, by omega, rfl, by rw [HJ.out.2.2.2.1]; omega⟩
        case round =>
          obtain ⟨m, hm1, rfl, hm2⟩ := hrel
          obtain ⟨d, hd⟩ : ∃ d : Bool, d = decide (m + 1 < E.length ∧ E.getD (m + 1) 0 ≤ cut) := ⟨_, rfl⟩
          go_upto_region 17 with fail
          go_cut [73] from 60 to 75 (fun s73 wx => s73 = .bool d ∧ wx = wc)
          case first =>
            by_cases h1 : m + 1 < E.length
            · have c1 := KE.out _ (Below.refl _ _) (m + 1) h1
              rw [Nat.zero_add] at c1
              have hd2 : d = decide (E.getD (m + 1) 0 ≤ cut) := by rw [hd]; simp [h1]
              generalize E.getD (m + 1) 0 = N1 at *
              go_wp2_with fail
              go_meet
              exact ⟨by rw [hd2], rfl⟩
            · have hd2 : d = false := by rw [hd]; simp [h1]
              go_wp2_with fail
              go_meet
              exact ⟨by rw [hd2], rfl⟩
          case rest =>
            obtain ⟨rfl, rfl⟩ := hcut
            cases d with
            | true =>
              have hd' := of_decide_eq_true hd.symm
              clear hd
              have hd := hd'
              clear hd'
              go_wp2
              go_round
              case rel => exact ⟨m + 1, hd.1, by go_num, hd.2⟩
              case measure => simp [intOf]; omega
            | false =>
              have hd' := of_decide_eq_false hd.symm
              clear hd
              have hd := hd'
              clear hd'
              obtain ⟨hZL, hLa, HJn⟩ := HJ.out
              have hLs : L.length = Z.size := by rw [hZL, strB_size]
              have RD := read_all HJn (cut := cut) (m := m) (by omega) hm1 hm2 (fun h => by have : ¬ E.getD (m + 1) 0 ≤ cut := fun h2 => hd ⟨h, h2⟩; omega)
              have hW := whole_read HJn.2.1 RD
              have hTs : strN (Z.extract 0 cut) = L.take cut := by rw [strN_extract, hZL, strN_strB L hLa]; simp
              obtain ⟨T, eT⟩ : ∃ T, Z.extract 0 cut = T := ⟨_, rfl⟩
              have hTz : T.size = cut := by rw [← eT, ByteArray.size_extract]; omega
              rw [eT] at hTs
              have HT := Lib.hid eT
              have CF : Hid (∀ w, Calls Try.prog 11 #[.string T] w (NewR 38 3 w m ((framesOf (L.take cut)).flatMap frC))) := fun w => by have := frames_impl T w (by omega); rw [hTs, RD.1] at this; exact this
              have CW : Hid (∀ w, Calls Try.prog 12 #[.string T] w fun e w' => e = .returned (.int .i64 ((E.getD m 0 : Nat) : Int)) ∧ Below w.heap.size w w') := fun w => by have := whole_impl' T w (by omega); rw [hTs, hW] at this; exact this
              obtain ⟨D, eD⟩ : ∃ D : Bool, decide (((E.getD m 0 : Nat) : Int) < (cut : Int)) = D := ⟨_, rfl⟩
              have CT : Hid (∀ w, Calls Try.prog 13 #[.string T] w fun e w' => e = .returned (.bool D) ∧ Below w.heap.size w w') := fun w => by have := torn_impl' T w (by omega); rw [hTs, hW, hTz, eD] at this; exact this
              have KM : Hid (∀ w', Below wc.heap.size wc w' → w'.cell? ⟨eb, 0 + m, none⟩ = some (.int .i64 ((E.getD m 0 : Nat) : Int))) := fun w' h => KE.out w' h m hm1
              have HD := Lib.hid eD
              have HRD := Lib.hid RD
              generalize hfs : framesOf (L.take cut) = fs at *
              clear hZL hLa HJn hLs RD hW hTs eT hTz eD hd hfs
              go_wp2_with fail
              rw [HT.out]
              refine (CF.out _).mono ?_
              rintro e w5 ⟨FA, fc, rfl, o5, b5⟩
              have KM : Hid (∀ w', Below w5.heap.size w5 w' → w'.cell? ⟨eb, 0 + m, none⟩ = some (.int .i64 ((E.getD m 0 : Nat) : Int))) := fun w' h => KM.out w' (b5.trans (h.mono b5.size))
              have HB5 := Lib.hid b5
              have HO5 := Lib.hid o5
              clear o5 b5 CF
              generalize hW0 : E.getD m 0 = W0 at *
              go_wp2_with fail
              go_cut [107] (fun s107 wx => s107 = .bool false ∧ Below w5.heap.size w5 wx)
              case first =>
                refine wp_region_held_drew (S := fun w' => Hid (Below w5.heap.size w5 w')) (by kernel_rfl) (below_drawn (Below.refl _ _) 1) (fun hHeld => ?_)
                refine held_take 0 80 (.slice FA m fc) rfl rfl (by kernel_rfl) (by kernel_rfl) (by kernel_rfl) (fun _ _ _ h => h) rfl hHeld (fun w _ => rfl) ?_
                refine held_take 1 81 (.int .i64 ((m : Nat) : Int)) rfl rfl (by kernel_rfl) (by kernel_rfl) (by kernel_rfl) (fun _ _ _ h => h) rfl hHeld (fun w _ => exec_lenF _ _ _ w) ?_
                refine held_take 2 82 (.int .i64 ((m : Nat) : Int)) rfl rfl (by kernel_rfl) (by kernel_rfl) (by kernel_rfl) (fun _ _ _ h => h) rfl hHeld (fun w _ => rfl) ?_
                simp only [Act.put, List.setIfInBounds_toArray, List.set_cons_zero, List.set_cons_succ]
                refine held_take 3 83 (.bool false) rfl rfl (by kernel_rfl) (by kernel_rfl) (by kernel_rfl) (fun _ _ _ h => h) rfl hHeld (fun w _ => exec_neqI (m : Int) (m : Int) false w (by simp)) ?_
                refine held_take 4 84 (.bool false) rfl rfl (by kernel_rfl) (by kernel_rfl) (by kernel_rfl) (fun _ _ _ h => h) rfl hHeld (fun w _ => rfl) ?_
                refine held_take 5 85 (.string Z) rfl rfl (by kernel_rfl) (by kernel_rfl) (by kernel_rfl) (fun _ _ _ h => h) rfl hHeld (fun w _ => rfl) ?_
                simp only [Act.put, List.setIfInBounds_toArray, List.set_cons_zero, List.set_cons_succ]
                refine held_take 6 86 (.int .i64 ((cut : Nat) : Int)) rfl rfl (by kernel_rfl) (by kernel_rfl) (by kernel_rfl) (fun _ _ _ h => h) rfl hHeld (fun w _ => rfl) ?_
                refine held_take 7 87 (.string T) rfl rfl (by kernel_rfl) (by kernel_rfl) (by kernel_rfl) (fun _ _ _ h => h) rfl hHeld (fun w _ => by rw [← HT.out]; exact exec_toS Z cut w hcz) ?_
                refine held_take 9 89 (.slice (some ⟨eb, 0, none⟩) E.length ec) rfl rfl (by kernel_rfl) (by kernel_rfl) (by kernel_rfl) (fun _ _ _ h => h) rfl hHeld (fun w _ => rfl) ?_
                simp only [Act.put, List.setIfInBounds_toArray, List.set_cons_zero, List.set_cons_succ]
                refine held_take 10 90 (.int .i64 ((m : Nat) : Int)) rfl rfl (by kernel_rfl) (by kernel_rfl) (by kernel_rfl) (fun _ _ _ h => h) rfl hHeld (fun w _ => rfl) ?_
                refine held_take 11 91 (.pointer (some ⟨eb, 0 + m, none⟩)) rfl rfl (by kernel_rfl) (by kernel_rfl) (by kernel_rfl) (fun _ _ _ h => h) rfl hHeld (fun w _ => exec_idxIv eb 0 E.length ec m w hm1) ?_
                refine held_take 12 92 (.int .i64 ((W0 : Nat) : Int)) rfl rfl (by kernel_rfl) (by kernel_rfl) (by kernel_rfl) (fun _ _ _ h => h) rfl hHeld (fun w h => exec_load1 3 _ _ _ w (.inl rfl) (KM.out w h.out)) ?_
                simp only [Act.put, List.setIfInBounds_toArray, List.set_cons_zero, List.set_cons_succ]
                refine held_call 8 88 12 #[.string T] rfl rfl (by kernel_rfl) rfl (exec_call Try.func12 (by kernel_rfl) (by kernel_rfl) _) ?_
                refine (CW.out _).mono ?_
                rintro e w6 ⟨rfl, b6⟩
                have S6 : Hid (Below w5.heap.size w5 w6) := hHeld.out.trans (b6.mono hHeld.out.size)
                refine ⟨_, rfl, S6, ?_⟩
                simp only [Act.put, List.setIfInBounds_toArray, List.set_cons_zero, List.set_cons_succ]
                refine held_take 13 93 (.bool false) rfl rfl (by kernel_rfl) (by kernel_rfl) (by kernel_rfl) (fun _ _ _ h => h) rfl S6 (fun w _ => exec_neqI (W0 : Int) (W0 : Int) false w (by simp)) ?_
                refine held_take 14 94 (.bool false) rfl rfl (by kernel_rfl) (by kernel_rfl) (by kernel_rfl) (fun _ _ _ h => h) rfl S6 (fun w _ => exec_pickF _ w) ?_
                refine held_take 15 95 (.bool false) rfl rfl (by kernel_rfl) (by kernel_rfl) (by kernel_rfl) (fun _ _ _ h => h) rfl S6 (fun w _ => rfl) ?_
                simp only [Act.put, List.setIfInBounds_toArray, List.set_cons_zero, List.set_cons_succ]
                refine held_take 16 96 (.string Z) rfl rfl (by kernel_rfl) (by kernel_rfl) (by kernel_rfl) (fun _ _ _ h => h) rfl S6 (fun w _ => rfl) ?_
                refine held_take 17 97 (.int .i64 ((cut : Nat) : Int)) rfl rfl (by kernel_rfl) (by kernel_rfl) (by kernel_rfl) (fun _ _ _ h => h) rfl S6 (fun w _ => rfl) ?_
                refine held_take 18 98 (.string T) rfl rfl (by kernel_rfl) (by kernel_rfl) (by kernel_rfl) (fun _ _ _ h => h) rfl S6 (fun w _ => by rw [← HT.out]; exact exec_toS Z cut w hcz) ?_
                simp only [Act.put, List.setIfInBounds_toArray, List.set_cons_zero, List.set_cons_succ]
                refine held_take 20 100 (.int .i64 ((cut : Nat) : Int)) rfl rfl (by kernel_rfl) (by kernel_rfl) (by kernel_rfl) (fun _ _ _ h => h) rfl S6 (fun w _ => rfl) ?_
                refine held_take 21 101 (.slice (some ⟨eb, 0, none⟩) E.length ec) rfl rfl (by kernel_rfl) (by kernel_rfl) (by kernel_rfl) (fun _ _ _ h => h) rfl S6 (fun w _ => rfl) ?_
                refine held_take 22 102 (.int .i64 ((m : Nat) : Int)) rfl rfl (by kernel_rfl) (by kernel_rfl) (by kernel_rfl) (fun _ _ _ h => h) rfl S6 (fun w _ => rfl) ?_
                simp only [Act.put, List.setIfInBounds_toArray, List.set_cons_zero, List.set_cons_succ]
                refine held_take 23 103 (.pointer (some ⟨eb, 0 + m, none⟩)) rfl rfl (by kernel_rfl) (by kernel_rfl) (by kernel_rfl) (fun _ _ _ h => h) rfl S6 (fun w _ => exec_idxIv eb 0 E.length ec m w hm1) ?_
                refine held_take 24 104 (.int .i64 ((W0 : Nat) : Int)) rfl rfl (by kernel_rfl) (by kernel_rfl) (by kernel_rfl) (fun _ _ _ h => h) rfl S6 (fun w h => exec_load1 3 _ _ _ w (.inl rfl) (KM.out w h.out)) ?_
                refine held_take 25 105 (.bool D) rfl rfl (by kernel_rfl) (by kernel_rfl) (by kernel_rfl) (fun _ _ _ h => h) rfl S6 (fun w _ => exec_gtrI (cut : Int) (W0 : Int) D w HD.out) ?_
                simp only [Act.put, List.setIfInBounds_toArray, List.set_cons_zero, List.set_cons_succ]
                refine held_call 19 99 13 #[.string T] rfl rfl (by kernel_rfl) rfl (exec_call Try.func13 (by kernel_rfl) (by kernel_rfl) _) ?_
                refine (CT.out _).mono ?_
                rintro e w7 ⟨rfl, b7⟩
                have S7 : Hid (Below w5.heap.size w5 w7) := S6.out.trans (b7.mono S6.out.size)
                refine ⟨_, rfl, S7, ?_⟩
                simp only [Act.put, List.setIfInBounds_toArray, List.set_cons_zero, List.set_cons_succ]
                refine held_take 26 106 (.bool false) rfl rfl (by kernel_rfl) (by kernel_rfl) (by kernel_rfl) (fun _ _ _ h => h) rfl S7 (fun w _ => exec_neqBool D w) ?_
                refine held_take 27 107 (.bool false) rfl rfl (by kernel_rfl) (by kernel_rfl) (by kernel_rfl) (fun _ _ _ h => h) rfl S7 (fun w _ => exec_pickF _ w) ?_
                refine wpAnyH_done (by kernel_rfl) ?_ _
                go_wp2_with fail
                go_meet
                exact ⟨rfl, S7.out⟩
              case rest =>
                obtain ⟨rfl, bz⟩ := hcut
                clear CW CT KM HD HT
                go_wp2
                go_loopw [12] (fun i wr => ∃ j : Nat, j ≤ m ∧ i = .int .i64 j ∧ Below w5.heap.size w5 wr) (fun i _ => m - (intOf i).toNat)
                case atStart => exact ⟨0, by omega, rfl, bz⟩
                case round =>
                  clear bz
                  obtain ⟨j, hj0, rfl, bz⟩ := hrel
                  by_cases hj : j < m
                  · obtain ⟨fb, fo, eF, hfb, c0, c1, c2⟩ := (rws_below (own_rws HO5.out) bz).fr (i := j) (by rw [HRD.out.1]; exact hj)
                    subst eF
                    have hr := HRD.out.2 j hj
                    rw [hr.1] at c0
                    rw [hr.2] at c2
                    have K1 : Hid (∀ w', Below wr.heap.size wr w' → w'.cell? ⟨eb, 0 + (j + 1), none⟩ = some (.int .i64 ((E.getD (j + 1) 0 : Nat) : Int))) := fun w' h => KE.out w' ((HB5.out.trans (bz.mono HB5.out.size)).trans (h.mono (HB5.out.trans (bz.mono HB5.out.size)).size)) (j + 1) (by omega)
                    generalize E.getD (j + 1) 0 = N1 at *
                    clear c1 hr
                    go_wp2_with fail
                    go_cut [133] from 108 to 133 (fun s133 wx => s133 = .bool false ∧ Below wr.heap.size wr wx)
                    case first =>
                      refine wp_region_held_drew (S := fun w' => Hid (Below wr.heap.size wr w')) (by kernel_rfl) (below_drawn (Below.refl _ _) 1) (fun hHeld => ?_)
                      refine held_take 0 113 (.slice (some ⟨fb, fo, none⟩) m fc) rfl rfl (by kernel_rfl) (by kernel_rfl) (by kernel_rfl) (fun _ _ _ h => h) rfl hHeld (fun w _ => rfl) ?_
                      refine held_take 1 114 (.int .i64 ((j : Nat) : Int)) rfl rfl (by kernel_rfl) (by kernel_rfl) (by kernel_rfl) (fun _ _ _ h => h) rfl hHeld (fun w _ => rfl) ?_
                      refine held_take 2 115 (.pointer (some ⟨fb, fo + j * 3, none⟩)) rfl rfl (by kernel_rfl) (by kernel_rfl) (by kernel_rfl) (fun _ _ _ h => h) rfl hHeld (fun w _ => exec_idxFr fb fo m fc j w hj) ?_
                      simp only [Act.put, List.setIfInBounds_toArray, List.set_cons_zero, List.set_cons_succ]
                      refine held_take 3 116 (.pointer (some ⟨fb, fo + j * 3, none⟩)) rfl rfl (by kernel_rfl) (by kernel_rfl) (by kernel_rfl) (fun _ _ _ h => h) rfl hHeld (fun w _ => exec_fldFr0 _ _ w) ?_
                      refine held_take 4 117 (.int .i64 ((j : Int) + 1)) rfl rfl (by kernel_rfl) (by kernel_rfl) (by kernel_rfl) (fun _ _ _ h => h) rfl hHeld (fun w h => exec_load1 3 _ _ _ w (.inl rfl) ((h.out.cell hfb).trans c0)) ?_
                      refine held_take 5 118 (.int .i64 ((j : Nat) : Int)) rfl rfl (by kernel_rfl) (by kernel_rfl) (by kernel_rfl) (fun _ _ _ h => h) rfl hHeld (fun w _ => rfl) ?_
                      simp only [Act.put, List.setIfInBounds_toArray, List.set_cons_zero, List.set_cons_succ]
                      refine held_take 6 119 (.int .i64 ((j : Int) + 1)) rfl rfl (by kernel_rfl) (by kernel_rfl) (by kernel_rfl) (fun _ _ _ h => h) rfl hHeld (fun w _ => exec_addI (j : Int) 1 _ w rfl (by omega) (by omega)) ?_
                      refine held_take 7 120 (.bool false) rfl rfl (by kernel_rfl) (by kernel_rfl) (by kernel_rfl) (fun _ _ _ h => h) rfl hHeld (fun w _ => exec_neqI ((j : Int) + 1) ((j : Int) + 1) false w (by simp)) ?_
                      refine held_take 8 121 (.bool false) rfl rfl (by kernel_rfl) (by kernel_rfl) (by kernel_rfl) (fun _ _ _ h => h) rfl hHeld (fun w _ => rfl) ?_
                      simp only [Act.put, List.setIfInBounds_toArray, List.set_cons_zero, List.set_cons_succ]
                      refine held_take 9 122 (.slice (some ⟨fb, fo, none⟩) m fc) rfl rfl (by kernel_rfl) (by kernel_rfl) (by kernel_rfl) (fun _ _ _ h => h) rfl hHeld (fun w _ => rfl) ?_
                      refine held_take 10 123 (.int .i64 ((j : Nat) : Int)) rfl rfl (by kernel_rfl) (by kernel_rfl) (by kernel_rfl) (fun _ _ _ h => h) rfl hHeld (fun w _ => rfl) ?_
                      refine held_take 11 124 (.pointer (some ⟨fb, fo + j * 3, none⟩)) rfl rfl (by kernel_rfl) (by kernel_rfl) (by kernel_rfl) (fun _ _ _ h => h) rfl hHeld (fun w _ => exec_idxFr fb fo m fc j w hj) ?_
                      simp only [Act.put, List.setIfInBounds_toArray, List.set_cons_zero, List.set_cons_succ]
                      refine held_take 12 125 (.pointer (some ⟨fb, fo + j * 3 + 2, none⟩)) rfl rfl (by kernel_rfl) (by kernel_rfl) (by kernel_rfl) (fun _ _ _ h => h) rfl hHeld (fun w _ => exec_fldFr2 _ _ w) ?_
                      refine held_take 13 126 (.int .i64 ((N1 : Nat) : Int)) rfl rfl (by kernel_rfl) (by kernel_rfl) (by kernel_rfl) (fun _ _ _ h => h) rfl hHeld (fun w h => exec_load1 3 _ _ _ w (.inl rfl) ((h.out.cell hfb).trans c2)) ?_
                      refine held_take 14 127 (.slice (some ⟨eb, 0, none⟩) E.length ec) rfl rfl (by kernel_rfl) (by kernel_rfl) (by kernel_rfl) (fun _ _ _ h => h) rfl hHeld (fun w _ => rfl) ?_
                      simp only [Act.put, List.setIfInBounds_toArray, List.set_cons_zero, List.set_cons_succ]
                      refine held_take 15 128 (.int .i64 ((j : Nat) : Int)) rfl rfl (by kernel_rfl) (by kernel_rfl) (by kernel_rfl) (fun _ _ _ h => h) rfl hHeld (fun w _ => rfl) ?_
                      refine held_take 16 129 (.int .i64 ((j + 1 : Nat) : Int)) rfl rfl (by kernel_rfl) (by kernel_rfl) (by kernel_rfl) (fun _ _ _ h => h) rfl hHeld (fun w _ => exec_addI (j : Int) 1 _ w (by omega) (by omega) (by omega)) ?_
                      refine held_take 17 130 (.pointer (some ⟨eb, 0 + (j + 1), none⟩)) rfl rfl (by kernel_rfl) (by kernel_rfl) (by kernel_rfl) (fun _ _ _ h => h) rfl hHeld (fun w _ => exec_idxIv eb 0 E.length ec (j + 1) w (by omega)) ?_
                      simp only [Act.put, List.setIfInBounds_toArray, List.set_cons_zero, List.set_cons_succ]
                      refine held_take 18 131 (.int .i64 ((N1 : Nat) : Int)) rfl rfl (by kernel_rfl) (by kernel_rfl) (by kernel_rfl) (fun _ _ _ h => h) rfl hHeld (fun w h => exec_load1 3 _ _ _ w (.inl rfl) (K1.out w h.out)) ?_
                      refine held_take 19 132 (.bool false) rfl rfl (by kernel_rfl) (by kernel_rfl) (by kernel_rfl) (fun _ _ _ h => h) rfl hHeld (fun w _ => exec_neqI (N1 : Int) (N1 : Int) false w (by simp)) ?_
                      refine held_take 20 133 (.bool false) rfl rfl (by kernel_rfl) (by kernel_rfl) (by kernel_rfl) (fun _ _ _ h => h) rfl hHeld (fun w _ => exec_pickF _ w) ?_
                      simp only [Act.put, List.setIfInBounds_toArray, List.set_cons_zero, List.set_cons_succ]
                      refine wpAnyH_done (by kernel_rfl) ?_ _
                      go_wp2_with fail
                      go_meet
                      exact ⟨rfl, hHeld.out⟩
                    case rest =>
                      obtain ⟨rfl, by_⟩ := hcut
                      have bz2 := bz.trans (by_.mono bz.size)
                      clear K1 c0 c2 by_ bz
                      go_wp2
                      go_roundw
                      case rel => exact ⟨j + 1, by omega, by go_num, bz2⟩
                      case measure => simp [intOf]; omega
                  · go_wp2
                    go_ret
                    exact ⟨rfl, B2.out.trans ((HBW.out.trans ((HB5.out.trans (bz.mono HB5.out.size)).mono HBW.out.size)).mono B2.out.size)⟩
end Go.Proofs.Ytohpegblbikbdaa
