/- Scratch. -/
import Derived.Test.YtpnkkmeeogfeaaaRows
import Derived.Test.YtpnkkmeeogfeaaaRpA
namespace Go.Proofs.Ytpnkkmeeogfeaaa
open Go.RowKit
set_option linter.unusedSimpArgs false
set_option linter.unusedVariables false
set_option maxRecDepth 100000 in
theorem szIntS_val (B : Option Addr) (n c : Nat) (q : Int) (w : World) (hn : n ≤ 9223372036854775807) (hq : 0 ≤ q) (hq2 : q ≤ 1048576) :
    Calls Try.prog 19 #[.slice B n c, .int .i64 q] w fun e w' => e = .returned (.int .i64 (if q - n < 0 then -1 else q - n)) ∧ w = w' := by
  by_cases h : q - n < 0
  · go_enter Try.func19, Try.ntmps19
    go_wp2
    go_ret
    exact ⟨rfl, rfl⟩
  · go_enter Try.func19, Try.ntmps19
    go_wp2
    go_ret
    exact ⟨rfl, rfl⟩
set_option maxRecDepth 100000 in
set_option maxHeartbeats 800000 in
theorem szReply_val (s : Rp) (q : Int) (w : World) (hn : s.l.length ≤ 9223372036854775807) (hq : 0 ≤ q) (hq2 : q ≤ 1048576) :
    Calls Try.prog 5 #[rpA s, .int .i64 q] w fun e w' => e = .returned (.int .i64 (if q - s.l.length < 0 then -1 else q - s.l.length)) ∧ Below w.heap.size w w' := by
  have b0 : Hid (Below w.heap.size w (w.alloc (.cells #[.int .i64 s.code, .slice s.a s.l.length s.c] 24))) := (Below.refl _ _).alloc (Nat.le_refl _) _
  have C := Lib.hid (fun w => szIntS_val s.a s.l.length s.c q w hn hq hq2)
  unfold rpA
  by_cases h : q - s.l.length < 0
  · rw [if_pos h] at C ⊢
    go_enter Try.func5, Try.ntmps5
    go_wp2_with fail
    refine (C.out _).mono ?_
    rintro e w1 ⟨rfl, rfl⟩
    go_wp2
    go_ret
    exact ⟨rfl, b0.out⟩
  · rw [if_neg h] at C ⊢
    have h0 : 0 ≤ q - s.l.length := by omega
    generalize hQ : q - (s.l.length : Int) = Q at *
    clear h hQ
    go_enter Try.func5, Try.ntmps5
    go_wp2_with fail
    refine (C.out _).mono ?_
    rintro e w1 ⟨rfl, rfl⟩
    go_wp2
    go_ret
    exact ⟨rfl, b0.out⟩
/-- What szReplyS returns. -/
def szRV (q : Int) (rs : List Rp) : Int := if q - rs.length - (allI rs).length < 0 then -1 else q - rs.length - (allI rs).length
set_option maxRecDepth 100000 in
theorem exec_load_lrp {ρ : Operand → Value} {o : Oper} {x : Operand} (b off : Nat) (p : Rp) (w : World) (h : Rp.here w b off p) (ho : o.op = .load 24 x := by rfl) (hx : ρ x = .pointer (some ⟨b, off, none⟩) := by rfl) :
    (execOp ρ o).run Try.prog w = .ok (.value (rpA p)) w := by
  obtain ⟨h0, h1⟩ := h
  unfold execOp
  rw [ho]
  simp [go_sem, hx, h0, h1, rpA]
set_option maxRecDepth 100000 in
set_option maxHeartbeats 1600000 in
theorem szReplyS_val (A : Option Addr) (rs : List Rp) (c : Nat) (q : Int) (w : World) (hn : rs.length ≤ 9223372036854775807) (hl : ∀ s ∈ rs, s.l.length ≤ 9223372036854775807) (hA : Rws w w.heap.size A (rs.flatMap rpC)) (hq : 0 ≤ q) (hq2 : q ≤ 1048576) :
    Calls Try.prog 10 #[.slice A rs.length c, .int .i64 q] w fun e w' => e = .returned (.int .i64 (szRV q rs)) ∧ Below w.heap.size w w' := by
  by_cases h0 : q - rs.length < 0
  · have HV : Hid (szRV q rs = -1) := if_pos (by omega)
    go_enter Try.func10, Try.ntmps10
    go_wp2
    go_ret
    exact ⟨by rw [HV.out] <;> rfl, Below.refl _ _⟩
  have hn2 : rs.length ≤ 1048576 := by omega
  obtain ⟨q0, hq0⟩ : ∃ q0 : Int, q0 = q - rs.length := ⟨_, rfl⟩
  have hq0n : 0 ≤ q0 := by omega
  have hq0m : q0 ≤ 1048576 := by omega
  have H0 := Lib.hid hq0
  go_enter Try.func10, Try.ntmps10
  go_wp2
  go_loopw [1, 5] (fun z i wr => ∃ k : Nat, k ≤ rs.length ∧ i = .int .i64 k ∧ z = .int .i64 (q0 - (allI (rs.take k)).length) ∧ Hid (0 ≤ q0 - (allI (rs.take k)).length) ∧ Hid (Below w.heap.size w wr)) (fun _ i _ => rs.length - (intOf i).toNat)
  case atStart => exact ⟨0, by omega, rfl, by have := H0.out; simp [allI]; omega, by show 0 ≤ _; simp [allI]; omega, Below.refl _ _⟩
  case round =>
    obtain ⟨k, hk, rfl, rfl, hz, hb⟩ := hrel
    clear hq0
    by_cases hlt : k < rs.length
    · obtain ⟨b, off, rfl, hbB, c0, c1⟩ := (hA.below hb.out).rp hlt
      have HE := Lib.hid (allI_take rs k hlt)
      have HM := Lib.hid (allI_take_le rs (k + 1))
      have hll := hl _ (getD_mem rs k rp0 hlt)
      have hz0 := hz.out
      generalize hQ : q0 - ((allI (rs.take k)).length : Int) = Q at *
      have HQ := Lib.hid hQ
      have hQm : Q ≤ 1048576 := by omega
      clear hQ hz
      generalize rs.getD k rp0 = s at *
      have C := Lib.hid (fun w => szReply_val s Q w hll hz0 hQm)
      unfold rpA at C
      by_cases hs : Q - s.l.length < 0
      · rw [if_pos hs] at C
        have HV : Hid (szRV q rs = -1) := if_pos (by
          have h1 := HM.out; have h2 := HQ.out; have h3 := H0.out
          rw [HE.out, List.length_append] at h1
          omega)
        go_wp2_with fail
        refine (C.out _).mono ?_
        rintro e w1 ⟨rfl, b1⟩
        have HB := Lib.hid (hb.out.trans (b1.mono hb.out.size))
        clear b1
        go_wp2
        go_ret
        exact ⟨by rw [HV.out] <;> rfl, HB.out⟩
      · rw [if_neg hs] at C
        have HN : Hid (Q - s.l.length = q0 - ((allI (rs.take (k + 1))).length : Int)) := by
          show _ = _
          rw [HE.out, List.length_append]
          have h2 := HQ.out
          omega
        have hs0 : 0 ≤ Q - s.l.length := by omega
        generalize hR : Q - (s.l.length : Int) = R at *
        have HR := Lib.hid hR
        clear hR
        go_wp2_with fail
        refine (C.out _).mono ?_
        rintro e w1 ⟨rfl, b1⟩
        have HB := Lib.hid (hb.out.trans (b1.mono hb.out.size))
        clear b1 hb
        go_wp2
        go_roundw
        case rel => exact ⟨k + 1, by omega, by go_num, by rw [← HN.out], by rw [← HN.out]; exact hs0, HB.out⟩
        case measure => simp [intOf]; omega
    · obtain rfl : k = rs.length := by omega
      rw [List.take_length] at hz ⊢
      have HV : Hid (szRV q rs = q0 - (allI rs).length) := by
        show _ = _
        have h3 := H0.out
        have h4 := hz.out
        unfold szRV; rw [if_neg (by omega)]; omega
      generalize q0 - ((allI rs).length : Int) = Q at *
      go_wp2
      go_ret
      exact ⟨by rw [HV.out] <;> rfl, hb.out⟩
end Go.Proofs.Ytpnkkmeeogfeaaa
