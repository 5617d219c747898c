/- Scratch. -/
import Derived.Test.YtpnkkmeeogfeaaaRows
import Derived.Test.YtpnkkmeeogfeaaaRpN
import Derived.Test.YtpnkkmeeogfeaaaRp17I
namespace Go.Proofs.Ytpnkkmeeogfeaaa
open Go.RowKit
set_option linter.unusedSimpArgs false
set_option linter.unusedVariables false
set_option maxRecDepth 100000 in
set_option maxHeartbeats 6400000 in
theorem FnExactCodes_walk (A : Option Addr) (rs : List Rp) (c : Nat) (w : World) (hA : Rep w A rs) (hn : rs.length ≤ 9223372036854775807) (hl : ∀ s ∈ rs, s.l.length ≤ 9223372036854775807) :
    Calls Try.prog 4 #[.slice A rs.length c] w fun e w' => e = .returned (.bool true) ∧ Below w.heap.size w w' := by
  have CS := Lib.hid (szReplyS_val A rs c 1048576 w hn hl hA.row (by omega) (by omega))
  have HV : Hid (szRV 1048576 rs < 0 → szRV 1048576 rs = -1) := fun h => by
    unfold szRV at h ⊢
    split
    · rfl
    · rename_i h2; rw [if_neg h2] at h; exact absurd h h2
  have HS : Hid (¬ szRV 1048576 rs < 0 → rs.length + (allI rs).length ≤ 1048576) := fun h => by
    unfold szRV at h
    split at h <;> omega
  generalize szRV 1048576 rs = z at *
  by_cases hz : z < 0
  · have e := HV.out hz
    subst e
    go_enter Try.func4, Try.ntmps4
    go_wp2_with fail
    refine CS.out.mono ?_
    rintro e w1 ⟨rfl, b1⟩
    go_wp2
    go_ret
    exact ⟨rfl, b1⟩
  have hsz := HS.out hz
  have CT := Lib.hid (fun w h => toReplyS_any A rs c w (by omega) (by omega) h)
  go_enter Try.func4, Try.ntmps4
  go_wp2_with fail
  refine CS.out.mono ?_
  rintro e w1 ⟨rfl, b1⟩
  have k1 := Lib.hid b1
  have r1 := Lib.hid (hA.below b1)
  clear b1
  go_wp2_with fail
  refine (CT.out _ r1.out).mono ?_
  rintro e w2 ⟨P, pc, ps, rfl, vP, oP, _, b2⟩
  have HPL : Hid (ps.length = rs.length) := by show _ = _; have := congrArg List.length vP; simpa using this
  have HPC : Hid (codesV ps = codesV rs) := by show _ = _; rw [codesV_map, codesV_map, vP]
  have C3 := Lib.hid (codes_sp P ps pc w2 (by have := HPL.out; omega) oP.rep)
  rw [HPC.out, HPL.out] at C3
  rw [HPL.out]
  have k2 := Lib.hid (k1.out.trans (b2.mono k1.out.size))
  have r2 := Lib.hid (r1.out.below b2)
  clear b2 oP vP
  have hcl : Hid ((codesV rs).length = rs.length) := by show _ = _; simp [codesV]
  go_wp2_with fail
  refine C3.out.mono ?_
  rintro e w3 ⟨Q, qc, rfl, oQ, b3⟩
  have k3 := Lib.hid (k2.out.trans (b3.mono k2.out.size))
  have r3 := Lib.hid (r2.out.below b3)
  have q3 := Lib.hid oQ
  clear b3 oQ C3
  go_wp2_with fail
  refine (CT.out _ r3.out).mono ?_
  rintro e w4 ⟨X, xc, xs, rfl, vX, oX, apX, b4⟩
  have HXL : Hid (xs.length = rs.length) := by show _ = _; have := congrArg List.length vX; simpa using this
  have HXI : Hid ((allI xs).length = (allI rs).length) := by show _ = _; rw [map_v_all vX]
  have HXC : Hid (codesV xs = codesV rs) := by show _ = _; rw [codesV_map, codesV_map, vX]
  have k4 := Lib.hid (k3.out.trans (b4.mono k3.out.size))
  have r4 := Lib.hid (r3.out.below b4)
  have q4 := Lib.hid (own_below q3.out b4)
  have C5 := Lib.hid (codes_im X xs xc w4 (by have := HXL.out; omega) oX.nil oX.rep)
  rw [HXC.out] at C5
  have x4 := Lib.hid oX
  have L4 := Lib.hid oX.lo
  have AX := Lib.hid apX
  have VX := Lib.hid vX
  have Z4 := Lib.hid b4.size
  clear b4 oX apX vX
  go_wp2_with fail
  refine C5.out.mono ?_
  rintro e w5 ⟨G, gc, rfl, oG, b5⟩
  rw [HXL.out] at oG
  rw [HXL.out]
  have k5 := Lib.hid (k4.out.trans (b5.mono k4.out.size))
  have r5 := Lib.hid (r4.out.below b5)
  have q5 := Lib.hid (own_below q4.out b5)
  have x5 := Lib.hid (x4.out.below b5)
  have g5 := Lib.hid oG
  have C6 := Lib.hid (eqInt_same G Q (codesV rs) gc qc _ _ w5 (by have := hcl.out; omega) (own_rws oG) (own_rws q5.out))
  rw [hcl.out] at C6
  clear b5 oG C5
  go_wp2_with fail
  refine C6.out.mono ?_
  rintro e w6 ⟨rfl, b6⟩
  have k6 := Lib.hid (k5.out.trans (b6.mono k5.out.size))
  have r6 := Lib.hid (r5.out.below b6)
  have q6 := Lib.hid (own_below q5.out b6)
  have x6 := Lib.hid (x5.out.below b6)
  have g6 := Lib.hid (own_below g5.out b6)
  clear b6 C6
  go_wp2_with fail
  refine (CT.out _ r6.out).mono ?_
  rintro e w7 ⟨Y, yc, ys, rfl, vY, oY, _, b7⟩
  have k7 := Lib.hid (k6.out.trans (b7.mono k6.out.size))
  have r7 := Lib.hid (r6.out.below b7)
  have q7 := Lib.hid (own_below q6.out b7)
  have x7 := Lib.hid (x6.out.below b7)
  have g7 := Lib.hid (own_below g6.out b7)
  have C8 := Lib.hid (eqReplyS_same X Y xs ys xc yc w7 (by have := HXL.out; omega) (by have := HXI.out; omega) x7.out.rep oY.rep (VX.out.trans vY.symm))
  rw [HXL.out] at C8
  clear b7 oY vY
  go_wp2_with fail
  refine C8.out.mono ?_
  rintro e w8 ⟨rfl, b8⟩
  have k8 := Lib.hid (k7.out.trans (b8.mono k7.out.size))
  have r8 := Lib.hid (r7.out.below b8)
  have q8 := Lib.hid (own_below q7.out b8)
  have x8 := Lib.hid (x7.out.below b8)
  have g8 := Lib.hid (own_below g7.out b8)
  clear b8 C8
  have C9 := Lib.hid (markReplyS_any X xs xc 1 w3.heap.size w8 (by have := HXL.out; have := HXI.out; omega) (by omega) x8.out AX.out)
  obtain ⟨K, hK⟩ : ∃ K : Nat, 1 + mkN xs xs.length = K := ⟨_, rfl⟩
  rw [hK, HXL.out] at C9
  have nK : ¬ ((K : Int) < 0) := by omega
  clear hK
  go_wp2_with fail
  refine C9.out.mono ?_
  rintro e w9 ⟨rfl, _, t9⟩
  have bt : Below w.heap.size w8 w9 := t9.below k8.out.size (fun q hq => by have h1 := L4.out q hq; have h2 := k3.out.size; omega)
  have k9 := Lib.hid (k8.out.trans bt)
  have hg4 : ∀ q, InR X xs q → q < w4.heap.size := fun q hq => (L4.out q hq).2
  have q9 : Hid (w9.ownsRow w2.heap.size 3 1 (.slice Q rs.length qc) rs.length (ints (codesV rs))) := t9.own q8.out (fun g hg hp => by
    have h1 := (L4.out g hp).1
    have h2 := World.ownsRow.lt q3.out g hg
    omega)
  have g9 : Hid (w9.ownsRow w4.heap.size 3 1 (.slice G rs.length gc) rs.length (ints (codesV rs))) := t9.own g8.out (fun g hg hp => by
    have h1 := hg4 g hp
    have h2 := (World.ownsRow.lt g8.out g hg).1
    omega)
  have r9 : Hid (Rep w9 A rs) := hA.below k9.out
  clear t9 bt C9 x4 x5 x6 x7 x8
  have C10 := Lib.hid (eqInt_same G Q (codesV rs) gc qc _ _ w9 (by have := hcl.out; omega) (own_rws g9.out) (own_rws q9.out))
  rw [hcl.out] at C10
  go_wp2_with fail
  refine C10.out.mono ?_
  rintro e w10 ⟨rfl, b10⟩
  have k10 := Lib.hid (k9.out.trans (b10.mono k9.out.size))
  have q10 := Lib.hid (own_below q9.out b10)
  have g10 := Lib.hid (own_below g9.out b10)
  clear b10 C10
  have C11 := markInt_any G (codesV rs) 1 gc w4.heap.size w10 (by have := hcl.out; omega) (by omega) (by rw [hcl.out]; exact g10.out)
  rw [hcl.out] at C11
  have C11 := Lib.hid C11
  obtain ⟨M, hM⟩ : ∃ M : Nat, 1 + rs.length = M := ⟨_, rfl⟩
  rw [hM] at C11
  have nM : ¬ ((M : Int) < 0) := by omega
  have nN : ((M : Int) != (M : Int)) = false := by simp
  have HM := Lib.hid hM
  clear hM
  go_wp2_with fail
  refine C11.out.mono ?_
  rintro e w11 ⟨rfl, o11, t11⟩
  have bt : Below w.heap.size w10 w11 := (Below.refl _ _).grown t11 k10.out.size (fun q hq => by have h1 := (World.ownsRow.lt g10.out q hq).1; have h2 := k4.out.size; omega)
  have k11 := Lib.hid (k10.out.trans bt)
  have q11 : Hid (w11.ownsRow w2.heap.size 3 1 (.slice Q rs.length qc) rs.length (ints (codesV rs))) := own_kept2 q10.out t11 (fun g h1 h2 => by
    have a1 := World.ownsRow.lt q3.out g h1
    have a2 := (World.ownsRow.lt g10.out g h2).1
    have a3 := Z4.out
    omega)
  have g11 := Lib.hid o11
  clear t11 o11 bt C11
  have C12 := Lib.hid (heldInt_any G 1 rs.length gc w11.heap.size w11 (by omega) (by omega) (own_rws g11.out))
  rw [HM.out] at C12
  go_wp2_with fail
  refine C12.out.mono ?_
  rintro e w12 ⟨rfl, rfl⟩
  have r11 : Hid (Rep w11 A rs) := hA.below k11.out
  go_wp2_with fail
  refine (CT.out _ r11.out).mono ?_
  rintro e w13 ⟨V, vc, vs, rfl, vV, oV, _, b13⟩
  have HVL : Hid (vs.length = rs.length) := by show _ = _; have := congrArg List.length vV; simpa using this
  have HVC : Hid (codesV vs = codesV rs) := by show _ = _; rw [codesV_map, codesV_map, vV]
  have k13 := Lib.hid (k11.out.trans (b13.mono k11.out.size))
  have q13 := Lib.hid (own_below q11.out b13)
  have g13 := Lib.hid (own_below g11.out b13)
  have C14 := Lib.hid (codes_im V vs vc w13 (by have := HVL.out; omega) oV.nil oV.rep)
  rw [HVC.out, HVL.out] at C14
  rw [HVL.out]
  clear b13 oV vV C12
  go_wp2_with fail
  refine C14.out.mono ?_
  rintro e w14 ⟨H, hc, rfl, oH, b14⟩
  have k14 := Lib.hid (k13.out.trans (b14.mono k13.out.size))
  have q14 := Lib.hid (own_below q13.out b14)
  have g14 := Lib.hid (own_below g13.out b14)
  have C15 := Lib.hid (eqInt_same H Q (codesV rs) hc qc _ _ w14 (by have := hcl.out; omega) (own_rws oH) (own_rws q14.out))
  rw [hcl.out] at C15
  clear b14 oH C14
  go_wp2_with fail
  refine C15.out.mono ?_
  rintro e w15 ⟨rfl, b15⟩
  have k15 := Lib.hid (k14.out.trans (b15.mono k14.out.size))
  have g15 := Lib.hid (own_below g14.out b15)
  have C16 := Lib.hid (heldInt_any G 1 rs.length gc w15.heap.size w15 (by omega) (by omega) (own_rws g15.out))
  rw [HM.out] at C16
  clear b15 C15
  go_wp2_with fail
  refine C16.out.mono ?_
  rintro e w16 ⟨rfl, rfl⟩
  go_wp2
  go_ret
  exact ⟨rfl, k15.out⟩
end Go.Proofs.Ytpnkkmeeogfeaaa
