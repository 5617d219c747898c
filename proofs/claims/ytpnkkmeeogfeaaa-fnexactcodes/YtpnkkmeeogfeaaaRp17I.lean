/- Scratch. -/
import Derived.Test.YtpnkkmeeogfeaaaRows
import Derived.Test.YtpnkkmeeogfeaaaRp17
namespace Go.Proofs.Ytpnkkmeeogfeaaa
open Go.RowKit
set_option linter.unusedSimpArgs false
set_option linter.unusedVariables false
set_option maxRecDepth 100000 in
set_option maxHeartbeats 1600000 in
theorem codes_im (A : Option Addr) (rs : List Rp) (c : Nat) (w : World) (hn : rs.length ≤ 2097152) (hN : A = none → c = 0) (hA : Rep w A rs) :
    Calls Try.prog 13 #[.slice A rs.length c] w (NewR 3 1 w rs.length (ints (codesV rs))) := by
  have O0 : Hid (w.ownsRow w.heap.size 3 1 (.slice none 0 0) 0 (ints (codesV (rs.take 0)))) := World.ownsRow_nil _ _ _ _
  have B0 : Hid (Below w.heap.size w w) := Below.refl _ _
  go_enter Try.func13, Try.ntmps13
  go_wp2_with fail
  go_loopw [3, 8] (fun v i wr => ∃ (k : Nat), k ≤ rs.length ∧ i = .int .i64 k ∧ wr.ownsRow w.heap.size 3 1 v k (ints (codesV (rs.take k))) ∧ Below w.heap.size w wr) (fun _ i _ => rs.length - (intOf i).toNat)
  case atStart => exact ⟨0, by omega, rfl, O0.out, B0.out⟩
  case round =>
    clear O0 B0
    obtain ⟨k, hk, rfl, hown, hb⟩ := hrel
    by_cases hlt : k < rs.length
    · obtain ⟨b, off, rfl, hbB, c0, c1⟩ := (hA.below hb).row.rp hlt
      have HE := Lib.hid (codesV_take rs k hlt)
      generalize (rs.getD k rp0).code = z at *
      generalize (rs.getD k rp0).a = a at *
      generalize (rs.getD k rp0).l.length = m at *
      generalize (rs.getD k rp0).c = d at *
      generalize codesV (rs.take k) = xs at *
      have O1 := World.ownsRow.alloc hown (.cells #[.int .i64 z, .slice a m d] 27)
      have X1 : Below w.heap.size w (wr.alloc (.cells #[.int .i64 z, .slice a m d] 27)) := hb.alloc hb.size _
      have O3 := Lib.hid (World.ownsRow.alloc O1 (.cells #[.int .i64 z] 3))
      have R3 : Hid (Rws ((wr.alloc (.cells #[.int .i64 z, .slice a m d] 27)).alloc (.cells #[.int .i64 z] 3)) (wr.heap.size + 2) (some ⟨wr.heap.size + 1, 0, none⟩) [.int .i64 z]) := by
        have R := Rws.new (wr.alloc (.cells #[.int .i64 z, .slice a m d] 27)) [.int .i64 z] 3
        rw [show (wr.alloc (.cells #[.int .i64 z, .slice a m d] 27)).heap.size = wr.heap.size + 1 from by simp] at R
        exact R
      have X3 : Hid (Below w.heap.size w ((wr.alloc (.cells #[.int .i64 z, .slice a m d] 27)).alloc (.cells #[.int .i64 z] 3))) := X1.alloc X1.size _
      have hbs := hb.size
      have HL := Lib.hid (own_low hown)
      clear hown hb O1 X1
      go_wp2_with (at_builtin; refine wpList_appR rowInt _ rfl (.tmp 12) (.tmp 15) rfl w.heap.size _ k (ints xs) rfl O3.out (wr.heap.size + 2) (some ⟨wr.heap.size + 1, 0, none⟩) 1 1 [.int .i64 z] rfl rfl R3.out (fun h => by cases h) (fun u hu => by simp at hu; rw [hu]; rfl) (by omega) (by simp; omega) ?_)
      intro v' w2 o2 g2
      have HO : Hid (w2.ownsRow w.heap.size 3 1 v' (k + 1) (ints (codesV (rs.take (k + 1))))) := by
        show World.ownsRow _ _ _ _ _ _ _
        rw [HE.out, ints_append]; exact o2
      have HB : Hid (Below w.heap.size w w2) := X3.out.grown g2 (by simp; omega) HL.out
      clear o2 g2 O3 R3 X3 HL HE c0 c1
      go_wp2
      go_roundw
      case rel => exact ⟨k + 1, by omega, by go_num, HO.out, HB.out⟩
      case measure => simp [intOf]; omega
    · obtain rfl : k = rs.length := by omega
      rw [List.take_length] at hown
      have HN := Lib.hid (NewR.of_own hown hb)
      clear hown hb
      go_wp2
      go_ret
      exact HN.out
set_option maxRecDepth 100000 in
set_option maxHeartbeats 800000 in
theorem sameReply_im (s t : Rp) (w : World) (hl : s.l.length ≤ 2097152) (hl' : t.l.length ≤ 2097152) (hs : s.ok w) (ht : t.ok w) :
    Calls Try.prog 8 #[rpA s, rpA t] w fun e w' => e = .returned (.bool (decide (s.v = t.v))) ∧ Below w.heap.size w w' := by
  have hA := hs.row
  have hA' := ht.row
  clear hs ht
  obtain ⟨x, a, c, l⟩ := s
  obtain ⟨x', a', c', l'⟩ := t
  have HV : Hid (decide ((⟨x, a, c, l⟩ : Rp).v = (⟨x', a', c', l'⟩ : Rp).v) = decide (x = x' ∧ l = l')) := by show _ = _; unfold Rp.v; simp
  have b0 : Below w.heap.size w ((w.alloc (.cells #[.int .i64 x, .slice a l.length c] 27)).alloc (.cells #[.int .i64 x', .slice a' l'.length c'] 27)) := ((Below.refl _ _).alloc (Nat.le_refl _) _).alloc (by simp) _
  have C := Lib.hid (equal_ints a a' l l' c c' ((w.alloc (.cells #[.int .i64 x, .slice a l.length c] 27)).alloc (.cells #[.int .i64 x', .slice a' l'.length c'] 27)) (by simp only at hl; omega) (by simp only at hl'; omega) ((hA.below b0).more b0.size) ((hA'.below b0).more b0.size))
  have B0 := Lib.hid b0
  clear b0
  rw [HV.out]
  unfold rpA
  by_cases hx : x = x'
  · subst hx
    have n0 : (x == x) = true := by simp
    have HD : Hid (decide (x = x ∧ l = l') = decide (l = l')) := by show _ = _; simp
    rw [HD.out]
    generalize decide (l = l') = bb at *
    go_enter Try.func8, Try.ntmps8
    go_wp2_with fail
    refine C.out.mono ?_
    rintro e w1 ⟨rfl, b1⟩
    have B1 := Lib.hid (B0.out.trans (b1.mono B0.out.size))
    clear b1 C
    go_wp2
    go_ret
    exact ⟨rfl, B1.out⟩
  · have n0 : (x == x') = false := by simp; exact hx
    have HD : Hid (decide (x = x' ∧ l = l') = false) := by show _ = _; simp [hx]
    rw [HD.out]
    clear hx
    go_enter Try.func8, Try.ntmps8
    go_wp2
    go_ret
    exact ⟨rfl, B0.out⟩
end Go.Proofs.Ytpnkkmeeogfeaaa
