/- Scratch. -/
import Derived.Test.YtpnkkmeeogfeaaaRows
import Derived.Test.YtpnkkmeeogfeaaaRpN
namespace Go.Proofs.Ytpnkkmeeogfeaaa
open Go.RowKit
set_option linter.unusedSimpArgs false
set_option linter.unusedVariables false
def codesV (rs : List Rp) : List Int := rs.map (·.code)
theorem codesV_take (rs : List Rp) (k : Nat) (h : k < rs.length) : codesV (rs.take (k + 1)) = codesV (rs.take k) ++ [(rs.getD k rp0).code] := by
  unfold codesV; rw [take_succ_getD rs k rp0 h, List.map_append]; rfl
theorem codesV_map (rs : List Rp) : codesV rs = (rs.map Rp.v).map (·.1) := by unfold codesV; rw [List.map_map]; rfl
set_option maxRecDepth 100000 in
set_option maxHeartbeats 1600000 in
theorem codes_sp (A : Option Addr) (rs : List Rp) (c : Nat) (w : World) (hn : rs.length ≤ 2097152) (hA : Rep w A rs) :
    Calls Try.prog 11 #[.slice A rs.length c] w (NewR 3 1 w rs.length (ints (codesV rs))) := by
  have O0 := Lib.hid (own_empty w w.heap.size 3 1 (Nat.le_refl _))
  have B0 : Hid (Below w.heap.size w (w.alloc (.cells #[] 3))) := (Below.refl _ _).alloc (Nat.le_refl _) _
  go_enter Try.func11, Try.ntmps11
  go_wp2_with fail
  go_loopw [3, 4] (fun v i wr => ∃ (k : Nat), k ≤ rs.length ∧ i = .int .i64 k ∧ wr.ownsRow w.heap.size 3 1 v k (ints (codesV (rs.take k))) ∧ Below w.heap.size w wr) (fun _ i _ => rs.length - (intOf i).toNat)
  case atStart => exact ⟨0, by omega, rfl, O0.out, B0.out⟩
  case round =>
    clear O0 B0
    obtain ⟨k, hk, rfl, hown, hb⟩ := hrel
    by_cases hlt : k < rs.length
    · obtain ⟨b, off, rfl, hbB, c0, c1⟩ := (hA.below hb).row.rp hlt
      have HE := Lib.hid (codesV_take rs k hlt)
      generalize (rs.getD k rp0).code = z at *
      clear c1
      generalize codesV (rs.take k) = xs at *
      have O3 := Lib.hid (World.ownsRow.alloc hown (.cells #[.int .i64 z] 3))
      have R3 := Lib.hid (Rws.new wr [.int .i64 z] 3)
      have X3 : Hid (Below w.heap.size w (wr.alloc (.cells #[.int .i64 z] 3))) := hb.alloc hb.size _
      have hbs := hb.size
      have HL := Lib.hid (own_low hown)
      clear hown hb
      go_wp2_with (at_builtin; refine wpList_appR rowInt _ rfl (.tmp 12) (.tmp 18) rfl w.heap.size _ k (ints xs) rfl O3.out (wr.heap.size + 1) (some ⟨wr.heap.size, 0, none⟩) 1 1 [.int .i64 z] rfl rfl R3.out (fun h => by cases h) (fun u hu => by simp at hu; rw [hu]; rfl) (by omega) (by simp; omega) ?_)
      intro v' w2 o2 g2
      have HO : Hid (w2.ownsRow w.heap.size 3 1 v' (k + 1) (ints (codesV (rs.take (k + 1))))) := by
        show World.ownsRow _ _ _ _ _ _ _
        rw [HE.out, ints_append]; exact o2
      have HB : Hid (Below w.heap.size w w2) := X3.out.grown g2 (by simp; omega) HL.out
      clear o2 g2 O3 R3 X3 HL HE c0
      go_wp2
      go_roundw
      case rel => exact ⟨k + 1, by omega, by go_num, HO.out, HB.out⟩
      case measure => simp [intOf]; omega
    · obtain rfl : k = rs.length := by omega
      rw [List.take_length] at hown
      have HN := Lib.hid (NewR.of_own hown hb)
      clear hown hb
      go_wp2
      go_ret
      exact HN.out
set_option maxRecDepth 100000 in
set_option maxHeartbeats 800000 in
theorem sameReply_sp (s t : Rp) (w : World) (hl : s.l.length ≤ 2097152) (hl' : t.l.length ≤ 2097152) (hA : Rws w w.heap.size s.a (ints s.l)) (hA' : Rws w w.heap.size t.a (ints t.l)) :
    Calls Try.prog 6 #[rpA s, rpA t] w fun e w' => e = .returned (.bool (decide (s.v = t.v))) ∧ Below w.heap.size w w' := by
  obtain ⟨x, a, c, l⟩ := s
  obtain ⟨x', a', c', l'⟩ := t
  have HV : Hid (decide ((⟨x, a, c, l⟩ : Rp).v = (⟨x', a', c', l'⟩ : Rp).v) = decide (x = x' ∧ l = l')) := by show _ = _; unfold Rp.v; simp
  have b0 : Below w.heap.size w ((w.alloc (.cells #[.int .i64 x, .slice a l.length c] 27)).alloc (.cells #[.int .i64 x', .slice a' l'.length c'] 27)) := ((Below.refl _ _).alloc (Nat.le_refl _) _).alloc (by simp) _
  have C := Lib.hid (l1Same_spec a a' l l' c c' ((w.alloc (.cells #[.int .i64 x, .slice a l.length c] 27)).alloc (.cells #[.int .i64 x', .slice a' l'.length c'] 27)) hl (by simp only at hl'; omega) ((hA.below b0).more b0.size) ((hA'.below b0).more b0.size))
  have B0 := Lib.hid b0
  clear b0
  rw [HV.out]
  unfold rpA
  by_cases hx : x = x'
  · subst hx
    have n0 : (x == x) = true := by simp
    have HD : Hid (decide (x = x ∧ l = l') = decide (l = l')) := by show _ = _; simp
    rw [HD.out]
    generalize decide (l = l') = bb at *
    go_enter Try.func6, Try.ntmps6
    go_wp2_with fail
    refine C.out.mono ?_
    rintro e w1 ⟨rfl, b1⟩
    have B1 := Lib.hid (B0.out.trans (b1.mono B0.out.size))
    clear b1 C
    go_wp2
    go_ret
    exact ⟨rfl, B1.out⟩
  · have n0 : (x == x') = false := by simp; exact hx
    have HD : Hid (decide (x = x' ∧ l = l') = false) := by show _ = _; simp [hx]
    rw [HD.out]
    clear hx
    go_enter Try.func6, Try.ntmps6
    go_wp2
    go_ret
    exact ⟨rfl, B0.out⟩
end Go.Proofs.Ytpnkkmeeogfeaaa
