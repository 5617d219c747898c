/- inOrder of the program. -/
import Derived.Test.YtlflgflmlfileaaRows
import Derived.Test.YtlflgflmlfileaaHoK
namespace Go.Proofs.Ytlflgflmlfileaa
open Go.RowKit
set_option linter.unusedSimpArgs false
set_option linter.unusedVariables false
set_option maxRecDepth 100000 in
set_option maxHeartbeats 3200000 in
theorem inOrder_im (b n : Nat) (D : DataW Pt) (S : Int → Prop) (g : Int → Pt) (ks : List Int) (w : World) (hown : w.ownsMap Try.prog 3 ptR b n D) (hn : n ≤ 2097153) (hF : MapF D S g) (hs : ks.Pairwise (· < ·)) (hm : ∀ x, x ∈ ks ↔ S x) (hi : ∀ x ∈ ks, inI x) (hkl : ks.length ≤ 2097153) :
    Calls Try.prog 64 #[.map (some b)] w (NewR 54 10 w (ks.map g).length ((ks.map g).flatMap ptC)) := by
  have hsz : Maps.size D ≤ n := hown.size_le
  have CK := Lib.hid (keys_im (some b) w)
  have CS := Lib.hid (sorted_im b n D w hown (by unfold maxLen; omega) (by omega))
  have HS := Lib.hid (fun ss hp => sorted_is hown hF ks ss hp hs hm)
  have HL := Lib.hid (fun w' (h : Below w.heap.size w w') x (hx : x ∈ ks) => look_pt (own_map_below hown h) hF x ((hm x).1 hx) (hi x hx))
  have hbl := hown.lt
  clear hown hF hs hm hi hsz
  go_enter Try.func64, Try.ntmps64
  go_wp2_with fail
  refine CK.out.mono ?_
  rintro e _ ⟨rfl, rfl⟩
  go_wp2_with fail
  refine CS.out.mono ?_
  rintro e w1 ⟨v, ss, rfl, hp, o1, b1⟩
  have hlen : ss.length = ks.length := by have := congrArg List.length (HS.out ss hp); rw [List.length_mergeSort] at this; exact this
  rw [HS.out ss hp] at o1
  rw [hlen] at o1
  obtain ⟨KA, kc, rfl, _⟩ := own_form o1
  have B1 := Lib.hid b1
  have HR := Lib.hid (own_rws o1)
  clear CK CS HS hp b1 hlen o1
  go_wp2
  go_loopw [3, 10] (fun v i wr => ∃ k : Nat, k ≤ ks.length ∧ i = .int .i64 k ∧ Hid (wr.ownsRow w1.heap.size 54 10 v k (((ks.take k).map g).flatMap ptC)) ∧ Hid (Below w1.heap.size w1 wr)) (fun _ i _ => ks.length - (intOf i).toNat)
  case atStart => exact ⟨0, by omega, rfl, World.ownsRow_nil _ _ _ _, Below.refl _ _⟩
  case round =>
    obtain ⟨k, hk, rfl, ho, hb⟩ := hrel
    by_cases hlt : k < ks.length
    · have hR : Rws wr wr.heap.size KA (ints ks) := (rws_below HR.out hb.out)
      obtain ⟨kb, off, rfl, hbB, hc⟩ := hR.int hlt
      clear hR
      have HT : Hid ((((ks.take (k + 1)).map g).flatMap ptC) = ((ks.take k).map g).flatMap ptC ++ ptC (g (ks.getD k 0))) := by
        show _ = _
        rw [take_succ_getD ks k 0 hlt, List.map_append, List.flatMap_append]
        simp
      have hlook := HL.out wr (B1.out.trans (hb.out.mono B1.out.size)) (ks.getD k 0) (getD_mem ks k 0 hlt)
      have hfl : (((ks.take k).map g).flatMap ptC).length = k * 10 := by rw [flat_len ptC 10 ptC_len, List.length_map, List.length_take, Nat.min_eq_left hk]
      generalize ((ks.take k).map g).flatMap ptC = Q at *
      generalize g (ks.getD k 0) = p at *
      generalize ks.getD k 0 = x at *
      have RN : Hid (Rws (wr.alloc (.cells #[.int .i64 p.id, .int .i64 p.cabin, .int .i64 p.from_, .int .i64 p.size, .int .i64 p.tier, .int .i64 p.since, .int .i64 p.turn, .int .i64 p.state, .int .i64 p.until_, .int .i64 p.asked] 54)) (wr.heap.size + 1) (some ⟨wr.heap.size, 0, none⟩) (ptC p)) := Rws.new wr (ptC p) 54
      have O1 := Lib.hid (World.ownsRow.alloc ho.out (.cells #[.int .i64 p.id, .int .i64 p.cabin, .int .i64 p.from_, .int .i64 p.size, .int .i64 p.tier, .int .i64 p.since, .int .i64 p.turn, .int .i64 p.state, .int .i64 p.until_, .int .i64 p.asked] 54))
      have xA : Below wr.heap.size wr (wr.alloc (.cells #[.int .i64 p.id, .int .i64 p.cabin, .int .i64 p.from_, .int .i64 p.size, .int .i64 p.tier, .int .i64 p.since, .int .i64 p.turn, .int .i64 p.state, .int .i64 p.until_, .int .i64 p.asked] 54)) := (Below.refl _ _).alloc (Nat.le_refl _) _
      have bA := Lib.hid (hb.out.trans (xA.mono hb.out.size))
      have hsw := hb.out.size
      have HFL := Lib.hid hfl
      have HO := Lib.hid ho.out
      unfold ptA at hlook
      clear xA ho hb hfl HL
      go_wp2_with (at_builtin; refine wpList_appR rowPty _ rfl (.tmp 14) (.tmp 18) rfl w1.heap.size _ k Q rfl O1.out _ (some ⟨wr.heap.size, 0, none⟩) 1 1 (ptC p) rfl rfl RN.out (fun h => by cases h) (by intro z hz; exact ptC_one [p] z (by simpa using hz)) (by omega) (by simp; omega) ?_)
      intro v2 w2 o2 g2
      have O2 : Hid (w2.ownsRow w1.heap.size 54 10 v2 (k + 1) (((ks.take (k + 1)).map g).flatMap ptC)) := by show w2.ownsRow _ _ _ _ _ _; rw [HT.out]; exact o2
      have B2 := Lib.hid (bA.out.grown g2 bA.out.size (own_low O1.out))
      clear o2 g2 O1 RN bA HT HFL HO
      go_wp2
      go_roundw
      case rel => exact ⟨k + 1, by omega, by go_num, O2, B2⟩
      case measure => simp [intOf]; omega
    · obtain rfl : k = ks.length := by omega
      have R : Hid (NewR 54 10 w (ks.map g).length ((ks.map g).flatMap ptC) (.returned u3) wr) := by
        have ho := ho.out
        rw [List.take_length] at ho
        show NewR _ _ _ _ _ _ _
        rw [List.length_map]
        exact NewR.of_own (own_weak ho B1.out.size) (B1.out.trans (hb.out.mono B1.out.size))
      clear ho hb
      go_wp2
      go_ret
      exact R.out
end Go.Proofs.Ytlflgflmlfileaa
