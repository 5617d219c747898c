/- Scratch. -/
import Derived.Test.YtpnkkmeeogfeaaaRows
import Derived.Test.YtpnkkmeeogfeaaaRpL
namespace Go.Proofs.Ytpnkkmeeogfeaaa
open Go.RowKit
set_option linter.unusedSimpArgs false
set_option linter.unusedVariables false
set_option maxRecDepth 100000 in
set_option maxHeartbeats 1600000 in
theorem toReply_any (s : Rp) (w : World) (hl : s.l.length ≤ 2097152) (hA : Rws w w.heap.size s.a (ints s.l)) : Calls Try.prog 7 #[rpA s] w (NewR1 w s.v) := by
  obtain ⟨W3, hW3⟩ : ∃ W3, ((w.alloc (.cells #[.int .i64 s.code, .slice s.a s.l.length s.c] 24)).alloc (.cells #[.int .i64 0, .slice none 0 0] 27)).alloc (.cells #[.int .i64 s.code, .slice none 0 0] 27) = W3 := ⟨_, rfl⟩
  have T3 : Three w W3 (.cells #[.int .i64 s.code, .slice s.a s.l.length s.c] 24) (.cells #[.int .i64 0, .slice none 0 0] 27) (.cells #[.int .i64 s.code, .slice none 0 0] 27) := by rw [← hW3]; exact Three.make w _ _ _
  have b3 := T3.2.2.2
  have C := Lib.hid (toInt_any s.a s.l s.c W3.heap.size W3 hl ((hA.below b3).more b3.size) (Nat.le_refl _))
  have hs3 : W3.heap.size = w.heap.size + 3 := by rw [← hW3]; simp
  have O := own_ints W3 W3.heap.size s.l (Nat.le_refl _) hl
  have b4 : Below W3.heap.size W3 (W3.alloc (.cells (ints s.l).toArray 3)) := (Below.refl _ _).alloc (Nat.le_refl _) _
  have T4 := Three.call T3 b4
  clear b3 T3 b4 hA
  obtain ⟨W4, hW4⟩ : ∃ W4, W3.alloc (.cells (ints s.l).toArray 3) = W4 := ⟨_, rfl⟩
  rw [hW4] at C O T4
  have HW := Lib.hid hW3
  clear hW3 hW4
  have c0 := cell_of_row _ _ 0 _ _ _ T4.2.2.1
  have d0 := frozen_of_row _ _ 0 _ _ T4.2.2.1
  have c1 := cell_of_row _ _ 1 _ _ _ T4.2.2.1
  have d1 := frozen_of_row _ _ 1 _ _ T4.2.2.1
  have r0 := cell_of_row _ _ 0 _ _ _ T4.2.1
  have z0 := frozen_of_row _ _ 0 _ _ T4.2.1
  have r1 := cell_of_row _ _ 1 _ _ _ T4.2.1
  have z1 := frozen_of_row _ _ 1 _ _ T4.2.1
  simp at c0 c1 r0 r1
  have bW := Lib.hid T4.2.2.2
  have HO := Lib.hid O
  rw [hs3] at C
  rw [hs3] at HO
  clear T4 O hs3
  unfold rpA
  go_enter Try.func7, Try.ntmps7
  go_wp2_with fail
  rw [HW.out]
  refine C.out.mono ?_
  rintro e w' ⟨rfl, rfl⟩
  go_wp2
  simp [bodyPost, results, Try.results7, go_sem, c0, c1, r0, r1]
  refine ⟨⟨s.code, some ⟨w.heap.size + 3, 0, none⟩, s.l.length, s.l⟩, rfl, rfl, own_weak (B := w.heap.size) (base := w.heap.size + 3) ?_ (by omega), ?_⟩
  · show World.ownsRow _ _ 3 1 (.slice (some ⟨w.heap.size + 3, 0, none⟩) s.l.length s.l.length) s.l.length (ints s.l)
    repeat refine own_set ?_ (by omega)
    exact HO.out
  · repeat refine Below.setCell ?_ (by simp <;> omega) _
    exact bW.out
/-- toReplyS halfway: the replies rq are laid over the cells Z. -/
def halfR (Z : List Value) (rq : List Rp) : List Value := rq.flatMap rpC ++ Z.drop (rq.length * 2)
theorem rpC_flat_len (rq : List Rp) : (rq.flatMap rpC).length = rq.length * 2 := flat_len rpC 2 rpC_len rq
theorem halfR_set (Z : List Value) (rq : List Rp) (s : Rp) (h : rq.length * 2 + 1 < Z.length) : ((halfR Z rq).set (rq.length * 2) (.int .i64 s.code)).set (rq.length * 2 + 1) (.slice s.a s.l.length s.c) = halfR Z (rq ++ [s]) := by
  unfold halfR
  obtain ⟨x, y, r, hd⟩ : ∃ x y r, Z.drop (rq.length * 2) = x :: y :: r := by
    have : 2 ≤ (Z.drop (rq.length * 2)).length := by rw [List.length_drop]; omega
    match h : Z.drop (rq.length * 2), this with
    | x :: y :: r, _ => exact ⟨x, y, r, rfl⟩
  have hd2 : Z.drop ((rq ++ [s]).length * 2) = r := by
    rw [List.length_append, List.length_singleton, show (rq.length + 1) * 2 = rq.length * 2 + 2 by omega, ← List.drop_drop, hd]; rfl
  rw [hd, hd2, List.flatMap_append, List.set_append_right _ _ (by rw [rpC_flat_len]; omega), rpC_flat_len, Nat.sub_self, List.set_cons_zero, List.set_append_right _ _ (by rw [rpC_flat_len]; omega), rpC_flat_len, show rq.length * 2 + 1 - rq.length * 2 = 1 by omega, List.append_assoc]
  rfl
theorem halfR_len (Z : List Value) (rq : List Rp) (h : rq.length * 2 ≤ Z.length) : (halfR Z rq).length = Z.length := by
  unfold halfR; rw [List.length_append, rpC_flat_len, List.length_drop]; omega
set_option maxRecDepth 100000 in
set_option maxHeartbeats 1600000 in
theorem toReplyS_any (A : Option Addr) (rs : List Rp) (c : Nat) (w : World) (hn : rs.length ≤ 2097152) (hl : (allI rs).length ≤ 2097152) (hA : Rep w A rs) :
    Calls Try.prog 12 #[.slice A rs.length c] w (NewRp w (rs.map Rp.v)) := by
  obtain ⟨i0, hi, hz0, hz1, hz2⟩ := info_parts rowRp.inf
  obtain ⟨w1, hmk, o1, g1⟩ := run_make_full (P := Try.prog) w w.heap.size 33 27 i0 _ 2 Try.underlying33 hi hz0 hz1 .i64 .i64 rs.length (by rw [hz2]; omega) (by unfold maxLen; omega) (Nat.le_refl _)
  have b1 : Below w.heap.size w w1 := (Below.refl _ _).grown g1 (Nat.le_refl _) (fun k hk => by cases hk)
  have hZ := o1.1
  generalize hZe : (madeCells (Value.cells (.agg #[.int .i64 0, .slice none 0 0])) (rs.length * 2)).toList = Z at *
  clear hi hz0 hz1 hz2 g1 hZe
  go_enter Try.func12, Try.ntmps12
  go_wp2
  go_loopw [4] (fun i wr => ∃ (k : Nat) (rq : List Rp), k ≤ rs.length ∧ i = .int .i64 k ∧ rq.length = k ∧ Hid (rq.map Rp.v = (rs.take k).map Rp.v) ∧ Hid (wr.ownsRow w.heap.size 27 2 (.slice (some ⟨w.heap.size, 0, none⟩) rs.length rs.length) rs.length (halfR Z rq)) ∧ Hid (∀ s ∈ rq, s.own wr w.heap.size) ∧ Hid (ApartR rq) ∧ Hid (Below w.heap.size w wr)) (fun i _ => rs.length - (intOf i).toNat)
  case atStart => exact ⟨0, [], by omega, rfl, rfl, rfl, (by show World.ownsRow _ _ _ _ _ _ _; simpa [halfR] using o1), (fun s hs => by cases hs), ApartR.nil, b1⟩
  case round =>
    clear hmk o1 b1
    obtain ⟨k, rq, hk, rfl, hsk, hmap, hown, hin, hap, hb⟩ := hrel
    by_cases hlt : k < rs.length
    · have hW := hA.below hb.out
      have hs := (hW.at_ hlt).row
      obtain ⟨b, off, rfl, hbB, c0, c1⟩ := hW.row.rp hlt
      have hsl := atI_le rs hlt
      have HM : Hid (∀ s : Rp, s.v = (rs.getD k rp0).v → (rq ++ [s]).map Rp.v = (rs.take (k + 1)).map Rp.v) := fun s h => by
        rw [take_succ_getD rs k rp0 hlt, List.map_append, List.map_append, hmap.out]
        simp [h]
      generalize rs.getD k rp0 = s at *
      have C := Lib.hid (toReply_any s wr (by omega) hs)
      unfold rpA at C
      clear hs hW hmap
      go_wp2_with fail
      refine C.out.mono ?_
      rintro e w2 ⟨⟨z0, D, d, zl⟩, rfl, hv, o2, b2⟩
      unfold rpA
      have O2 := Lib.hid o2
      have B2 := Lib.hid b2
      have HV := Lib.hid hv
      have own1 := own_below hown.out b2
      have hlh := halfR_len Z rq (by omega)
      obtain ⟨u0, hu0⟩ : ∃ u, w2.cell? ⟨w.heap.size, k * 2, none⟩ = some u := by rw [own1.cellAt _ (by omega)]; exact ⟨_, List.getElem?_eq_getElem (by omega)⟩
      have hf0 := own1.frozenAt (k * 2)
      obtain ⟨u1, hu1⟩ : ∃ u, w2.cell? ⟨w.heap.size, k * 2 + 1, none⟩ = some u := by rw [own1.cellAt _ (by omega)]; exact ⟨_, List.getElem?_eq_getElem (by omega)⟩
      have hf1 := own1.frozenAt (k * 2 + 1)
      have S0 := own1.stored (k * 2) (.int .i64 z0)
      have S1 := S0.1.stored (k * 2 + 1) (.slice D zl.length d)
      have B3 : Hid (Below w.heap.size w ((w2.setCell ⟨w.heap.size, k * 2, none⟩ (.int .i64 z0)).setCell ⟨w.heap.size, k * 2 + 1, none⟩ (.slice D zl.length d))) := ((hb.out.trans (b2.mono hb.out.size)).setCell (p := ⟨w.heap.size, k * 2, none⟩) (by simp) _).setCell (p := ⟨w.heap.size, k * 2 + 1, none⟩) (by simp) _
      have SN : Hid (((w2.setCell ⟨w.heap.size, k * 2, none⟩ (.int .i64 z0)).setCell ⟨w.heap.size, k * 2 + 1, none⟩ (.slice D zl.length d)).ownsRow w.heap.size 27 2 (.slice (some ⟨w.heap.size, 0, none⟩) rs.length rs.length) rs.length (halfR Z (rq ++ [⟨z0, D, d, zl⟩]))) := by
        have h1 := S1.1
        rw [← hsk] at h1
        rw [halfR_set Z rq ⟨z0, D, d, zl⟩ (by omega), hsk] at h1
        exact h1
      have hty : ∃ cur, w2.heap[w.heap.size]? = some (.cells cur 27 (0, 0)) := own_typed2 own1 w.heap.size rfl
      have HI : Hid (∀ x ∈ rq ++ [⟨z0, D, d, zl⟩], Rp.own ((w2.setCell ⟨w.heap.size, k * 2, none⟩ (.int .i64 z0)).setCell ⟨w.heap.size, k * 2 + 1, none⟩ (.slice D zl.length d)) w.heap.size x) := by
        intro x hx
        obtain ⟨cur, hcur⟩ := hty
        have hx2 : x.own w2 w.heap.size := by
          rcases List.mem_append.1 hx with h | h
          · exact own_below (hin.out x h) b2
          · have : x = ⟨z0, D, d, zl⟩ := by simpa using h
            subst this
            exact own_weak o2 hb.out.size
        have hx3 := hx2.kept (Go.Lib.grownBy_setCell w2 w.heap.size (k * 2) (.int .i64 z0)) (.inr (own_ne_type hx2 hcur (by decide)))
        exact hx3.kept (Go.Lib.grownBy_setCell _ w.heap.size (k * 2 + 1) _) (.inr (own_ne_type hx2 hcur (by decide)))
      have HP : Hid (ApartR (rq ++ [⟨z0, D, d, zl⟩])) := ApartR.one hap.out (fun x hx g h1 h2 => by
        have l1 := (World.ownsRow.lt (hin.out x hx) g (by rw [ownBlock_eq]; exact h1)).2
        have l2 := (World.ownsRow.lt o2 g (by rw [ownBlock_eq]; exact h2)).1
        omega)
      have HM2 := Lib.hid (HM.out ⟨z0, D, d, zl⟩ hv)
      clear o2 b2 own1 S0 S1 hty C hin hap hown HM O2 B2 c0 c1 hv
      go_wp2
      go_roundw
      case rel => exact ⟨k + 1, rq ++ [⟨z0, D, d, zl⟩], by omega, by go_num, by simp [hsk], HM2, SN, HI, HP, B3⟩
      case measure => simp [intOf]; omega
    · obtain rfl : k = rs.length := by omega
      have R : Hid (NewRp w (rs.map Rp.v) (.returned (.slice (some ⟨w.heap.size, 0, none⟩) rs.length rs.length)) wr) := by
        refine ⟨_, rs.length, rq, by rw [hsk], ?_, ⟨?_, hin.out⟩, hap.out, hb.out⟩
        · have := hmap.out; rw [List.take_length] at this; exact this
        · have h1 := hown.out
          unfold halfR at h1
          rw [List.drop_of_length_le (by omega), List.append_nil] at h1
          rw [hsk]; exact h1
      clear hin hown hap hb hmap
      go_wp2
      go_ret
      exact R.out
end Go.Proofs.Ytpnkkmeeogfeaaa
