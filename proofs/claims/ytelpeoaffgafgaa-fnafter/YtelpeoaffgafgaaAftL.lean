/- The helpers of the laws over a slice of frames that came in. -/
import Derived.Test.YtelpeoaffgafgaaRows
import Derived.Test.YtelpeoaffgafgaaAft
namespace Go.Proofs.Ytelpeoaffgafgaa
open Go.RowKit
set_option maxRecDepth 100000 in
theorem szFrame_any (f : Fr) (q : Int) (w : World) (hq : 0 ≤ q) (hq2 : q ≤ 1048576) (hf : f.body.size ≤ 9223372036854775807) :
    Calls Try.prog 57 #[frA f, .int .i64 q] w fun e w' => (∃ r : Int, e = .returned (.int .i64 r) ∧ r ≤ 1048576 ∧ -1 ≤ r) ∧ Below w.heap.size w w' := by
  unfold frA
  by_cases h : q - f.body.size < 0
  · go_enter Try.func57, Try.ntmps57
    go_wp2
    go_ret
    exact ⟨⟨_, rfl, by omega, by omega⟩, (Below.refl _ _).alloc (Nat.le_refl _) _⟩
  · go_enter Try.func57, Try.ntmps57
    go_wp2
    go_ret
    exact ⟨⟨_, rfl, by omega, by omega⟩, (Below.refl _ _).alloc (Nat.le_refl _) _⟩
/-- Every body of the list is a string. -/
def FrSz (l : List Fr) : Prop := ∀ f ∈ l, f.body.size ≤ 9223372036854775807
theorem FrSz.getD {l : List Fr} (h : FrSz l) {k : Nat} (hk : k < l.length) : (l.getD k fr0).body.size ≤ 9223372036854775807 := by
  rw [List.getD_eq_getElem?_getD, List.getElem?_eq_getElem hk]; exact h _ (List.getElem_mem hk)
set_option maxRecDepth 100000 in
set_option maxHeartbeats 400000 in
theorem szFrS_any (A : Option Addr) (l : List Fr) (c : Nat) (w : World) (hl : l.length ≤ 9223372036854775807) (hA : Rws w w.heap.size A (l.flatMap frC)) (hz : FrSz l) :
    Calls Try.prog 31 #[.slice A l.length c, .int .i64 1048576] w fun e w' => (∃ r : Int, e = .returned (.int .i64 r) ∧ (0 ≤ r → l.length ≤ 1048576)) ∧ Below w.heap.size w w' := by
  by_cases hbig : 1048576 < l.length
  · have h0 : (1048576 : Int) - l.length < 0 := by omega
    go_enter Try.func31, Try.ntmps31
    go_wp2
    go_ret
    exact ⟨⟨_, rfl, fun h => by omega⟩, Below.refl _ _⟩
  · have h0 : ¬ (1048576 : Int) - l.length < 0 := by omega
    go_enter Try.func31, Try.ntmps31
    go_wp2
    go_loopw [1, 5] (fun q i wr => ∃ (k : Nat) (z : Int), k ≤ l.length ∧ i = .int .i64 k ∧ q = .int .i64 z ∧ 0 ≤ z ∧ z ≤ 1048576 ∧ Below w.heap.size w wr) (fun _ i _ => l.length - (intOf i).toNat)
    case atStart => exact ⟨0, _, by omega, rfl, rfl, by omega, by omega, Below.refl _ _⟩
    case round =>
      obtain ⟨k, z, hk, rfl, rfl, hz1, hz2, hb⟩ := hrel
      by_cases hlt : k < l.length
      · obtain ⟨b, off, rfl, hbB, c0, c1, c2⟩ := (hA.below hb).fr hlt
        have C := Lib.hid (fun w => szFrame_any (l.getD k fr0) z w hz1 hz2 (hz.getD hlt))
        unfold frA at C
        generalize l.getD k fr0 = x at *
        go_wp2_with fail
        refine (C.out _).mono ?_
        rintro e w1 ⟨⟨r, rfl, hr1, hr2⟩, b1⟩
        have b2 : Hid (Below w.heap.size w w1) := hb.trans (b1.mono hb.size)
        clear b1 hb c0 c1 c2
        by_cases hr : r < 0
        · go_wp2
          go_ret
          exact ⟨⟨_, rfl, fun h => by omega⟩, b2.out⟩
        · go_wp2
          go_roundw
          case rel => exact ⟨k + 1, r, by omega, by go_num, rfl, by omega, by omega, b2.out⟩
          case measure => simp [intOf]; omega
      · go_wp2
        go_ret
        exact ⟨⟨_, rfl, fun h => by omega⟩, hb⟩
set_option maxRecDepth 100000 in
set_option maxHeartbeats 400000 in
theorem toFrame_any (f : Fr) (w : World) : Calls Try.prog 58 #[frA f] w fun e w' => e = .returned (frA f) ∧ Below w.heap.size w w' := by
  unfold frA
  go_enter Try.func58, Try.ntmps58
  go_wp2
  simp [bodyPost, results, Try.results58, go_sem]
  exact (((Below.refl _ _).alloc (Nat.le_refl _) _).alloc (by simp) _).alloc (by simp; omega) _
/-- toFrameS halfway: k frames are copied over the cells Z. -/
def halfF (Z : List Value) (l : List Fr) (k : Nat) : List Value := (l.take k).flatMap frC ++ Z.drop (k * 3)
theorem halfF_zero (Z : List Value) (l : List Fr) : halfF Z l 0 = Z := by simp [halfF]
theorem halfF_all (Z : List Value) (l : List Fr) (hZ : Z.length = l.length * 3) : halfF Z l l.length = l.flatMap frC := by
  unfold halfF; rw [List.take_length, List.drop_of_length_le (by omega), List.append_nil]
theorem halfF_len (Z : List Value) (l : List Fr) (k : Nat) (hZ : Z.length = l.length * 3) (hk : k ≤ l.length) : (halfF Z l k).length = l.length * 3 := by
  unfold halfF
  rw [List.length_append, flat_len frC 3 frC_len, List.length_take, List.length_drop, hZ, Nat.min_eq_left hk]; omega
theorem halfF_set (Z : List Value) (l : List Fr) (k : Nat) (hZ : Z.length = l.length * 3) (hk : k < l.length) :
    (((halfF Z l k).set (k * 3) (.int .i64 (l.getD k fr0).seq)).set (k * 3 + 1) (.string (l.getD k fr0).body)).set (k * 3 + 2) (.int .i64 (l.getD k fr0).next) = halfF Z l (k + 1) := by
  have hlen : ((l.take k).flatMap frC).length = k * 3 := by rw [flat_len frC 3 frC_len, List.length_take, Nat.min_eq_left (by omega)]
  obtain ⟨x0, x1, x2, r, hd⟩ : ∃ x0 x1 x2 r, Z.drop (k * 3) = x0 :: x1 :: x2 :: r := by
    have : 3 ≤ (Z.drop (k * 3)).length := by rw [List.length_drop, hZ]; omega
    match h : Z.drop (k * 3), this with
    | x0 :: x1 :: x2 :: r, _ => exact ⟨x0, x1, x2, r, rfl⟩
  have hd3 : Z.drop ((k + 1) * 3) = r := by
    rw [show (k + 1) * 3 = 3 + k * 3 by omega, Nat.add_comm, ← List.drop_drop, hd]; rfl
  unfold halfF
  rw [hd, hd3, take_snoc l k fr0 hk, List.flatMap_append, List.append_assoc]
  rw [List.set_append_right _ _ (by omega), hlen, Nat.sub_self, List.set_cons_zero]
  rw [List.set_append_right _ _ (by omega), hlen, show k * 3 + 1 - k * 3 = 1 by omega]
  rw [List.set_append_right _ _ (by omega), hlen, show k * 3 + 2 - k * 3 = 2 by omega]
  rfl
set_option maxRecDepth 100000 in
set_option maxHeartbeats 800000 in
theorem toFrS_any (A : Option Addr) (l : List Fr) (c : Nat) (w : World) (hl : l.length ≤ 2097152) (hA : Rws w w.heap.size A (l.flatMap frC)) :
    Calls Try.prog 33 #[.slice A l.length c] w (NewR 38 3 w l.length (l.flatMap frC)) := by
  obtain ⟨i0, hi, hz0, hz1, hz2⟩ := info_parts infoFr
  obtain ⟨w1, hmk, o1, g1⟩ := run_make_full (P := Try.prog) w w.heap.size 33 38 i0 _ 3 Try.underlying33 hi hz0 hz1 .i64 .i64 l.length (by rw [hz2]; omega) (by unfold maxLen; omega) (Nat.le_refl _)
  have b1 : Below w.heap.size w w1 := (Below.refl _ _).grown g1 (Nat.le_refl _) (fun k hk => by cases hk)
  have hZ := o1.1
  generalize hZe : (madeCells (Value.agg #[.int .i64 0, .string ⟨#[]⟩, .int .i64 0]).cells (l.length * 3)).toList = Z at *
  clear hi hz0 hz1 hz2 g1 hZe
  go_enter Try.func33, Try.ntmps33
  go_wp2
  go_loopw [4] (fun i wr => ∃ k : Nat, k ≤ l.length ∧ i = .int .i64 k ∧ wr.ownsRow w.heap.size 38 3 (.slice (some ⟨w.heap.size, 0, none⟩) l.length l.length) l.length (halfF Z l k) ∧ Below w.heap.size w wr) (fun i _ => l.length - (intOf i).toNat)
  case atStart => exact ⟨0, by omega, rfl, by rw [halfF_zero]; exact o1, b1⟩
  case round =>
    clear hmk o1 b1
    obtain ⟨k, hk, rfl, hown, hb⟩ := hrel
    by_cases hlt : k < l.length
    · obtain ⟨b, off, rfl, hbB, c0, c1, c2⟩ := (hA.below hb).fr hlt
      have HS := Lib.hid (halfF_set Z l k hZ hlt)
      have hln := halfF_len Z l k hZ hk
      have C := Lib.hid (fun w => toFrame_any (l.getD k fr0) w)
      unfold frA at C
      generalize hx : l.getD k fr0 = x at *
      clear hx
      generalize hcs : halfF Z l k = cs at *
      clear hcs
      have HO := Lib.hid hown
      clear hown
      go_wp2_with fail
      refine (C.out _).mono ?_
      rintro e w2 ⟨rfl, b2⟩
      have own1 := own_below HO.out b2
      have b3 : Below w.heap.size w w2 := hb.trans (b2.mono hb.size)
      obtain ⟨u0, hu0⟩ : ∃ u, w2.cell? ⟨w.heap.size, k * 3, none⟩ = some u := by rw [own1.cellAt _ (by omega)]; exact ⟨_, List.getElem?_eq_getElem (by omega)⟩
      obtain ⟨u1, hu1⟩ : ∃ u, w2.cell? ⟨w.heap.size, k * 3 + 1, none⟩ = some u := by rw [own1.cellAt _ (by omega)]; exact ⟨_, List.getElem?_eq_getElem (by omega)⟩
      obtain ⟨u2, hu2⟩ : ∃ u, w2.cell? ⟨w.heap.size, k * 3 + 2, none⟩ = some u := by rw [own1.cellAt _ (by omega)]; exact ⟨_, List.getElem?_eq_getElem (by omega)⟩
      have hf0 := own1.frozenAt (k * 3)
      have hf1 := own1.frozenAt (k * 3 + 1)
      have hf2 := own1.frozenAt (k * 3 + 2)
      have S1 := own1.stored (k * 3) (.int .i64 x.seq)
      have S2 := S1.1.stored (k * 3 + 1) (.string x.body)
      have S3 := Lib.hid (S2.1.stored (k * 3 + 2) (.int .i64 x.next))
      have B3 := Lib.hid (((b3.setCell (p := ⟨w.heap.size, k * 3, none⟩) (by simp) (.int .i64 x.seq)).setCell (p := ⟨w.heap.size, k * 3 + 1, none⟩) (by simp) (.string x.body)).setCell (p := ⟨w.heap.size, k * 3 + 2, none⟩) (by simp) (.int .i64 x.next))
      clear S1 S2 own1 b2 b3 hb
      go_wp2
      go_roundw
      case rel => exact ⟨k + 1, by omega, by go_num, by rw [← HS.out]; exact S3.out.1, B3.out⟩
      case measure => simp [intOf]; omega
    · obtain rfl : k = l.length := by omega
      rw [halfF_all Z l hZ] at hown
      have R := Lib.hid (NewR.of_own hown hb)
      clear hown hb
      go_wp2
      go_ret
      exact R.out
end Go.Proofs.Ytelpeoaffgafgaa
