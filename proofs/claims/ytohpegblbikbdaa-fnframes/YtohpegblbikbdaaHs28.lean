/- l18Nums of the model. -/
import Derived.Test.YtohpegblbikbdaaRows
import Derived.Test.YtohpegblbikbdaaHs24
namespace Go.Proofs.Ytohpegblbikbdaa
open Go.RowKit
set_option linter.unusedSimpArgs false
set_option linter.unusedVariables false
/-- What l18Nums writes. -/
def encL (l : List Int) : List Nat := l.flatMap fun z => encN z.toNat
theorem encL_take (l : List Int) (k : Nat) (h : k < l.length) : encL (l.take (k + 1)) = encL (l.take k) ++ encN (l.getD k 0).toNat := by
  unfold encL; rw [take_succ_getD l k 0 h, List.flatMap_append]; simp
theorem encL_len (l : List Int) : l.length ≤ (encL l).length ∧ (encL l).length ≤ 5 * l.length := by
  induction l with
  | nil => simp [encL]
  | cons z l ih =>
    have h := encF_len 4 z.toNat
    have e : encL (z :: l) = encN z.toNat ++ encL l := by unfold encL; rw [List.flatMap_cons]
    rw [e, List.length_append, List.length_cons]
    unfold encN
    omega
set_option maxRecDepth 100000 in
set_option maxHeartbeats 3200000 in
theorem l18Nums_spec (A : Option Addr) (l : List Int) (c : Nat) (w : World) (hl : l.length ≤ 100) (h0 : 0 < l.length) (hz : ∀ i, i < l.length → 0 ≤ l.getD i 0 ∧ l.getD i 0 ≤ 2147483647) (hA : Rws w w.heap.size A (ints l)) :
    Calls Try.prog 27 #[.slice A l.length c] w fun e w' => e = .returned (.string (strB (encL l))) ∧ Below w.heap.size w w' := by
  have O0 : Hid (OwnB (w.alloc (.cells #[] 5)) w.heap.size (.slice (some ⟨w.heap.size, 0, none⟩) 0 0) []) := own_empty w w.heap.size 5 1 (Nat.le_refl _)
  have B0 : Hid (Below w.heap.size w (w.alloc (.cells #[] 5))) := (Below.refl _ _).alloc (Nat.le_refl _) _
  go_enter Try.func27, Try.ntmps27
  go_wp2_with fail
  go_loopw [3, 4] (fun v i wr => ∃ k : Nat, k ≤ l.length ∧ i = .int .i64 k ∧ OwnB wr w.heap.size v (encL (l.take k)) ∧ Below w.heap.size w wr) (fun _ i _ => l.length - (intOf i).toNat)
  case atStart => exact ⟨0, by omega, rfl, O0.out, B0.out⟩
  case round =>
    clear O0 B0
    obtain ⟨k, hk, rfl, hown, hb⟩ := hrel
    have hbs := hb.size
    by_cases hlt : k < l.length
    · obtain ⟨b, off, rfl, hbB, hc⟩ := (hA.below hb).int hlt
      have hzk := hz k hlt
      have et := encL_take l k hlt
      have lt := (encL_len (l.take k)).2
      rw [List.length_take] at lt
      obtain ⟨m, hm⟩ : ∃ m : Nat, l.getD k 0 = (m : Int) := ⟨(l.getD k 0).toNat, by omega⟩
      rw [hm] at hc hzk et
      rw [Int.toNat_natCast] at et
      have el : (encN m).length ≤ 5 ∧ 0 < (encN m).length := encF_len 4 m
      have CP := Lib.hid (putNum_spec_in m wr (by omega))
      have HO := Lib.hid hown
      have HB := Lib.hid hb
      have ET := Lib.hid et
      clear hown hb et hm
      go_wp2_with fail
      refine CP.out.mono ?_
      rintro e w1 ⟨A1, c1, rfl, o1, x1⟩
      have hb1 := OwnB.bts o1
      have hown : OwnB w1 w.heap.size _ (encL (l.take k)) := own_below HO.out x1
      have hb1w := HB.out.trans (x1.mono hbs)
      have hs1 := hb1w.size
      rcases hb1 with hnil | ⟨b1, of1, rfl, _, hcell⟩
      · exfalso
        rw [hnil] at el
        simp at el
      go_wp2_with (at_builtin; refine wpList_appB _ rfl (.tmp 12) (.tmp 17) rfl w.heap.size _ (encL (l.take k)) rfl hown b1 of1 c1 (encN m) _ rfl rfl hcell (by omega) hs1 ?_)
      intro v2 w2 o2 g2 _
      have B2 := Lib.hid (hb1w.grown g2 hs1 (own_low hown))
      have O2 : Hid (OwnB w2 w.heap.size v2 (encL (l.take (k + 1)))) := by
        show OwnB _ _ _ _
        rw [ET.out]; exact o2
      clear o2 g2 hown hb1w o1 x1 hcell HO HB CP ET
      go_wp2
      go_roundw
      case rel => exact ⟨k + 1, by omega, by go_num, O2.out, B2.out⟩
      case measure => simp [intOf] <;> omega
    · obtain rfl : k = l.length := by omega
      rw [List.take_length] at hown
      have hl2 := (encL_len l).1
      obtain ⟨A1, c1, rfl, _⟩ := OwnB.form hown
      have cv := OwnB.conv hown (by omega)
      have HB := Lib.hid hb
      obtain ⟨T, eT⟩ : ∃ T, strB (encL l) = T := ⟨_, rfl⟩
      rw [eT] at cv
      have HT := Lib.hid eT
      clear eT
      clear hown hb
      go_wp2
      go_ret
      exact ⟨by rw [HT.out] <;> rfl, HB.out⟩
end Go.Proofs.Ytohpegblbikbdaa
