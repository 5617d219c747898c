/- The checksum: what impl.Crc and spec.Crc return. -/
import Derived.Test.YtcapioiigfldoaaRows
import Derived.Test.YtcapioiigfldoaaWords
namespace Go.Proofs.Ytcapioiigfldoaa
open Go.RowKit
set_option linter.unusedSimpArgs false
set_option linter.unusedVariables false
theorem bit_odd (y k z : Nat) (hy : M.bitN k z = y) (h : y % 2 = 1) : (y / 2) ^^^ 3988292384 = M.bitN (k + 1) z := by
  show _ = M.bit1 (M.bitN k z); rw [hy]; unfold M.bit1; rw [if_pos h]
theorem bit_even (y k z : Nat) (hy : M.bitN k z = y) (h : y % 2 = 0) : y / 2 = M.bitN (k + 1) z := by
  show _ = M.bit1 (M.bitN k z); rw [hy]; unfold M.bit1; rw [if_neg (by omega)]
set_option maxRecDepth 100000 in
set_option maxHeartbeats 800000 in
theorem crc_spec (A : Option Addr) (l : List Nat) (cap B : Nat) (w : World) (hl : l.length ≤ 2097152) (hA : Bts w B A l) (hb : AllB l) :
    Calls Try.prog 68 #[.slice A l.length cap] w fun e w' => e = .returned (.int .i64 (M.crc l)) ∧ w = w' := by
  have hfin := M.crcTo_lt l hb
  have HX : Hid (bits .xor .i64 ((M.crcTo l : Nat) : Int) 4294967295 = ((M.crc l : Nat) : Int)) := xor_i64 _ 4294967295 hfin (by omega)
  have hcl := M.crc_lt l hb
  go_enter Try.func68, Try.ntmps68
  go_wp2
  go_loop [3, 4] (fun s i => ∃ k : Nat, k ≤ l.length ∧ i = .int .i64 k ∧ s = .int .i64 (M.crcTo (l.take k))) (fun _ i => l.length - (intOf i).toNat)
  case atStart => exact ⟨0, by omega, rfl, rfl⟩
  case round =>
    obtain ⟨k, hk, rfl, rfl⟩ := hrel
    by_cases hlt : k < l.length
    · obtain ⟨b, off, rfl, hbB, hc⟩ := hA.at_ hlt
      have hv := hb.getD k
      have HS : Hid (M.crcTo (l.take (k + 1)) = M.step (M.crcTo (l.take k)) (l.getD k 0)) := by
        rw [take_snoc l k 0 hlt, M.crcTo_snoc]; rfl
      have hx := M.crcTo_lt _ (hb.take k)
      generalize l.getD k 0 = v at *
      generalize M.crcTo (l.take k) = x at *
      have hxor : bits .xor .i64 (x : Int) (v : Int) = ((x ^^^ v : Nat) : Int) := xor_i64 x v hx (by omega)
      go_wp2
      go_loop [3, 5] (fun s i => ∃ j : Nat, j ≤ 8 ∧ i = .int .i64 j ∧ s = .int .i64 (M.bitN j (x ^^^ v))) (fun _ i => 8 - (intOf i).toNat)
      case atStart => exact ⟨0, by omega, rfl, rfl⟩
      case round =>
        obtain ⟨j, hj, rfl, rfl⟩ := hrel
        have hyl : M.bitN j (x ^^^ v) < 4294967296 := M.bitN_lt j (M.xor_lt hx (by omega))
        generalize hy : M.bitN j (x ^^^ v) = y at hyl
        have HY := Lib.hid hy
        clear hy hxor
        have hx2 : bits .xor .i64 ((y : Int) / 2) 3988292384 = (((y / 2) ^^^ 3988292384 : Nat) : Int) := xor_i64 (y / 2) 3988292384 (by omega) (by omega)
        by_cases h8 : j < 8
        · rcases Nat.mod_two_eq_zero_or_one y with h | h
          · have ht : (((y : Int) % 2) == 1) = false := by simp; omega
            have H := Lib.hid h
            clear h
            go_wp2
            go_round
            case rel => exact ⟨j + 1, by omega, by go_num, by rw [← bit_even y j _ HY.out H.out]; rfl⟩
            case measure => simp [intOf]; omega
          · have ht : (((y : Int) % 2) == 1) = true := by simp; omega
            have H := Lib.hid h
            clear h
            go_wp2
            go_round
            case rel => exact ⟨j + 1, by omega, by go_num, by rw [← bit_odd y j _ HY.out H.out]⟩
            case measure => simp [intOf]; omega
        · obtain rfl : j = 8 := by omega
          go_wp2
          go_round
          case rel => exact ⟨k + 1, by omega, by go_num, by rw [HS.out, ← HY.out]; rfl⟩
          case measure => simp [intOf]; omega
    · obtain rfl : k = l.length := by omega
      rw [List.take_length]
      have hxx := HX.out
      go_wp2
      go_ret
      exact ⟨rfl, rfl⟩
end Go.Proofs.Ytcapioiigfldoaa
