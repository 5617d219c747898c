/- More draws over areas and stores. -/
import Derived.Test.YthkfbgamkffjeaaRows
import Derived.Test.YthkfbgamkffjeaaArD
import Derived.Test.YthkfbgamkffjeaaPutS
namespace Go.Proofs.Ythkfbgamkffjeaa
open Go.RowKit
set_option linter.unusedSimpArgs false
set_option linter.unusedVariables false
/-- How far a string is from 40000 bytes. -/
def leftOf : Value → Nat
  | .string s => 40000 - s.size
  | _ => 0
set_option maxRecDepth 100000 in
set_option maxHeartbeats 800000 in
theorem l3Long_any (A : Option Addr) (l : List Nat) (c g : Nat) (w : World) (hl : l.length ≤ 2097152) (hb : AllB l) (hcw : Cur w g A l c) :
    Calls Try.prog 44 #[.pointer (some ⟨g, 0, none⟩)] w (GotStr w g A l c 20000) := by
  have hlt := hcw.lt
  go_enter Try.func44, Try.ntmps44
  go_wp2
  go_loopw [3] (fun v wr => ∃ S : ByteArray, v = .string S ∧ 0 < S.size ∧ S.size ≤ 40000 ∧ wr = w) (fun v _ => leftOf v)
  case atStart => exact ⟨_, rfl, by decide, by decide, rfl⟩
  case round =>
    obtain ⟨S, rfl, h1, h2, rfl⟩ := hrel
    by_cases h3 : S.size < 20000
    · have hadd : S.size + S.size ≤ 9223372036854775807 := by omega
      go_wp2
      go_roundw
      case rel => exact ⟨_, rfl, by rw [ByteArray.size_append]; omega, by rw [ByteArray.size_append]; omega, trivial⟩
      case measure => simp [leftOf, ByteArray.size_append]; omega
    · have hx := ints_new wr [19989, 19990, 20000]
      have gr0 := grown_made wr (.cells ([19989, 19990, 20000].map (Value.int .i64)).toArray 3) g
      go_wp2_with fail
      refine (l1PickInt_any A l c g [19989, 19990, 20000] wr.heap.size 3 3 _ hl hb (hcw.alloc _) rfl (by simp) (by simp) (by omega) hx).mono ?_
      rintro e w1 ⟨n, hn, rfl, hc1, gr1⟩
      obtain ⟨m, rfl, hm⟩ : ∃ m : Nat, n = m ∧ m ≤ 20000 := by
        simp at hn
        exact ⟨n.toNat, by omega, by omega⟩
      have hm2 : (m : Int) ≤ S.size := by omega
      have R : Hid (GotStr wr g A l c 20000 (.returned (.string (S.extract 0 m))) w1) := ⟨_, by rw [ByteArray.size_extract]; omega, rfl, hc1, gr0.trans gr1⟩
      clear hn hx gr0 gr1 hc1
      go_wp2
      go_ret
      exact R.out
set_option maxRecDepth 100000 in
theorem l3Which_any (A : Option Addr) (l : List Nat) (c g : Nat) (w : World) (hl : l.length ≤ 2097152) (hb : AllB l) (hcw : Cur w g A l c) :
    Calls Try.prog 51 #[.pointer (some ⟨g, 0, none⟩)] w fun e w' => ∃ n : Int, (-9223372036854775808 ≤ n ∧ n ≤ 9223372036854775807) ∧ e = .returned (.int .i64 n) ∧ Cur w' g A l c ∧ w.grownBy w' (some g) := by
  have hlt := hcw.lt
  have hx := ints_new w [0, 1, 2, 3, 8, -1, -2, 9223372036854775807, -9223372036854775808]
  have gr0 := grown_made w (.cells ([0, 1, 2, 3, 8, -1, -2, 9223372036854775807, -9223372036854775808].map (Value.int .i64)).toArray 3) g
  go_enter Try.func51, Try.ntmps51
  go_wp2_with fail
  refine (l1PickInt_any A l c g [0, 1, 2, 3, 8, -1, -2, 9223372036854775807, -9223372036854775808] w.heap.size 9 9 _ hl hb (hcw.alloc _) rfl (by simp) (by simp) (by omega) hx).mono ?_
  rintro e w1 ⟨n, hn, rfl, hc1, gr1⟩
  have hn2 : -9223372036854775808 ≤ n ∧ n ≤ 9223372036854775807 := by simp at hn; omega
  clear hn hx
  go_wp2
  go_ret
  exact ⟨n, hn2, rfl, hc1, gr0.trans gr1⟩
/-- The draw hands out a store. -/
def GotStore (w : World) (g : Nat) (A : Option Addr) (l : List Nat) (c : Nat) (e : Ending) (w' : World) : Prop :=
  ∃ s : St, (s.go ∧ s.log.data.size ≤ 20000 ∧ s.even.data.size ≤ 20000 ∧ s.odd.data.size ≤ 20000) ∧ e = .returned (stA s) ∧ Cur w' g A l c ∧ w.grownBy w' (some g)
theorem grown_put6 {w0 w : World} {g q : Nat} {s : St} (gr : w0.grownBy w (some g)) (hq : w0.heap.size ≤ q) : w0.grownBy (put6 w q s) (some g) := by
  unfold put6
  repeat refine grown_set ?_ hq _
  exact gr
theorem cur_put6 {w : World} {g q : Nat} {A : Option Addr} {l : List Nat} {c : Nat} {s : St} (hc : Cur w g A l c) (hq : g < q) : Cur (put6 w q s) g A l c := by
  unfold put6
  repeat refine cur_set ?_ hq _
  exact hc
set_option maxRecDepth 100000 in
set_option maxHeartbeats 800000 in
theorem l3Store_any (A : Option Addr) (l : List Nat) (c g : Nat) (w : World) (hl : l.length ≤ 2097152) (hb : AllB l) (hcw : Cur w g A l c) :
    Calls Try.prog 50 #[.pointer (some ⟨g, 0, none⟩)] w (GotStore w g A l c) := by
  have hlt := hcw.lt
  have gr0 := grown_made w (.cells #[.string ⟨#[]⟩, .int .i64 0, .string ⟨#[]⟩, .int .i64 0, .string ⟨#[]⟩, .int .i64 0] 33) g
  go_enter Try.func50, Try.ntmps50
  go_wp2_with fail
  refine (l3Draw_any A l c g _ hl hb (hcw.alloc _)).mono ?_
  rintro e w1 ⟨a1, ⟨ha1, hz1⟩, rfl, hc1, gr1⟩
  go_wp2_with fail
  refine (l3Draw_any A l c g _ hl hb hc1).mono ?_
  rintro e w2 ⟨a2, ⟨ha2, hz2⟩, rfl, hc2, gr2⟩
  go_wp2_with fail
  refine (l3Draw_any A l c g _ hl hb hc2).mono ?_
  rintro e w3 ⟨a3, ⟨ha3, hz3⟩, rfl, hc3, gr3⟩
  have gr3 := gr1.trans (gr2.trans gr3)
  have hg := grown_at gr3 hlt
  have R : Hid (GotStore w g A l c (.returned (stA ⟨a1, a2, a3⟩)) (put6 w3 w.heap.size ⟨a1, a2, a3⟩)) := ⟨⟨a1, a2, a3⟩, ⟨⟨ha1, ha2, ha3⟩, hz1, hz2, hz3⟩, rfl, cur_put6 hc3 hlt, grown_put6 (gr0.trans gr3) (Nat.le_refl _)⟩
  clear gr0 gr1 gr2 gr3 hc1 hc2 hc3
  have c0 := cell_of_row _ _ 0 _ _ _ hg
  have c1 := cell_of_row _ _ 1 _ _ _ hg
  have c2 := cell_of_row _ _ 2 _ _ _ hg
  have c3 := cell_of_row _ _ 3 _ _ _ hg
  have c4 := cell_of_row _ _ 4 _ _ _ hg
  have c5 := cell_of_row _ _ 5 _ _ _ hg
  have z0 := frozen_of_row _ _ 0 _ _ hg
  have z1 := frozen_of_row _ _ 1 _ _ hg
  have z2 := frozen_of_row _ _ 2 _ _ hg
  have z3 := frozen_of_row _ _ 3 _ _ hg
  have z4 := frozen_of_row _ _ 4 _ _ hg
  have z5 := frozen_of_row _ _ 5 _ _ hg
  simp at c0 c1 c2 c3 c4 c5
  clear hg
  unfold arA
  go_wp2
  simp [bodyPost, results, Try.results50, go_sem, c0, c1, c2, c3, c4, c5]
  exact R.out
end Go.Proofs.Ythkfbgamkffjeaa
