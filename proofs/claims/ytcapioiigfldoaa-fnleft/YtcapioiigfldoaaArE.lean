/- More draws over areas and stores. -/
import Derived.Test.YtcapioiigfldoaaRows
import Derived.Test.YtcapioiigfldoaaArD
import Derived.Test.YtcapioiigfldoaaPutS
namespace Go.Proofs.Ytcapioiigfldoaa
open Go.RowKit
set_option linter.unusedSimpArgs false
set_option linter.unusedVariables false
/-- How far a string is from 40000 bytes. -/
def leftOf : Value → Nat
  | .string s => 40000 - s.size
  | _ => 0
/-- The draw hands out a store. -/
def GotStore (w : World) (g : Nat) (A : Option Addr) (l : List Nat) (c : Nat) (e : Ending) (w' : World) : Prop :=
  ∃ s : St, (s.go ∧ s.log.data.size ≤ 20000 ∧ s.even.data.size ≤ 20000 ∧ s.odd.data.size ≤ 20000) ∧ e = .returned (stA s) ∧ Cur w' g A l c ∧ w.grownBy w' (some g)
theorem grown_put6 {w0 w : World} {g q : Nat} {s : St} (gr : w0.grownBy w (some g)) (hq : w0.heap.size ≤ q) : w0.grownBy (put6 w q s) (some g) := by
  unfold put6
  repeat refine grown_set ?_ hq _
  exact gr
theorem cur_put6 {w : World} {g q : Nat} {A : Option Addr} {l : List Nat} {c : Nat} {s : St} (hc : Cur w g A l c) (hq : g < q) : Cur (put6 w q s) g A l c := by
  unfold put6
  repeat refine cur_set ?_ hq _
  exact hc
set_option maxRecDepth 100000 in
set_option maxHeartbeats 800000 in
theorem l3Store_any (A : Option Addr) (l : List Nat) (c g : Nat) (w : World) (hl : l.length ≤ 2097152) (hb : AllB l) (hcw : Cur w g A l c) :
    Calls Try.prog 36 #[.pointer (some ⟨g, 0, none⟩)] w (GotStore w g A l c) := by
  have hlt := hcw.lt
  have gr0 := grown_made w (.cells #[.string ⟨#[]⟩, .int .i64 0, .string ⟨#[]⟩, .int .i64 0, .string ⟨#[]⟩, .int .i64 0] 27) g
  go_enter Try.func36, Try.ntmps36
  go_wp2_with fail
  refine (l3Draw_any A l c g _ hl hb (hcw.alloc _)).mono ?_
  rintro e w1 ⟨a1, ⟨ha1, hz1⟩, rfl, hc1, gr1⟩
  go_wp2_with fail
  refine (l3Draw_any A l c g _ hl hb hc1).mono ?_
  rintro e w2 ⟨a2, ⟨ha2, hz2⟩, rfl, hc2, gr2⟩
  go_wp2_with fail
  refine (l3Draw_any A l c g _ hl hb hc2).mono ?_
  rintro e w3 ⟨a3, ⟨ha3, hz3⟩, rfl, hc3, gr3⟩
  have gr3 := gr1.trans (gr2.trans gr3)
  have hg := grown_at gr3 hlt
  have R : Hid (GotStore w g A l c (.returned (stA ⟨a1, a2, a3⟩)) (put6 w3 w.heap.size ⟨a1, a2, a3⟩)) := ⟨⟨a1, a2, a3⟩, ⟨⟨ha1, ha2, ha3⟩, hz1, hz2, hz3⟩, rfl, cur_put6 hc3 hlt, grown_put6 (gr0.trans gr3) (Nat.le_refl _)⟩
  clear gr0 gr1 gr2 gr3 hc1 hc2 hc3
  have c0 := cell_of_row _ _ 0 _ _ _ hg
  have c1 := cell_of_row _ _ 1 _ _ _ hg
  have c2 := cell_of_row _ _ 2 _ _ _ hg
  have c3 := cell_of_row _ _ 3 _ _ _ hg
  have c4 := cell_of_row _ _ 4 _ _ _ hg
  have c5 := cell_of_row _ _ 5 _ _ _ hg
  have z0 := frozen_of_row _ _ 0 _ _ hg
  have z1 := frozen_of_row _ _ 1 _ _ hg
  have z2 := frozen_of_row _ _ 2 _ _ hg
  have z3 := frozen_of_row _ _ 3 _ _ hg
  have z4 := frozen_of_row _ _ 4 _ _ hg
  have z5 := frozen_of_row _ _ 5 _ _ hg
  simp at c0 c1 c2 c3 c4 c5
  clear hg
  unfold arA
  go_wp2
  simp [bodyPost, results, Try.results36, go_sem, c0, c1, c2, c3, c4, c5]
  exact R.out
end Go.Proofs.Ytcapioiigfldoaa
