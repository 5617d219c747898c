/- l10Args, DrawHeldIn of the model. -/
import Derived.Test.YtdjglbmcpfaofaaRows
import Derived.Test.YtdjglbmcpfaofaaCbC
import Derived.Test.YtdjglbmcpfaofaaSameI
import Derived.Test.YtdjglbmcpfaofaaHs10
import Derived.Test.YtdjglbmcpfaofaaHs4
namespace Go.Proofs.Ytdjglbmcpfaofaa
open Go.RowKit
set_option linter.unusedSimpArgs false
set_option linter.unusedVariables false
def GotHd (w : World) (e : Ending) (w' : World) : Prop := ∃ (el : List Pt) (LA : Option Addr) (lc : Nat) (z : Int), el.length ≤ 7 ∧ (∀ f ∈ el, f.fits) ∧ e = .returned (.tuple #[.slice LA el.length lc, .int .i64 z]) ∧ (inI z ∧ el.length ≤ lc ∧ (LA = none → lc = 0)) ∧ Rws w' w'.heap.size LA (el.flatMap ptC) ∧ Below w.heap.size w w'
set_option maxRecDepth 100000 in
set_option maxHeartbeats 3200000 in
theorem l10Args_any (A : Option Addr) (l : List Nat) (c : Nat) (w : World) (hl : l.length ≤ 2097152) (hA : Bts w w.heap.size A l) (hb : AllB l) :
    Calls Try.prog 40 #[.slice A l.length c] w (GotHd w) := by
  have C0 := Lib.hid (l1New_any A l c w hl hA hb)
  unfold NewCur at C0
  go_enter Try.func40, Try.ntmps40
  go_wp2_with fail
  refine C0.out.mono ?_
  rintro e w1 ⟨rfl, hc1, b1⟩
  have HB := Lib.hid b1
  clear C0 b1
  have hlt1 := hc1.lt
  obtain ⟨g, hg⟩ : ∃ g, w.heap.size = g := ⟨_, rfl⟩
  have HG := Lib.hid hg
  rw [hg] at hc1 hlt1 ⊢
  clear hg
  go_wp2_with fail
  refine (l5Right_any A l c g w1 hl hb hc1).mono ?_
  rintro e w2 ⟨r, B, cb, hrok, rfl, o1, hc2, gr1⟩
  obtain ⟨V, hV⟩ : ∃ V, w2.alloc (.cells #[.slice B r.seats.length cb, .int .i64 r.tiers, .int .i64 r.room, .int .i64 r.size, .int .i64 r.period, .int .i64 r.window, .int .i64 r.rest, .int .i64 r.tries, .int .i64 r.crew] 101) = V := ⟨_, rfl⟩
  have hVs : V.heap.size = w2.heap.size + 1 := by rw [← hV]; simp
  have T0 : V.heap[w2.heap.size]? = some (.cells #[.slice B r.seats.length cb, .int .i64 r.tiers, .int .i64 r.room, .int .i64 r.size, .int .i64 r.period, .int .i64 r.window, .int .i64 r.rest, .int .i64 r.tries, .int .i64 r.crew] 101) := by rw [← hV]; exact heap_new _ _
  have HC : Hid (Cur V g A l c) := by show Cur _ _ _ _ _; rw [← hV]; exact hc2.alloc _
  have gV : w1.grownBy V (some g) := by rw [← hV]; exact grown_step gr1 (World.grownBy_alloc _ _ none) (fun j h => by cases h)
  have oV : V.ownsRow w1.heap.size 3 1 (.slice B r.seats.length cb) r.seats.length (ints r.seats) := by rw [← hV]; exact World.ownsRow.alloc o1 _
  have HR := Lib.hid hrok
  have lt2 := hc2.lt
  have HT := Lib.hid (fun w' (h : V.grownBy w' (some g)) => grown_keep h T0 (by omega))
  have HRA := Lib.hid (fun w' (h : V.grownBy w' (some g)) => own_cur oV h hlt1)
  have GV := Lib.hid gV
  have HV := Lib.hid hV
  clear T0 gV oV hrok o1 hc2 gr1 hc1 hV
  unfold ruV
  go_wp2_with fail
  rw [HV.out]
  refine wp_region_held_drew (S := fun w' => Hid (V.grownBy w' (some g))) (by kernel_rfl) (grown_of_below (below_drawn (Below.refl V.heap.size V) 1) _) (fun hHeld => ?_)
  have hc0 : Cur V.drew g A l c := HC.out.mem (below_drawn (Below.refl _ _) 1)
  refine held_take 0 10 (.pointer (some ⟨g, 0, none⟩)) rfl rfl (by kernel_rfl) (by kernel_rfl) (by kernel_rfl) (fun _ _ _ h => h) rfl hHeld (fun w _ => rfl) ?_
  refine held_take 1 11 (ruV B cb r) rfl rfl (by kernel_rfl) (by kernel_rfl) (by kernel_rfl) (fun _ _ _ h => h) rfl hHeld (fun w hS => exec_loadRi _ B cb r w (HT.out w hS.out)) ?_
  refine held_take 2 12 (.pointer (some ⟨g, 0, none⟩)) rfl rfl (by kernel_rfl) (by kernel_rfl) (by kernel_rfl) (fun _ _ _ h => h) rfl hHeld (fun w _ => rfl) ?_
  simp only [Act.put, List.setIfInBounds_toArray, List.set_cons_zero, List.set_cons_succ]
  refine held_take 5 15 (.pointer (some ⟨g, 0, none⟩)) rfl rfl (by kernel_rfl) (by kernel_rfl) (by kernel_rfl) (fun _ _ _ h => h) rfl hHeld (fun w _ => rfl) ?_
  simp only [Act.put, List.setIfInBounds_toArray, List.set_cons_zero, List.set_cons_succ]
  refine held_call 3 13 78 #[.pointer (some ⟨g, 0, none⟩), .int .i64 (20 : Int)] rfl rfl (by kernel_rfl) rfl (exec_call Try.func78 (by kernel_rfl) (by kernel_rfl) _) ?_
  refine (l1Below_any A l c g 20 _ hl hb (by omega) (by omega) hc0).mono ?_
  rintro e v1 ⟨x1, hx1, rfl, hc1, gr1⟩
  have b1 : Hid (V.grownBy v1 (some g)) := hHeld.out.trans gr1
  refine ⟨_, rfl, b1, ?_⟩
  simp only [Act.put, List.setIfInBounds_toArray, List.set_cons_zero, List.set_cons_succ]
  refine held_call 4 14 77 #[.pointer (some ⟨g, 0, none⟩), ruV B cb r, .int .i64 (x1 : Int)] rfl rfl (by kernel_rfl) rfl (exec_call Try.func77 (by kernel_rfl) (by kernel_rfl) _) ?_
  refine (l7Parties_any A B l c g cb w1.heap.size r x1 v1 hl hb hc1 HR.out (by omega) (HRA.out _ b1.out) hlt1).mono ?_
  rintro e v2 ⟨el, pv, hel, hef, rfl, o2, hc2, gr2⟩
  have b2 : Hid (V.grownBy v2 (some g)) := b1.out.trans gr2
  have lt1 := hc1.lt
  refine ⟨_, rfl, b2, ?_⟩
  simp only [Act.put, List.setIfInBounds_toArray, List.set_cons_zero, List.set_cons_succ]
  refine held_call 6 16 78 #[.pointer (some ⟨g, 0, none⟩), .int .i64 (5 : Int)] rfl rfl (by kernel_rfl) rfl (exec_call Try.func78 (by kernel_rfl) (by kernel_rfl) _) ?_
  refine (l1Below_any A l c g 5 _ hl hb (by omega) (by omega) hc2).mono ?_
  rintro e v3 ⟨x2, hx2, rfl, hc3, gr3⟩
  have b3 : Hid (V.grownBy v3 (some g)) := b2.out.trans gr3
  have o3 := own_cur o2 gr3 lt1
  refine ⟨_, rfl, b3, ?_⟩
  simp only [Act.put, List.setIfInBounds_toArray, List.set_cons_zero, List.set_cons_succ]
  refine held_take 7 17 (.int .i64 ((x2 : Int) - 1)) rfl rfl (by kernel_rfl) (by kernel_rfl) (by kernel_rfl) (fun _ _ _ h => h) rfl b3 (fun w _ => exec_subI (x2 : Int) 1 _ w rfl (by omega) (by omega)) ?_
  simp only [Act.put, List.setIfInBounds_toArray, List.set_cons_zero, List.set_cons_succ]
  refine held_op 8 2 pv rfl rfl (by kernel_rfl) rfl rfl b3 ?_
  simp only [Act.put, List.setIfInBounds_toArray, List.set_cons_zero, List.set_cons_succ]
  refine held_op 9 3 (.int .i64 ((x2 : Int) - 1)) rfl rfl (by kernel_rfl) rfl rfl b3 ?_
  simp only [Act.put, List.setIfInBounds_toArray, List.set_cons_zero, List.set_cons_succ]
  refine wpAnyH_done (by kernel_rfl) ?_ _
  obtain ⟨LA, lc, rfl, _⟩ := own_form o3
  have R : Hid (GotHd w (.returned (.tuple #[.slice LA el.length lc, .int .i64 ((x2 : Int) - 1)])) v3) :=
    ⟨el, LA, lc, _, hel, hef, rfl, ⟨by unfold inI; omega, own_cap o3, own_nil o3⟩, own_rws o3, HB.out.trans (below_grown (GV.out.trans b3.out) (by have := HG.out; omega) (by have := HB.out.size; omega))⟩
  clear o3 o2
  go_wp2
  go_ret2
  exact R.out
set_option maxRecDepth 100000 in
set_option maxHeartbeats 800000 in
theorem drawHeldIn_any (A : Option Addr) (l : List Nat) (c : Nat) (w : World) (hl : l.length ≤ 2097152) (hA : Bts w w.heap.size A l) (hb : AllB l) :
    Calls Try.prog 12 #[.slice A l.length c] w (GotHd w) := by
  have C0 := Lib.hid (l10Args_any A l c w hl hA hb)
  go_enter Try.func12, Try.ntmps12
  go_wp2_with fail
  refine C0.out.mono ?_
  rintro e w1 ⟨el, LA, lc, z, hel, hef, rfl, hz, hR, hb1⟩
  have R : Hid (GotHd w (.returned (.tuple #[.slice LA el.length lc, .int .i64 z])) w1) := ⟨el, LA, lc, z, hel, hef, rfl, hz, hR, hb1⟩
  clear C0 hR hb1
  go_wp2
  go_ret2
  exact R.out
end Go.Proofs.Ytdjglbmcpfaofaa
