/- The draws of chapter 4. -/
import Derived.Test.YtcapioiigfldoaaRows
import Derived.Test.YtcapioiigfldoaaFall2
namespace Go.Proofs.Ytcapioiigfldoaa
open Go.RowKit
set_option linter.unusedSimpArgs false
set_option linter.unusedVariables false
set_option maxRecDepth 100000 in
theorem exec_geqT {ρ : Operand → Value} {o : Oper} {x y : Operand} (X Y : Int) (w : World) (h : Y ≤ X) (ho : o.op = .binOp .geq 3 x y 3 := by rfl) (hx : ρ x = .int .i64 X := by rfl) (hy : ρ y = .int .i64 Y := by rfl) :
    (execOp ρ o).run Try.prog w = .ok (.value (.bool true)) w := by
  unfold execOp
  rw [ho]
  simp [go_sem, hx, hy, h]
set_option maxRecDepth 100000 in
theorem exec_leqT {ρ : Operand → Value} {o : Oper} {x y : Operand} (X Y : Int) (w : World) (h : X ≤ Y) (ho : o.op = .binOp .leq 3 x y 3 := by rfl) (hx : ρ x = .int .i64 X := by rfl) (hy : ρ y = .int .i64 Y := by rfl) :
    (execOp ρ o).run Try.prog w = .ok (.value (.bool true)) w := by
  unfold execOp
  rw [ho]
  simp [go_sem, hx, hy, h]
def inI (z : Int) : Prop := -9223372036854775808 ≤ z ∧ z ≤ 9223372036854775807
set_option maxRecDepth 100000 in
set_option maxHeartbeats 800000 in
theorem l3Count_any (A : Option Addr) (l : List Nat) (c g n : Nat) (w : World) (hl : l.length ≤ 2097152) (hb : AllB l) (hn : n ≤ 2000000) (hcw : Cur w g A l c) :
    Calls Try.prog 43 #[.pointer (some ⟨g, 0, none⟩), .int .i64 n] w fun e w' => ∃ k : Int, inI k ∧ e = .returned (.int .i64 k) ∧ Cur w' g A l c ∧ w.grownBy w' (some g) := by
  go_enter Try.func43, Try.ntmps43
  go_wp2_with fail
  refine (l1Once_any A l c g 6 _ hl hb (by omega) (by omega) hcw).mono ?_
  rintro e w1 ⟨t, rfl, hc1, gr1⟩
  have hlt1 := hc1.lt
  cases t with
  | true =>
    have hx := ints_new w1 [-1, (n : Int), (n : Int) + 1, 9223372036854775807, -9223372036854775808]
    have gr0 := grown_made w1 (.cells ([-1, (n : Int), (n : Int) + 1, 9223372036854775807, -9223372036854775808].map (Value.int .i64)).toArray 3) g
    go_wp2_with fail
    refine (l1PickInt_any A l c g [-1, (n : Int), (n : Int) + 1, 9223372036854775807, -9223372036854775808] w1.heap.size 5 5 _ hl hb (hc1.alloc _) rfl (by simp) (by simp) (by omega) hx).mono ?_
    rintro e w2 ⟨k, hk, rfl, hc2, gr2⟩
    have hk2 : inI k := by simp at hk; unfold inI; omega
    have gr := Lib.hid (gr1.trans (gr0.trans gr2))
    clear hk hx gr0 gr1 gr2
    go_wp2
    go_ret
    exact ⟨k, hk2, rfl, hc2, gr.out⟩
  | false =>
    have CB : Hid (Calls Try.prog 53 #[.pointer (some ⟨g, 0, none⟩), .int .i64 ((n : Int) + 1)] w1 (GotBelow w1 g A l c (n + 1))) := l1Below_any A l c g (n + 1) _ hl hb (by omega) (by omega) hc1
    go_wp2_with fail
    refine CB.out.mono ?_
    rintro e w2 ⟨x, hx, rfl, hc2, gr2⟩
    have gr := Lib.hid (gr1.trans gr2)
    have hk2 : inI (x : Int) := by unfold inI; omega
    clear gr1 gr2 CB
    go_wp2
    go_ret
    exact ⟨_, hk2, rfl, hc2, gr.out⟩
/-- The draw hands out a few numbers. -/
def GotInts (w : World) (g : Nat) (A : Option Addr) (l : List Nat) (c : Nat) (e : Ending) (w' : World) : Prop :=
  ∃ (p : List Int) (v : Value), p.length ≤ 4 ∧ (∀ z ∈ p, inI z) ∧ e = .returned v ∧ w'.ownsRow w.heap.size 3 1 v p.length (ints p) ∧ Cur w' g A l c ∧ w.grownBy w' (some g)
def keepNums : List Int := [0, 1, 2, 5, 30, -1, 9223372036854775807, -9223372036854775808]
theorem keepNums_in : ∀ z ∈ keepNums, inI z := by
  intro z hz
  simp [keepNums] at hz
  unfold inI
  omega
set_option maxRecDepth 100000 in
set_option maxHeartbeats 1600000 in
theorem l4Keeps_any (A : Option Addr) (l : List Nat) (c g : Nat) (w : World) (hl : l.length ≤ 2097152) (hb : AllB l) (hcw : Cur w g A l c) :
    Calls Try.prog 37 #[.pointer (some ⟨g, 0, none⟩)] w (GotInts w g A l c) := by
  have hlt := hcw.lt
  have gr0 := grown_made w (.cells #[] 3) g
  have o0 := own_empty w w.heap.size 3 1 (Nat.le_refl _)
  go_enter Try.func37, Try.ntmps37
  go_wp2_with fail
  refine (l1Below_any A l c g 5 _ hl hb (by omega) (by omega) (hcw.alloc _)).mono ?_
  rintro e w1 ⟨n, hn, rfl, hc1, gr1⟩
  have o1 := own_cur o0 gr1 hlt
  have gr1 := gr0.trans gr1
  clear o0 gr0
  go_wp2
  go_loopw [3, 5] (fun v i wr => ∃ (k : Nat) (p : List Int), k ≤ n ∧ i = .int .i64 k ∧ p.length = k ∧ (∀ z ∈ p, inI z) ∧ wr.ownsRow w.heap.size 3 1 v p.length (ints p) ∧ Cur wr g A l c ∧ w.grownBy wr (some g)) (fun _ i _ => n - (intOf i).toNat)
  case atStart => exact ⟨0, [], by omega, rfl, rfl, (fun z hz => by cases hz), o1, hc1, gr1⟩
  case round =>
    obtain ⟨k, p, hk, rfl, hpk, hp, hown, hcr, hgr⟩ := hrel
    by_cases hk2 : k < n
    · have hx := ints_new wr keepNums
      have gr2 := grown_made wr (.cells (keepNums.map (Value.int .i64)).toArray 3) g
      have hltr := hcr.lt
      have hsz := hgr.size
      go_wp2_with fail
      refine (l1PickInt_any A l c g keepNums wr.heap.size 8 8 _ hl hb (hcr.alloc _) rfl (by decide) (by decide) (by omega) hx).mono ?_
      rintro e w3 ⟨z, hz, rfl, hc3, gr3⟩
      have hz2 := keepNums_in z hz
      have o3 := own_cur (World.ownsRow.alloc hown (.cells (keepNums.map (Value.int .i64)).toArray 3)) gr3 hlt
      have gr3 := hgr.trans (gr2.trans gr3)
      have hsz3 := gr3.size
      clear hx gr2 hcr hown hgr hz
      have hown := World.ownsRow.alloc o3 (.cells #[.int .i64 z] 3)
      have hR := Rws.new w3 (ints [z]) 3
      go_wp2_with (at_builtin; refine wpList_appR rowInt _ rfl (.tmp 14) (.tmp 18) rfl w.heap.size _ p.length (ints p) rfl hown (w3.heap.size + 1) (some ⟨w3.heap.size, 0, none⟩) 1 1 (ints [z]) rfl rfl hR (fun h => by cases h) (ints_one [z]) (by omega) (by simp; omega) ?_)
      intro v' w4 o4 gr4
      have hlow := own_low hown
      have hc4 := (hc3.alloc (.cells #[.int .i64 z] 3)).grown gr4 (fun j hj => by have := hlow j hj; omega)
      have gr5 := grown_step (gr3.trans (grown_made w3 (.cells #[.int .i64 z] 3) g)) gr4 (fun j hj => hlow j hj)
      rw [← ints_append] at o4
      have hall : ∀ y ∈ p ++ [z], inI y := by
        intro y hy
        rcases List.mem_append.1 hy with h | h
        · exact hp y h
        · rw [List.mem_singleton] at h; exact h ▸ hz2
      clear o3 hown gr3 gr4 hlow hR hc3
      go_wp2
      go_roundw
      case rel => exact ⟨k + 1, p ++ [z], by omega, by go_num, by simp [hpk], hall, (by rw [List.length_append, hpk]; exact o4), hc4, gr5⟩
      case measure => simp [intOf]; omega
    · go_wp2
      go_ret
      exact ⟨p, _, by omega, hp, rfl, hown, hcr, hgr⟩
/-- What DrawLeft hands out. -/
def GotLeft (w : World) (e : Ending) (w' : World) : Prop :=
  ∃ (a : Ar) (k : Int), (a.go ∧ a.data.size ≤ 20000) ∧ inI k ∧ e = .returned (.tuple #[arA a, .int .i64 k]) ∧ Below w.heap.size w w'
set_option maxRecDepth 100000 in
set_option maxHeartbeats 1600000 in
theorem drawLeft_any (A : Option Addr) (l : List Nat) (c : Nat) (w : World) (hl : l.length ≤ 2097152) (hA : Bts w w.heap.size A l) (hb : AllB l) :
    Calls Try.prog 20 #[.slice A l.length c] w (GotLeft w) := by
  have b0 : Below w.heap.size w (w.alloc (.cells #[.string ⟨#[]⟩, .int .i64 0] 25)) := (Below.refl _ _).alloc (Nat.le_refl _) _
  have C0 := Lib.hid (l1New_any A l c (w.alloc (.cells #[.string ⟨#[]⟩, .int .i64 0] 25)) hl ((hA.below b0).more b0.size) hb)
  unfold NewCur at C0
  simp only [World.size_alloc] at C0
  go_enter Try.func20, Try.ntmps20
  go_wp2_with fail
  refine C0.out.mono ?_
  rintro e w1 ⟨rfl, hc1, b1⟩
  have r1 : w1.heap[w.heap.size]? = some (.cells #[.string ⟨#[]⟩, .int .i64 0] 25) := (b1.block _ (by omega)).trans (heap_new _ _)
  have b1 : Below w.heap.size w w1 := b0.trans (b1.mono (by omega))
  clear C0 b0
  have hlt1 := hc1.lt
  go_wp2_with fail
  refine (l3Draw_any A l c (w.heap.size + 1) _ hl hb hc1).mono ?_
  rintro e w2 ⟨a, ⟨hag, hsz⟩, rfl, hc2, gr2⟩
  have r2 := grown_keep gr2 r1 (by omega)
  have b2 : Below w.heap.size w w2 := b1.trans (below_grown gr2 (by omega) (by omega))
  clear gr2 b1 hc1 r1
  have hlt2 := hc2.lt
  unfold arA
  have gr2 := grown_made w2 (.cells #[.string a.data, .int .i64 a.safe] 25) (w.heap.size + 1)
  have HR := Lib.hid (fun w4 (h : (w2.alloc (.cells #[.string a.data, .int .i64 a.safe] 25)).grownBy w4 (some (w.heap.size + 1))) => grown_keep (gr2.trans h) r2 (by omega))
  have HX := Lib.hid (fun w4 (h : (w2.alloc (.cells #[.string a.data, .int .i64 a.safe] 25)).grownBy w4 (some (w.heap.size + 1))) => grown_at h hlt2)
  have HB := Lib.hid (fun w4 (h : (w2.alloc (.cells #[.string a.data, .int .i64 a.safe] 25)).grownBy w4 (some (w.heap.size + 1))) => b2.trans (below_grown (gr2.trans h) (by omega) (by omega)))
  have gr3 := grown_drawn (World.grownBy.refl (w2.alloc (.cells #[.string a.data, .int .i64 a.safe] 25)) (some (w.heap.size + 1))) 1
  have CP : Hid (Calls Try.prog 43 #[.pointer (some ⟨w.heap.size + 1, 0, none⟩), .int .i64 (a.data.size : Int)] ((w2.alloc (.cells #[.string a.data, .int .i64 a.safe] 25)).drewN 1) _) := l3Count_any A l c (w.heap.size + 1) a.data.size _ hl hb (by omega) (show Cur ((w2.alloc (.cells #[.string a.data, .int .i64 a.safe] 25)).drewN 1) _ _ _ _ from hc2.alloc _)
  have hd := HX.out _ (World.grownBy.refl _ _)
  have d0 := cell_of_row _ _ 0 _ _ _ hd
  have d1 := cell_of_row _ _ 1 _ _ _ hd
  simp only [List.getElem?_toArray] at d0 d1
  clear hd gr2 b2 r2 hc2
  go_wp2_with fail
  refine wp_region_held_drew (S := fun w' => Hid (w'.cell? ⟨w2.heap.size, 0, none⟩ = some (.string a.data) ∧ w'.cell? ⟨w2.heap.size, 1, none⟩ = some (.int .i64 a.safe))) (by kernel_rfl) ⟨d0, d1⟩ (fun hHeld => ?_)
  refine held_take 0 10 (arA a) rfl rfl (by kernel_rfl) (by kernel_rfl) (by kernel_rfl) (fun _ _ _ h => h) rfl hHeld (fun w hS => exec_loadA _ a w hS.out) ?_
  refine held_take 1 11 (.pointer (some ⟨w.heap.size + 1, 0, none⟩)) rfl rfl (by kernel_rfl) (by kernel_rfl) (by kernel_rfl) (fun _ _ _ h => h) rfl hHeld (fun w _ => rfl) ?_
  refine held_take 2 12 (.pointer (some ⟨w2.heap.size, 0, none⟩)) rfl rfl (by kernel_rfl) (by kernel_rfl) (by kernel_rfl) (fun _ _ _ h => h) rfl hHeld (fun w _ => exec_fldA _ 0 w (by simp)) ?_
  simp only [Act.put, List.setIfInBounds_toArray, List.set_cons_zero, List.set_cons_succ]
  refine held_take 3 13 (.string a.data) rfl rfl (by kernel_rfl) (by kernel_rfl) (by kernel_rfl) (fun _ _ _ h => h) rfl hHeld (fun w hS => exec_load1 9 _ _ _ w (by simp) hS.out.1) ?_
  refine held_take 4 14 (.int .i64 (a.data.size : Int)) rfl rfl (by kernel_rfl) (by kernel_rfl) (by kernel_rfl) (fun _ _ _ h => h) rfl hHeld (fun w _ => exec_lenS _ w) ?_
  simp only [Act.put, List.setIfInBounds_toArray, List.set_cons_zero, List.set_cons_succ]
  refine held_call 5 15 43 #[.pointer (some ⟨w.heap.size + 1, 0, none⟩), .int .i64 (a.data.size : Int)] rfl rfl (by kernel_rfl) rfl (exec_call Try.func43 (by kernel_rfl) (by kernel_rfl) _) ?_
  refine CP.out.mono ?_
  rintro e w4 ⟨k, hk, rfl, hc4, gr4⟩
  have gr4 := gr3.trans gr4
  have hg := HR.out w4 gr4
  have hd := HX.out w4 gr4
  have c0 := cell_of_row _ _ 0 _ _ _ hg
  have c1 := cell_of_row _ _ 1 _ _ _ hg
  have z0 := frozen_of_row _ _ 0 _ _ hg
  have z1 := frozen_of_row _ _ 1 _ _ hg
  have d0 := cell_of_row _ _ 0 _ _ _ hd
  have d1 := cell_of_row _ _ 1 _ _ _ hd
  simp at c0 c1 d0 d1
  refine ⟨_, rfl, ⟨d0, d1⟩, ?_⟩
  simp only [Act.put, List.setIfInBounds_toArray, List.set_cons_zero, List.set_cons_succ]
  refine held_store 6 rfl rfl (by kernel_rfl) rfl (exec_store2 _ _ _ _ _ _ c0 c1 z0 z1) (far2 (by omega) d0 d1) ?_
  refine held_op 7 3 (.int .i64 k) rfl rfl (by kernel_rfl) rfl rfl (far2 (by omega) d0 d1) ?_
  simp only [Act.put, List.setIfInBounds_toArray, List.set_cons_zero, List.set_cons_succ]
  refine wpAnyH_done (by kernel_rfl) ?_ _
  have R : Hid (∀ u v, GotLeft w (.returned (.tuple #[.agg #[.string a.data, .int .i64 a.safe], .int .i64 k])) ((w4.setCell ⟨w.heap.size, 0, none⟩ u).setCell ⟨w.heap.size, 1, none⟩ v)) := fun u v => ⟨a, k, ⟨hag, hsz⟩, hk, rfl, ((HB.out w4 gr4).setCell (Nat.le_refl _) _).setCell (Nat.le_refl _) _⟩
  clear hg hd gr4 hc4 gr3 CP HR HX HB hk
  go_wp2
  simp [bodyPost, results, Try.results20, go_sem, c0, c1]
  exact R.out _ _
/-- What DrawFallen hands out. -/
def GotFall (w : World) (e : Ending) (w' : World) : Prop :=
  ∃ (s : St) (p : List Int) (B : Option Addr) (cb : Nat), (s.go ∧ lenS s ≤ 60000) ∧ p.length ≤ 4 ∧ (∀ z ∈ p, inI z) ∧ e = .returned (.tuple #[stA s, .slice B p.length cb]) ∧ Rws w' w'.heap.size B (ints p) ∧ Below w.heap.size w w'
set_option maxRecDepth 100000 in
set_option maxHeartbeats 1600000 in
theorem drawFallen_any (A : Option Addr) (l : List Nat) (c : Nat) (w : World) (hl : l.length ≤ 2097152) (hA : Bts w w.heap.size A l) (hb : AllB l) :
    Calls Try.prog 11 #[.slice A l.length c] w (GotFall w) := by
  have b0 : Below w.heap.size w (w.alloc (.cells #[.string ⟨#[]⟩, .int .i64 0, .string ⟨#[]⟩, .int .i64 0, .string ⟨#[]⟩, .int .i64 0] 27)) := (Below.refl _ _).alloc (Nat.le_refl _) _
  have C0 := Lib.hid (l1New_any A l c (w.alloc (.cells #[.string ⟨#[]⟩, .int .i64 0, .string ⟨#[]⟩, .int .i64 0, .string ⟨#[]⟩, .int .i64 0] 27)) hl ((hA.below b0).more b0.size) hb)
  unfold NewCur at C0
  simp only [World.size_alloc] at C0
  go_enter Try.func11, Try.ntmps11
  go_wp2_with fail
  refine C0.out.mono ?_
  rintro e w1 ⟨rfl, hc1, b1⟩
  have r1 : w1.heap[w.heap.size]? = some (.cells #[.string ⟨#[]⟩, .int .i64 0, .string ⟨#[]⟩, .int .i64 0, .string ⟨#[]⟩, .int .i64 0] 27) := (b1.block _ (by omega)).trans (heap_new _ _)
  have b1 : Below w.heap.size w w1 := b0.trans (b1.mono (by omega))
  clear C0 b0
  have hlt1 := hc1.lt
  go_wp2_with fail
  refine (l3Store_any A l c (w.heap.size + 1) _ hl hb hc1).mono ?_
  rintro e w2 ⟨s, ⟨hsg, hs1, hs2, hs3⟩, rfl, hc2, gr2⟩
  have hlt2 := hc2.lt
  go_wp2_with fail
  refine (l4Keeps_any A l c (w.heap.size + 1) _ hl hb hc2).mono ?_
  rintro e w3 ⟨p, v, hp4, hpi, rfl, o3, hc3, gr3⟩
  obtain ⟨B, cb, rfl, -⟩ := own_form o3
  have r3 := grown_keep (gr2.trans gr3) r1 (by omega)
  have b3 : Below w.heap.size w w3 := b1.trans (below_grown (gr2.trans gr3) (by omega) (by omega))
  have hw2 : w.heap.size < w2.heap.size := by have := gr2.size; omega
  have R : Hid (GotFall w (.returned (.tuple #[stA s, .slice B p.length cb])) (put6 w3 w.heap.size s)) := by
    refine ⟨s, p, B, cb, ⟨hsg, by unfold lenS; omega⟩, hp4, hpi, rfl, ?_, put6_below b3 (Nat.le_refl _)⟩
    have g6 : w3.grownBy (put6 w3 w.heap.size s) (some w.heap.size) := by
      unfold put6
      exact ((((((Go.Lib.grownBy_setCell _ _ _ _).trans (Go.Lib.grownBy_setCell _ _ _ _)).trans (Go.Lib.grownBy_setCell _ _ _ _)).trans (Go.Lib.grownBy_setCell _ _ _ _)).trans (Go.Lib.grownBy_setCell _ _ _ _)).trans (Go.Lib.grownBy_setCell _ _ _ _))
    exact own_rws (own_cur o3 g6 hw2)
  clear gr2 gr3 hc1 hc2 hc3 b1 b3 o3 hp4 hpi hsg hs1 hs2 hs3 r1
  unfold stA at *
  unfold put6 at R
  have c0 := cell_of_row _ _ 0 _ _ _ r3
  have z0 := frozen_of_row _ _ 0 _ _ r3
  have c1 := cell_of_row _ _ 1 _ _ _ r3
  have z1 := frozen_of_row _ _ 1 _ _ r3
  have c2 := cell_of_row _ _ 2 _ _ _ r3
  have z2 := frozen_of_row _ _ 2 _ _ r3
  have c3 := cell_of_row _ _ 3 _ _ _ r3
  have z3 := frozen_of_row _ _ 3 _ _ r3
  have c4 := cell_of_row _ _ 4 _ _ _ r3
  have z4 := frozen_of_row _ _ 4 _ _ r3
  have c5 := cell_of_row _ _ 5 _ _ _ r3
  have z5 := frozen_of_row _ _ 5 _ _ r3
  simp at c0 c1 c2 c3 c4 c5
  clear r3
  go_wp2
  simp [bodyPost, results, Try.results11, go_sem, c0, c1, c2, c3, c4, c5]
  exact R.out
end Go.Proofs.Ytcapioiigfldoaa
