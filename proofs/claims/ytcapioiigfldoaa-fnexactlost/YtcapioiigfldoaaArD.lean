/- The draws over areas. -/
import Derived.Test.YtcapioiigfldoaaRows
import Derived.Test.YtcapioiigfldoaaStL
namespace Go.Proofs.Ytcapioiigfldoaa
open Go.RowKit
set_option linter.unusedSimpArgs false
set_option linter.unusedVariables false
/-- The draw hands out an area. -/
def GotArea (w : World) (g : Nat) (A : Option Addr) (l : List Nat) (c : Nat) (e : Ending) (w' : World) : Prop :=
  ∃ a : Ar, (a.go ∧ a.data.size ≤ 20000) ∧ e = .returned (arA a) ∧ Cur w' g A l c ∧ w.grownBy w' (some g)
theorem grown_made (w : World) (o : Obj) (g : Nat) : w.grownBy (w.alloc o) (some g) := World.grownBy_alloc w o (some g)
/-- A block that was made lies as it was made. -/
theorem grown_at {w w2 : World} {o : Obj} {g : Nat} (h : (w.alloc o).grownBy w2 (some g)) (hg : g < w.heap.size) : w2.heap[w.heap.size]? = some o := by
  rw [h.block w.heap.size (by simp) (by simp; omega), heap_new]
theorem got_area {w w2 : World} {g r : Nat} {A : Option Addr} {l : List Nat} {c : Nat} {u v : Value} {d : ByteArray} {z : Int} (hd : d.size ≤ 20000) (hz : -9223372036854775808 ≤ z ∧ z ≤ 9223372036854775807) (hc : Cur w2 g A l c) (gr : w.grownBy w2 (some g)) (hg : g < w.heap.size) (hr : r = w.heap.size) :
    GotArea w g A l c (.returned (.agg #[.string d, .int .i64 z])) ((w2.setCell ⟨r, 0, none⟩ u).setCell ⟨r, 1, none⟩ v) := by
  subst hr
  have k1 := Go.Lib.grownBy_setCell w2 w.heap.size 0 u
  have k2 := Go.Lib.grownBy_setCell (w2.setCell ⟨w.heap.size, 0, none⟩ u) w.heap.size 1 v
  refine ⟨⟨d, z⟩, ⟨⟨by show d.size ≤ _; omega, hz⟩, hd⟩, rfl, ?_, ?_⟩
  · exact (hc.grown k1 (fun k hk => by injection hk with hk; omega)).grown k2 (fun k hk => by injection hk with hk; omega)
  · exact grown_step (grown_step gr k1 (fun k hk => by injection hk with hk; omega)) k2 (fun k hk => by injection hk with hk; omega)
def areaTexts : List ByteArray := [⟨#[]⟩, ⟨#[97]⟩, ⟨#[115, 111, 109, 101, 32, 98, 121, 116, 101, 115]⟩, ⟨#[0, 1, 2, 3]⟩]
set_option maxRecDepth 100000 in
set_option maxHeartbeats 800000 in
theorem l3Right_any (A : Option Addr) (l : List Nat) (c g : Nat) (w : World) (hl : l.length ≤ 2097152) (hb : AllB l) (hcw : Cur w g A l c) :
    Calls Try.prog 55 #[.pointer (some ⟨g, 0, none⟩)] w (GotArea w g A l c) := by
  have hlt := hcw.lt
  have hx := strings_new (w.alloc (.cells #[.string ⟨#[]⟩, .int .i64 0] 25)) areaTexts
  rw [World.size_alloc] at hx
  have gr0 := grown_made w (.cells #[.string ⟨#[]⟩, .int .i64 0] 25) g
  have gr1 := grown_made (w.alloc (.cells #[.string ⟨#[]⟩, .int .i64 0] 25)) (.cells (areaTexts.map Value.string).toArray 9) g
  go_enter Try.func55, Try.ntmps55
  go_wp2_with fail
  refine (l1Pick_any A l c g areaTexts (w.heap.size + 1) 4 4 _ hl hb ((hcw.alloc _).alloc _) rfl (by decide) (by decide) (by omega) hx).mono ?_
  rintro e w1 ⟨s, hs, rfl, hc1, gr1'⟩
  have gr1 := gr1.trans gr1'
  clear gr1' hx
  have hs10 : s.size ≤ 1000 := by
    simp only [areaTexts, List.mem_cons, List.not_mem_nil, or_false] at hs
    rcases hs with rfl | rfl | rfl | rfl <;> decide
  clear hs
  go_wp2_with fail
  refine (l1Once_any A l c g 3 _ hl hb (by omega) (by omega) hc1).mono ?_
  rintro e w2 ⟨t, rfl, hc2, gr2'⟩
  have gr2 := gr1.trans gr2'
  clear gr1 gr2' hc1
  cases t with
  | true =>
    go_wp2_with fail
    refine (l2Log_any A l c g _ hl hb hc2).mono ?_
    rintro e w3 ⟨S, hS, rfl, hc3, gr3'⟩
    have gr3 := gr2.trans gr3'
    clear gr2 gr3' hc2
    have CB : Hid (Calls Try.prog 53 #[.pointer (some ⟨g, 0, none⟩), .int .i64 ((S.size : Int) + 1)] w3 (GotBelow w3 g A l c (S.size + 1))) := l1Below_any A l c g (S.size + 1) _ hl hb (by omega) (by omega) hc3
    go_wp2_with fail
    refine CB.out.mono ?_
    rintro e w4 ⟨x, hx, rfl, hc4, gr4'⟩
    have gr4 := gr3.trans gr4'
    have hg := grown_at gr4 hlt
    have c0 := cell_of_row _ _ 0 _ _ _ hg
    have c1 := cell_of_row _ _ 1 _ _ _ hg
    have z0 := frozen_of_row _ _ 0 _ _ hg
    have z1 := frozen_of_row _ _ 1 _ _ hg
    simp at c0 c1
    have R : Hid (∀ u v, GotArea w g A l c (.returned (.agg #[.string S, .int .i64 (x : Int)])) ((w4.setCell ⟨w.heap.size, 0, none⟩ u).setCell ⟨w.heap.size, 1, none⟩ v)) := fun u v => got_area (by omega) (by omega) hc4 (gr0.trans gr4) hlt rfl
    clear gr0 gr3 gr4 gr4' hc3 hc4 CB hg
    go_wp2
    simp [bodyPost, results, Try.results55, go_sem, c0, c1]
    exact R.out _ _
  | false =>
    have CB : Hid (Calls Try.prog 53 #[.pointer (some ⟨g, 0, none⟩), .int .i64 ((s.size : Int) + 1)] w2 (GotBelow w2 g A l c (s.size + 1))) := l1Below_any A l c g (s.size + 1) _ hl hb (by omega) (by omega) hc2
    go_wp2_with fail
    refine CB.out.mono ?_
    rintro e w4 ⟨x, hx, rfl, hc4, gr4'⟩
    have gr4 := gr2.trans gr4'
    have hg := grown_at gr4 hlt
    have c0 := cell_of_row _ _ 0 _ _ _ hg
    have c1 := cell_of_row _ _ 1 _ _ _ hg
    have z0 := frozen_of_row _ _ 0 _ _ hg
    have z1 := frozen_of_row _ _ 1 _ _ hg
    simp at c0 c1
    have R : Hid (∀ u v, GotArea w g A l c (.returned (.agg #[.string s, .int .i64 (x : Int)])) ((w4.setCell ⟨w.heap.size, 0, none⟩ u).setCell ⟨w.heap.size, 1, none⟩ v)) := fun u v => got_area (by omega) (by omega) hc4 (gr0.trans gr4) hlt rfl
    clear gr0 gr2 gr4 gr4' hc2 hc4 CB hg
    go_wp2
    simp [bodyPost, results, Try.results55, go_sem, c0, c1]
    exact R.out _ _
theorem cur_set {w : World} {g q i : Nat} {A : Option Addr} {l : List Nat} {c : Nat} (hc : Cur w g A l c) (hq : g < q) (v : Value) : Cur (w.setCell ⟨q, i, none⟩ v) g A l c :=
  hc.grown (Go.Lib.grownBy_setCell w q i v) (fun k hk => by injection hk with hk; omega)
theorem grown_set {w0 w : World} {g q i : Nat} (gr : w0.grownBy w (some g)) (hq : w0.heap.size ≤ q) (v : Value) : w0.grownBy (w.setCell ⟨q, i, none⟩ v) (some g) :=
  grown_step gr (Go.Lib.grownBy_setCell w q i v) (fun k hk => by injection hk with hk; omega)
set_option maxRecDepth 100000 in
set_option maxHeartbeats 1600000 in
theorem l3Draw_any (A : Option Addr) (l : List Nat) (c g : Nat) (w : World) (hl : l.length ≤ 2097152) (hb : AllB l) (hcw : Cur w g A l c) :
    Calls Try.prog 42 #[.pointer (some ⟨g, 0, none⟩)] w (GotArea w g A l c) := by
  have hlt := hcw.lt
  have gr0 := grown_made w (.cells #[.string ⟨#[]⟩, .int .i64 0] 25) g
  go_enter Try.func42, Try.ntmps42
  go_wp2_with fail
  refine (l3Right_any A l c g _ hl hb (hcw.alloc _)).mono ?_
  rintro e w1 ⟨a, ⟨⟨_, ha1, ha2⟩, hsz⟩, rfl, hc1, gr1⟩
  unfold arA
  have hlt1 := hc1.lt
  have hle1 : w.heap.size < w1.heap.size := by have := gr1.size; simp at this; omega
  have gr1 := gr1.trans (grown_made w1 (.cells #[.string a.data, .int .i64 a.safe] 25) g)
  go_wp2_with fail
  refine (l1Below_any A l c g 12 _ hl hb (by omega) (by omega) (hc1.alloc _)).mono ?_
  rintro e w2 ⟨k, hk, rfl, hc2, gr2⟩
  by_cases k0 : k = 0
  · subst k0
    have hx := ints_new w2 [-1, (a.data.size : Int) + 1, 9223372036854775807, -9223372036854775808]
    have hg := grown_at (gr1.trans gr2) hlt
    have hq := grown_at gr2 hlt1
    have c0 := cell_of_row _ _ 0 _ _ _ hg
    have c1 := cell_of_row _ _ 1 _ _ _ hg
    have z0 := frozen_of_row _ _ 0 _ _ hg
    have z1 := frozen_of_row _ _ 1 _ _ hg
    have d0 := cell_of_row _ _ 0 _ _ _ hq
    have d1 := cell_of_row _ _ 1 _ _ _ hq
    have y1 := frozen_of_row _ _ 1 _ _ hq
    simp at c0 c1 d0 d1
    have gr3 := gr2.trans (grown_made w2 (.cells ([-1, (a.data.size : Int) + 1, 9223372036854775807, -9223372036854775808].map (Value.int .i64)).toArray 3) g)
    have hlt2 := hc2.lt
    have hle2 : w1.heap.size < w2.heap.size := by have := gr2.size; simp at this; omega
    go_wp2_with fail
    refine (l1PickInt_any A l c g [-1, (a.data.size : Int) + 1, 9223372036854775807, -9223372036854775808] w2.heap.size 4 4 _ hl hb (hc2.alloc _) rfl (by simp) (by simp) (by omega) hx).mono ?_
    rintro e w3 ⟨n, hn, rfl, hc3, gr3'⟩
    have hn2 : -9223372036854775808 ≤ n ∧ n ≤ 9223372036854775807 := by simp at hn; omega
    have gr3 := gr3.trans gr3'
    clear c0 c1 d0 d1 z0 z1 y1 hg hq hx hn gr3'
    have hg := grown_at (gr1.trans gr3) hlt
    have hq := grown_at gr3 hlt1
    have c0 := cell_of_row _ _ 0 _ _ _ hg
    have c1 := cell_of_row _ _ 1 _ _ _ hg
    have z0 := frozen_of_row _ _ 0 _ _ hg
    have z1 := frozen_of_row _ _ 1 _ _ hg
    have d0 := cell_of_row _ _ 0 _ _ _ hq
    have d1 := cell_of_row _ _ 1 _ _ _ hq
    have y1 := frozen_of_row _ _ 1 _ _ hq
    simp at c0 c1 d0 d1
    have R : Hid (∀ u v, GotArea w g A l c (.returned (.agg #[.string a.data, .int .i64 n])) (((w3.setCell ⟨w1.heap.size, 1, none⟩ (.int .i64 n)).setCell ⟨w.heap.size, 0, none⟩ u).setCell ⟨w.heap.size, 1, none⟩ v)) := fun u v => got_area hsz hn2 (cur_set hc3 (by omega) _) (grown_set (gr0.trans (gr1.trans gr3)) (by omega) _) hlt rfl
    have hne : ¬ w.heap.size = w1.heap.size := by omega
    have hne' : ¬ w1.heap.size = w.heap.size := by omega
    clear gr0 gr1 gr2 gr3 hc1 hc2 hc3 hg hq
    go_wp2
    simp [bodyPost, results, Try.results42, go_sem, c0, c1, d0, d1, hne, hne']
    exact R.out _ _
  have e0 : ((k : Int) == 0) = false := by simp; omega
  by_cases k1 : k = 1
  · subst k1
    have hg := grown_at (gr1.trans gr2) hlt
    have hq := grown_at gr2 hlt1
    have c0 := cell_of_row _ _ 0 _ _ _ hg
    have c1 := cell_of_row _ _ 1 _ _ _ hg
    have z0 := frozen_of_row _ _ 0 _ _ hg
    have z1 := frozen_of_row _ _ 1 _ _ hg
    have d0 := cell_of_row _ _ 0 _ _ _ hq
    have d1 := cell_of_row _ _ 1 _ _ _ hq
    have y1 := frozen_of_row _ _ 1 _ _ hq
    simp at c0 c1 d0 d1
    have R : Hid (∀ u v, GotArea w g A l c (.returned (.agg #[.string a.data, .int .i64 (a.data.size : Int)])) (((w2.setCell ⟨w1.heap.size, 1, none⟩ (.int .i64 (a.data.size : Int))).setCell ⟨w.heap.size, 0, none⟩ u).setCell ⟨w.heap.size, 1, none⟩ v)) := fun u v => got_area hsz (by omega) (cur_set hc2 (by omega) _) (grown_set (gr0.trans (gr1.trans gr2)) (by omega) _) hlt rfl
    have hne : ¬ w.heap.size = w1.heap.size := by omega
    have hne' : ¬ w1.heap.size = w.heap.size := by omega
    clear gr0 gr1 gr2 hc1 hc2 hg hq
    go_wp2
    simp [bodyPost, results, Try.results42, go_sem, c0, c1, d0, d1, hne, hne']
    exact R.out _ _
  have e1 : ((k : Int) == 1) = false := by simp; omega
  by_cases k2 : k = 2
  · subst k2
    have hg := grown_at (gr1.trans gr2) hlt
    have hq := grown_at gr2 hlt1
    have c0 := cell_of_row _ _ 0 _ _ _ hg
    have c1 := cell_of_row _ _ 1 _ _ _ hg
    have z0 := frozen_of_row _ _ 0 _ _ hg
    have z1 := frozen_of_row _ _ 1 _ _ hg
    have d0 := cell_of_row _ _ 0 _ _ _ hq
    have d1 := cell_of_row _ _ 1 _ _ _ hq
    have y1 := frozen_of_row _ _ 1 _ _ hq
    simp at c0 c1 d0 d1
    have R : Hid (∀ u v, GotArea w g A l c (.returned (.agg #[.string a.data, .int .i64 (a.data.size : Int)])) (((w2.setCell ⟨w1.heap.size, 1, none⟩ (.int .i64 (a.data.size : Int))).setCell ⟨w.heap.size, 0, none⟩ u).setCell ⟨w.heap.size, 1, none⟩ v)) := fun u v => got_area hsz (by omega) (cur_set hc2 (by omega) _) (grown_set (gr0.trans (gr1.trans gr2)) (by omega) _) hlt rfl
    have hne : ¬ w.heap.size = w1.heap.size := by omega
    have hne' : ¬ w1.heap.size = w.heap.size := by omega
    clear gr0 gr1 gr2 hc1 hc2 hg hq
    go_wp2
    simp [bodyPost, results, Try.results42, go_sem, c0, c1, d0, d1, hne, hne']
    exact R.out _ _
  have e2 : ((k : Int) == 2) = false := by simp; omega
  by_cases k3 : k = 3
  · subst k3
    have hg := grown_at (gr1.trans gr2) hlt
    have hq := grown_at gr2 hlt1
    have c0 := cell_of_row _ _ 0 _ _ _ hg
    have c1 := cell_of_row _ _ 1 _ _ _ hg
    have z0 := frozen_of_row _ _ 0 _ _ hg
    have z1 := frozen_of_row _ _ 1 _ _ hg
    have d0 := cell_of_row _ _ 0 _ _ _ hq
    have d1 := cell_of_row _ _ 1 _ _ _ hq
    have y1 := frozen_of_row _ _ 1 _ _ hq
    simp at c0 c1 d0 d1
    have R : Hid (∀ u v, GotArea w g A l c (.returned (.agg #[.string a.data, .int .i64 (a.data.size : Int)])) (((w2.setCell ⟨w1.heap.size, 1, none⟩ (.int .i64 (a.data.size : Int))).setCell ⟨w.heap.size, 0, none⟩ u).setCell ⟨w.heap.size, 1, none⟩ v)) := fun u v => got_area hsz (by omega) (cur_set hc2 (by omega) _) (grown_set (gr0.trans (gr1.trans gr2)) (by omega) _) hlt rfl
    have hne : ¬ w.heap.size = w1.heap.size := by omega
    have hne' : ¬ w1.heap.size = w.heap.size := by omega
    clear gr0 gr1 gr2 hc1 hc2 hg hq
    go_wp2
    simp [bodyPost, results, Try.results42, go_sem, c0, c1, d0, d1, hne, hne']
    exact R.out _ _
  have e3 : ((k : Int) == 3) = false := by simp; omega
  have hg := grown_at (gr1.trans gr2) hlt
  have hq := grown_at gr2 hlt1
  have c0 := cell_of_row _ _ 0 _ _ _ hg
  have c1 := cell_of_row _ _ 1 _ _ _ hg
  have z0 := frozen_of_row _ _ 0 _ _ hg
  have z1 := frozen_of_row _ _ 1 _ _ hg
  have d0 := cell_of_row _ _ 0 _ _ _ hq
  have d1 := cell_of_row _ _ 1 _ _ _ hq
  have y1 := frozen_of_row _ _ 1 _ _ hq
  simp at c0 c1 d0 d1
  have R : Hid (∀ u v, GotArea w g A l c (.returned (.agg #[.string a.data, .int .i64 a.safe])) ((w2.setCell ⟨w.heap.size, 0, none⟩ u).setCell ⟨w.heap.size, 1, none⟩ v)) := fun u v => got_area hsz ⟨ha1, ha2⟩ hc2 (gr0.trans (gr1.trans gr2)) hlt rfl
  have hne : ¬ w.heap.size = w1.heap.size := by omega
  have hne' : ¬ w1.heap.size = w.heap.size := by omega
  clear gr0 gr1 gr2 hc1 hc2 hg hq
  go_wp2
  simp [bodyPost, results, Try.results42, go_sem, c0, c1, d0, d1, hne, hne']
  exact R.out _ _
end Go.Proofs.Ytcapioiigfldoaa
