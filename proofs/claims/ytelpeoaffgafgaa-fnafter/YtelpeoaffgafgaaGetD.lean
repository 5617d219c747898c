/- GetNum of the program. -/
import Derived.Test.YtelpeoaffgafgaaRows
import Derived.Test.YtelpeoaffgafgaaGet
namespace Go.Proofs.Ytelpeoaffgafgaa
open Go.RowKit
set_option maxRecDepth 100000 in
theorem mustNum_any (A : Option Addr) (l : List Nat) (c B : Nat) (at_ : Int) (w : World) (hl : l.length ≤ 2097152) (hc : l.length ≤ c) (hA : Bts w B A l) (hb : AllB l) (hat : at_ ≤ 9223372036854775807) :
    Calls Try.prog 77 #[.slice A l.length c, .int .i64 at_] w fun e w' => e = mustEnd (getN l at_) at_.toNat ∧ Below w.heap.size w w' := by
  by_cases h0 : 0 ≤ at_
  · obtain ⟨m, rfl⟩ := Int.eq_ofNat_of_zero_le h0
    rw [Int.toNat_natCast]
    by_cases hlt : m < l.length
    · exact mustNum_in A l c B m w hl hc hA hb hlt
    · have hno : getN l (m : Int) = none := by unfold getN; rw [if_neg (by omega), Int.toNat_natCast]; exact getF_end _ _ _ _ _ (by omega)
      have HF := Lib.hid (must_no (a := m) hno)
      clear hno
      have ha0 : decide ((m : Int) < 0) = false := by simp
      have ha1 : decide (l.length ≤ m) = true := by simp; omega
      go_enter Try.func77, Try.ntmps77
      go_wp2
      exact ⟨rfl, HF.out, Below.refl _ _⟩
  · have hno : getN l at_ = none := by unfold getN; rw [if_pos (by omega)]
    have HF := Lib.hid (must_no (a := at_.toNat) hno)
    clear hno
    have ha0 : decide (at_ < 0) = true := by simp; omega
    go_enter Try.func77, Try.ntmps77
    go_wp2
    exact ⟨rfl, HF.out, Below.refl _ _⟩
set_option maxRecDepth 100000 in
theorem mustNum_yes (A : Option Addr) (l : List Nat) (c B : Nat) (at_ : Int) (w : World) (hl : l.length ≤ 2097152) (hc : l.length ≤ c) (hA : Bts w B A l) (hb : AllB l) (hat : at_ ≤ 9223372036854775807)
    {n k : Nat} (hg : getN l at_ = some (n, k)) :
    Calls Try.prog 77 #[.slice A l.length c, .int .i64 at_] w fun e w' => e = .returned (.tuple #[.int .i64 (n : Int), .int .i64 ((at_.toNat + k : Nat) : Int)]) ∧ Below w.heap.size w w' :=
  (mustNum_any A l c B at_ w hl hc hA hb hat).mono fun e w' ⟨he, h⟩ => ⟨by rw [he, hg]; rfl, h⟩
set_option maxRecDepth 100000 in
theorem mustNum_no (A : Option Addr) (l : List Nat) (c B : Nat) (at_ : Int) (w : World) (hl : l.length ≤ 2097152) (hc : l.length ≤ c) (hA : Bts w B A l) (hb : AllB l) (hat : at_ ≤ 9223372036854775807)
    (hg : getN l at_ = none) :
    Calls Try.prog 77 #[.slice A l.length c, .int .i64 at_] w fun e w' => e = .panicked [{ v := .iface 128 (.agg #[]), recovered := false }] ∧ Below w.heap.size w w' :=
  (mustNum_any A l c B at_ w hl hc hA hb hat).mono fun e w' ⟨he, h⟩ => ⟨by rw [he, hg]; rfl, h⟩
set_option maxRecDepth 100000 in
/-- The closure of GetNum, where the call below it panics: the three results are cleared. -/
theorem catchNum_panic (p q r : Addr) (x y z : Value) (u : TypeId) (pv : Value) (older : List PanicEntry) (w : World) (hp : w.cell? p = some x) (hpz : w.frozen? p = false)
    (hq : (w.setCell p (.int .i64 0)).cell? q = some y) (hqz : (w.setCell p (.int .i64 0)).frozen? q = false)
    (hr : ((w.setCell p (.int .i64 0)).setCell q (.int .i64 0)).cell? r = some z) (hrz : ((w.setCell p (.int .i64 0)).setCell q (.int .i64 0)).frozen? r = false) :
    CallsD Try.prog 76 #[.pointer (some p), .pointer (some q), .pointer (some r)] (.panicking ({ v := .iface u pv, recovered := false } :: older)) w fun e u' w' =>
      e = .returned (.tuple #[]) ∧ u' = .panicking ({ v := .iface u pv, recovered := true } :: older) ∧
      w' = ((w.setCell p (.int .i64 0)).setCell q (.int .i64 0)).setCell r (.bool false) := by
  refine callsD_of_wpS Try.func76 rfl fun c₀ cs hu => ?_
  apply wpS_seq
  apply wpS_region
  simp [wpOpsS, go_sem, recoverD, hu, Try.ntmps76, Exit.thenS]
  refine wpS_cond (t := true) (by simp [Act.eval, Array.replicate]) ?_
  simp only [if_true]
  apply wpS_region
  simp [wpOpsS, go_sem, hp, hpz, hq, hqz, hr, hrz, bodyPostS, results, Try.results76]
set_option maxRecDepth 100000 in
theorem catchNum_idle (p q r : Addr) (w : World) :
    CallsD Try.prog 76 #[.pointer (some p), .pointer (some q), .pointer (some r)] .returning w fun e u' w' => e = .returned (.tuple #[]) ∧ u' = .returning ∧ w' = w := by
  refine callsD_of_wpS Try.func76 rfl fun c₀ cs hu => ?_
  apply wpS_seq
  apply wpS_region
  simp [wpOpsS, go_sem, recoverD, hu, Try.ntmps76, Exit.thenS]
  refine wpS_cond (t := false) (by simp [Act.eval, Array.replicate]) ?_
  simp only [Bool.false_eq_true, if_false]
  refine wpS_of_wp (wp_skip ?_)
  cases c₀
  simp_all [bodyPostS, results, Try.results76]
/-- The second of two boxes, each written twice. -/
theorem boxes (w : World) (g : Nat) (b x y : Value) (hb : w.cell? ⟨g + 1, 0, none⟩ = some b) :
    ((((w.setCell ⟨g, 0, none⟩ x).setCell ⟨g + 1, 0, none⟩ y).setCell ⟨g, 0, none⟩ x).setCell ⟨g + 1, 0, none⟩ y).cell? ⟨g + 1, 0, none⟩ = some y := by
  have hne : (⟨g, 0, none⟩ : Addr) ≠ ⟨g + 1, 0, none⟩ := by simp
  have h1 : (w.setCell ⟨g, 0, none⟩ x).cell? ⟨g + 1, 0, none⟩ = some b := by rw [World.cell?_setCell_other _ _ _ _ hne]; exact hb
  have h2 := World.cell?_setCell_same _ _ y h1
  have h3 : (((w.setCell ⟨g, 0, none⟩ x).setCell ⟨g + 1, 0, none⟩ y).setCell ⟨g, 0, none⟩ x).cell? ⟨g + 1, 0, none⟩ = some y := by rw [World.cell?_setCell_other _ _ _ _ hne]; exact h2
  exact World.cell?_setCell_same _ _ y h3
set_option maxHeartbeats 800000 in
set_option maxRecDepth 100000 in
theorem getNum_impl_yes (A : Option Addr) (l : List Nat) (c : Nat) (at_ : Int) (n k : Nat) (w : World) (hl : l.length ≤ 2097152) (hc : l.length ≤ c) (hA : Bts w w.heap.size A l) (hb : AllB l)
    (hat : at_ ≤ 9223372036854775807) (hg : getN l at_ = some (n, k)) :
    Calls Try.prog 55 #[.slice A l.length c, .int .i64 at_] w fun e w' => e = .returned (gotV (getN l at_) at_.toNat) ∧ Below w.heap.size w w' := by
  have hmf : ∀ (fn : Fn) (first cap : Array Value) (w : World), (Instr.makeFunc fn first cap).run Try.prog w = .ok (.func fn first cap) w := fun _ _ _ _ => rfl
  obtain ⟨y, hy⟩ : ∃ y, y = at_.toNat + k := ⟨_, rfl⟩
  have HF : Hid (Ending.returned (.tuple #[.int .i64 (n : Int), .int .i64 (y : Int), .bool true]) = .returned (gotV (getN l at_) at_.toNat)) := ret_yes hg rfl (by rw [hy])
  have HC := Lib.hid (fun w hA => mustNum_yes A l c w.heap.size at_ w hl hc hA hb hat hg)
  rw [← hy] at HC
  clear hg hy
  go_enter_defers Try.func55, Try.ntmps55
  go_wp2_with fail
  have bW : Below w.heap.size w (((w.alloc (.cells #[.int .i64 0] 3)).alloc (.cells #[.int .i64 0] 3)).alloc (.cells #[.bool false] 4)) :=
    (((Below.refl _ _).alloc (Nat.le_refl _) _).alloc (by simp) _).alloc (by simp; omega) _
  refine (HC.out _ ((hA.below bW).more bW.size)).mono ?_
  rintro e w1 ⟨rfl, b1⟩
  have p1 := b1.cell (p := ⟨w.heap.size, 0, none⟩) (by simp; omega)
  have p2 := b1.cell (p := ⟨w.heap.size + 1, 0, none⟩) (by simp)
  have p3 := b1.cell (p := ⟨w.heap.size + 1 + 1, 0, none⟩) (by simp)
  have f1 := b1.frozen (p := ⟨w.heap.size, 0, none⟩) (by simp; omega)
  have f2 := b1.frozen (p := ⟨w.heap.size + 1, 0, none⟩) (by simp)
  have f3 := b1.frozen (p := ⟨w.heap.size + 1 + 1, 0, none⟩) (by simp)
  simp [go_sem] at p1 p2 p3 f1 f2 f3
  go_wp2
  go_region
  go_wp2
  refine leaves_cons (f := 76) (args := #[.pointer (some ⟨w.heap.size, 0, none⟩), .pointer (some ⟨w.heap.size + 1, 0, none⟩), .pointer (some ⟨w.heap.size + 1 + 1, 0, none⟩)]) (by simp) (by simp [go_sem]) ?_
  refine (catchNum_idle _ _ _ _).mono ?_
  rintro e u' w'' ⟨rfl, rfl, rfl⟩
  have p5 := boxes w1 w.heap.size _ (.int .i64 (n : Int)) (.int .i64 (y : Int)) p2
  simp [Leaves, settle, results, Try.results55, go_sem, p1, p3, p5]
  refine ⟨by have h := HF.out; injection h, ?_⟩
  have b2 : Below w.heap.size w w1 := bW.trans (b1.mono bW.size)
  exact (((((b2.setCell (by simp) _).setCell (by simp) _).setCell (by simp) _).setCell (by simp) _).setCell (by simp; omega) _).drew
set_option maxHeartbeats 800000 in
set_option maxRecDepth 100000 in
theorem getNum_impl_no (A : Option Addr) (l : List Nat) (c : Nat) (at_ : Int) (w : World) (hl : l.length ≤ 2097152) (hc : l.length ≤ c) (hA : Bts w w.heap.size A l) (hb : AllB l)
    (hat : at_ ≤ 9223372036854775807) (hg : getN l at_ = none) :
    Calls Try.prog 55 #[.slice A l.length c, .int .i64 at_] w fun e w' => e = .returned (gotV (getN l at_) at_.toNat) ∧ Below w.heap.size w w' := by
  have hmf : ∀ (fn : Fn) (first cap : Array Value) (w : World), (Instr.makeFunc fn first cap).run Try.prog w = .ok (.func fn first cap) w := fun _ _ _ _ => rfl
  have HF : Hid (Ending.returned (.tuple #[.int .i64 0, .int .i64 0, .bool false]) = .returned (gotV (getN l at_) at_.toNat)) := ret_no hg
  have HC := Lib.hid (fun w hA => mustNum_no A l c w.heap.size at_ w hl hc hA hb hat hg)
  clear hg
  go_enter_defers Try.func55, Try.ntmps55
  go_wp2_with fail
  have bW : Below w.heap.size w (((w.alloc (.cells #[.int .i64 0] 3)).alloc (.cells #[.int .i64 0] 3)).alloc (.cells #[.bool false] 4)) :=
    (((Below.refl _ _).alloc (Nat.le_refl _) _).alloc (by simp) _).alloc (by simp; omega) _
  refine (HC.out _ ((hA.below bW).more bW.size)).mono ?_
  rintro e w1 ⟨rfl, b1⟩
  have p1 := b1.cell (p := ⟨w.heap.size, 0, none⟩) (by simp; omega)
  have p2 := b1.cell (p := ⟨w.heap.size + 1, 0, none⟩) (by simp)
  have p3 := b1.cell (p := ⟨w.heap.size + 1 + 1, 0, none⟩) (by simp)
  have f1 := b1.frozen (p := ⟨w.heap.size, 0, none⟩) (by simp; omega)
  have f2 := b1.frozen (p := ⟨w.heap.size + 1, 0, none⟩) (by simp)
  have f3 := b1.frozen (p := ⟨w.heap.size + 1 + 1, 0, none⟩) (by simp)
  simp [go_sem] at p1 p2 p3 f1 f2 f3
  go_wp2
  refine leaves_cons (f := 76) (args := #[.pointer (some ⟨w.heap.size, 0, none⟩), .pointer (some ⟨w.heap.size + 1, 0, none⟩), .pointer (some ⟨w.heap.size + 1 + 1, 0, none⟩)]) (by simp) (by simp [go_sem]) ?_
  refine (catchNum_panic ⟨w.heap.size, 0, none⟩ ⟨w.heap.size + 1, 0, none⟩ ⟨w.heap.size + 1 + 1, 0, none⟩ (.int .i64 0) (.int .i64 0) (.bool false) 128 _ [] _ p1 f1 ?_ ?_ ?_ ?_).mono ?_
  · simp [go_sem, p2]
  · simp [go_sem, f2]
  · simp [go_sem, p3]
  · simp [go_sem, f3]
  rintro e u' w'' ⟨rfl, rfl, rfl⟩
  simp [Leaves, settle, results, Try.results55, go_sem, p1, p2, p3]
  refine ⟨by have h := HF.out; injection h, ?_⟩
  have b2 : Below w.heap.size w w1 := bW.trans (b1.mono bW.size)
  exact ((b2.setCell (by simp) _).setCell (by simp) _).setCell (by simp; omega) _
set_option maxRecDepth 100000 in
theorem getNum_impl (A : Option Addr) (l : List Nat) (c : Nat) (at_ : Int) (w : World) (hl : l.length ≤ 2097152) (hc : l.length ≤ c) (hA : Bts w w.heap.size A l) (hb : AllB l)
    (hat : at_ ≤ 9223372036854775807) :
    Calls Try.prog 55 #[.slice A l.length c, .int .i64 at_] w fun e w' => e = .returned (gotV (getN l at_) at_.toNat) ∧ Below w.heap.size w w' := by
  rcases hg : getN l at_ with _ | ⟨n, k⟩
  · rw [← hg]; exact getNum_impl_no A l c at_ w hl hc hA hb hat hg
  · rw [← hg]; exact getNum_impl_yes A l c at_ n k w hl hc hA hb hat hg
end Go.Proofs.Ytelpeoaffgafgaa
