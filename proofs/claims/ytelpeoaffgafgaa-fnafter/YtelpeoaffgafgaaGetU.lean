/- GetText of the program. -/
import Derived.Test.YtelpeoaffgafgaaRows
import Derived.Test.YtelpeoaffgafgaaGetD
import Derived.Laws.BytesArg
namespace Go.Proofs.Ytelpeoaffgafgaa
open Go.RowKit
theorem getF_some (f k n : Nat) (l : List Nat) {v c : Nat} (h : getF f k n l = some (v, c)) : v ≤ 2147483647 ∧ k < c ∧ c ≤ k + f ∧ c ≤ k + l.length := by
  induction f generalizing k n l with
  | zero => cases h
  | succ f ih =>
    cases l with
    | nil => cases h
    | cons d r =>
      simp only [getF] at h
      split at h
      · have := ih _ _ _ h
        simp only [List.length_cons]; omega
      · split at h
        · cases h
        · injection h with h
          injection h with h1 h2
          simp only [List.length_cons]; omega
theorem getN_some {l : List Nat} {at_ : Int} {v c : Nat} (h : getN l at_ = some (v, c)) : 0 ≤ at_ ∧ v ≤ 2147483647 ∧ 0 < c ∧ c ≤ 5 ∧ at_.toNat + c ≤ l.length := by
  unfold getN at h
  split at h
  · cases h
  · have := getF_some _ _ _ _ h
    rw [List.length_drop] at this
    omega
/-- What GetText reads. -/
def getT (l : List Nat) (at_ : Int) : Option (List Nat × Nat) :=
  match getN l at_ with
  | none => none
  | some (n, k) => if l.length < at_.toNat + k + n then none else some ((l.drop (at_.toNat + k)).take n, at_.toNat + k + n)
/-- The string of these bytes. -/
def strB (l : List Nat) : ByteArray := strOfNums (l.map fun b : Nat => (b : Int))
def gotT (o : Option (List Nat × Nat)) : Value :=
  match o with
  | some (t, y) => .tuple #[.string (strB t), .int .i64 (y : Int), .bool true]
  | none => .tuple #[.string ⟨#[]⟩, .int .i64 0, .bool false]
set_option maxRecDepth 100000 in
theorem conv_bytes (w : World) (b off len cap : Nat) (t : List Nat) (hlen : t.length = len) (hc : ∀ k, k < t.length → w.cell? ⟨b, off + k, none⟩ = some (.int .u8 ((t.getD k 0 : Nat) : Int))) :
    (convert 22 9 (.slice (some ⟨b, off, none⟩) len cap)).run Try.prog w = .ok (.string (strB t)) w := by
  refine run_convert_bytes_arg w 22 5 Try.underlying22 Try.underlying5 b off len cap _ (by simpa using hlen) (fun i hi => ?_) 9 Try.underlying9
  rw [hc i (by omega)]
  simp [List.getD_eq_getElem?_getD]
  rw [List.getElem?_eq_getElem (by omega)]; rfl
set_option maxRecDepth 100000 in
/-- The slice that GetText turns into a string, at whatever place. -/
theorem conv_part (w : World) (b off : Nat) (l : List Nat) (y n cap len : Nat) (hlen : len = n) (hy : y + n ≤ l.length)
    (hc : ∀ k, k < l.length → w.cell? ⟨b, off + k, none⟩ = some (.int .u8 ((l.getD k 0 : Nat) : Int))) :
    (convert 22 9 (.slice (some ⟨b, off + y, none⟩) len cap)).run Try.prog w = .ok (.string (strB ((l.drop y).take n))) w := by
  refine conv_bytes w b (off + y) len cap _ (by simp; omega) (fun k hk => ?_)
  simp at hk
  rw [Nat.add_assoc, hc (y + k) (by omega)]
  simp [List.getD_eq_getElem?_getD, hk]
  rw [List.getElem?_eq_getElem (by omega)]; rfl
theorem getT_no1 {l : List Nat} {at_ : Int} (h : getN l at_ = none) : getT l at_ = none := by unfold getT; rw [h]
theorem getT_no2 {l : List Nat} {at_ : Int} {n k : Nat} (h : getN l at_ = some (n, k)) (hlt : l.length < at_.toNat + k + n) : getT l at_ = none := by unfold getT; rw [h]; simp only; rw [if_pos hlt]
theorem getT_yes {l : List Nat} {at_ : Int} {n k : Nat} (h : getN l at_ = some (n, k)) (hlt : ¬ l.length < at_.toNat + k + n) : getT l at_ = some ((l.drop (at_.toNat + k)).take n, at_.toNat + k + n) := by
  unfold getT; rw [h]; simp only; rw [if_neg hlt]
set_option maxHeartbeats 800000 in
set_option maxRecDepth 100000 in
theorem mustText_no (A : Option Addr) (l : List Nat) (c : Nat) (at_ : Int) (w : World) (hl : l.length ≤ 2097152) (hcap : l.length ≤ c) (hA : Bts w w.heap.size A l) (hb : AllB l) (hat : at_ ≤ 9223372036854775807)
    (ht : getT l at_ = none) :
    Calls Try.prog 75 #[.slice A l.length c, .int .i64 at_] w fun e w' => e = .panicked [{ v := .iface 128 (.agg #[]), recovered := false }] ∧ Below w.heap.size w w' := by
  rcases hg : getN l at_ with _ | ⟨n, k⟩
  · have C := Lib.hid (fun w hA => mustNum_no A l c w.heap.size at_ w hl hcap hA hb hat hg)
    clear hg ht
    go_enter Try.func75, Try.ntmps75
    go_wp2_with fail
    refine (C.out _ hA).mono ?_
    rintro e w1 ⟨rfl, b1⟩
    go_wp2
    exact ⟨rfl, rfl, b1⟩
  · obtain ⟨h0, hn, hk, hk5, hy⟩ := getN_some hg
    have hlt : l.length < at_.toNat + k + n := by
      rcases Nat.lt_or_ge l.length (at_.toNat + k + n) with h | h
      · exact h
      · rw [getT_yes hg (by omega)] at ht; cases ht
    have C := Lib.hid (fun w hA => mustNum_yes A l c w.heap.size at_ w hl hcap hA hb hat hg)
    generalize at_.toNat + k = y at *
    have hgt : decide ((l.length : Int) - y < n) = true := by simp; omega
    clear hg ht
    go_enter Try.func75, Try.ntmps75
    go_wp2_with fail
    refine (C.out _ hA).mono ?_
    rintro e w1 ⟨rfl, b1⟩
    go_wp2
    exact ⟨rfl, rfl, b1⟩
set_option maxHeartbeats 800000 in
set_option maxRecDepth 100000 in
theorem mustText_yes (A : Option Addr) (l : List Nat) (c : Nat) (at_ : Int) (w : World) (hl : l.length ≤ 2097152) (hcap : l.length ≤ c) (hA : Bts w w.heap.size A l) (hb : AllB l) (hat : at_ ≤ 9223372036854775807)
    {t : List Nat} {z : Nat} (ht : getT l at_ = some (t, z)) :
    Calls Try.prog 75 #[.slice A l.length c, .int .i64 at_] w fun e w' => e = .returned (.tuple #[.string (strB t), .int .i64 (z : Int)]) ∧ Below w.heap.size w w' := by
  rcases hg : getN l at_ with _ | ⟨n, k⟩
  · rw [getT_no1 hg] at ht; cases ht
  · obtain ⟨h0, hn, hk, hk5, hy⟩ := getN_some hg
    have hlt : ¬ l.length < at_.toNat + k + n := by
      intro h
      rw [getT_no2 hg h] at ht; cases ht
    rw [getT_yes hg hlt] at ht
    injection ht with ht
    injection ht with ht1 ht2
    obtain ⟨b, off, rfl, hbB, hcell⟩ : ∃ b off, A = some ⟨b, off, none⟩ ∧ b < w.heap.size ∧ ∀ k, k < l.length → w.cell? ⟨b, off + k, none⟩ = some (.int .u8 ((l.getD k 0 : Nat) : Int)) := by
      rcases hA with rfl | h
      · simp at hy; omega
      · exact h
    have C := Lib.hid (fun w hA => mustNum_yes (some ⟨b, off, none⟩) l c w.heap.size at_ w hl hcap hA hb hat hg)
    generalize at_.toNat + k = y at *
    have hgt : decide ((l.length : Int) - y < n) = false := by simp; omega
    subst ht1
    subst ht2
    obtain ⟨S, hS⟩ : ∃ S, S = strB ((l.drop y).take n) := ⟨_, rfl⟩
    rw [← hS]
    clear hg
    have HCELL := Lib.hid hcell
    have HS := Lib.hid hS
    clear hcell hS
    go_enter Try.func75, Try.ntmps75
    go_wp2_with fail
    refine (C.out _ hA).mono ?_
    rintro e w1 ⟨rfl, b1⟩
    have hcell : ∀ k, k < l.length → w1.cell? ⟨b, off + k, none⟩ = some (.int .u8 ((l.getD k 0 : Nat) : Int)) := fun k hk => (b1.cell (by exact hbB)).trans (HCELL.out k hk)
    by_cases hcy : c = y
    · obtain rfl : n = 0 := by omega
      obtain rfl : y = l.length := by omega
      subst hcy
      have hS := HS.out
      have hcv := conv_bytes w1 b off 0 0 [] rfl (fun k hk => absurd hk (by simp))
      rw [List.take_zero] at hS
      rw [← hS] at hcv
      clear hcell hS
      go_wp2
      go_ret2
      exact ⟨rfl, b1⟩
    · have hcv := conv_part w1 b off l y n (c - y) n rfl (by omega) hcell
      rw [← HS.out] at hcv
      clear hcell
      go_wp2
      go_ret2
      exact ⟨rfl, b1⟩
set_option maxRecDepth 100000 in
/-- The closure of GetText, where the call below it panics: the three results are cleared. -/
theorem catchText_panic (p q r : Addr) (x y z : Value) (u : TypeId) (pv : Value) (older : List PanicEntry) (w : World) (hp : w.cell? p = some x) (hpz : w.frozen? p = false)
    (hq : (w.setCell p (.string ⟨#[]⟩)).cell? q = some y) (hqz : (w.setCell p (.string ⟨#[]⟩)).frozen? q = false)
    (hr : ((w.setCell p (.string ⟨#[]⟩)).setCell q (.int .i64 0)).cell? r = some z) (hrz : ((w.setCell p (.string ⟨#[]⟩)).setCell q (.int .i64 0)).frozen? r = false) :
    CallsD Try.prog 74 #[.pointer (some p), .pointer (some q), .pointer (some r)] (.panicking ({ v := .iface u pv, recovered := false } :: older)) w fun e u' w' =>
      e = .returned (.tuple #[]) ∧ u' = .panicking ({ v := .iface u pv, recovered := true } :: older) ∧
      w' = ((w.setCell p (.string ⟨#[]⟩)).setCell q (.int .i64 0)).setCell r (.bool false) := by
  refine callsD_of_wpS Try.func74 rfl fun c₀ cs hu => ?_
  apply wpS_seq
  apply wpS_region
  simp [wpOpsS, go_sem, recoverD, hu, Try.ntmps74, Exit.thenS]
  refine wpS_cond (t := true) (by simp [Act.eval, Array.replicate]) ?_
  simp only [if_true]
  apply wpS_region
  simp [wpOpsS, go_sem, hp, hpz, hq, hqz, hr, hrz, bodyPostS, results, Try.results74]
set_option maxRecDepth 100000 in
theorem catchText_idle (p q r : Addr) (w : World) :
    CallsD Try.prog 74 #[.pointer (some p), .pointer (some q), .pointer (some r)] .returning w fun e u' w' => e = .returned (.tuple #[]) ∧ u' = .returning ∧ w' = w := by
  refine callsD_of_wpS Try.func74 rfl fun c₀ cs hu => ?_
  apply wpS_seq
  apply wpS_region
  simp [wpOpsS, go_sem, recoverD, hu, Try.ntmps74, Exit.thenS]
  refine wpS_cond (t := false) (by simp [Act.eval, Array.replicate]) ?_
  simp only [Bool.false_eq_true, if_false]
  refine wpS_of_wp (wp_skip ?_)
  cases c₀
  simp_all [bodyPostS, results, Try.results74]
set_option maxHeartbeats 800000 in
set_option maxRecDepth 100000 in
theorem getText_impl_yes (A : Option Addr) (l : List Nat) (c : Nat) (at_ : Int) (w : World) (hl : l.length ≤ 2097152) (hc : l.length ≤ c) (hA : Bts w w.heap.size A l) (hb : AllB l)
    (hat : at_ ≤ 9223372036854775807) {t : List Nat} {y : Nat} (hg : getT l at_ = some (t, y)) :
    Calls Try.prog 54 #[.slice A l.length c, .int .i64 at_] w fun e w' => e = .returned (gotT (getT l at_)) ∧ Below w.heap.size w w' := by
  have hmf : ∀ (fn : Fn) (first cap : Array Value) (w : World), (Instr.makeFunc fn first cap).run Try.prog w = .ok (.func fn first cap) w := fun _ _ _ _ => rfl
  have HC := Lib.hid (fun w hA => mustText_yes A l c at_ w hl hc hA hb hat hg)
  obtain ⟨S, hS⟩ : ∃ S, S = strB t := ⟨_, rfl⟩
  have HF : Hid (Ending.returned (.tuple #[.string S, .int .i64 (y : Int), .bool true]) = .returned (gotT (getT l at_))) := by
    show _ = _
    rw [hg, hS]; rfl
  rw [← hS] at HC
  clear hg hS
  go_enter_defers Try.func54, Try.ntmps54
  go_wp2_with fail
  have bW : Below w.heap.size w (((w.alloc (.cells #[.string ⟨#[]⟩] 9)).alloc (.cells #[.int .i64 0] 3)).alloc (.cells #[.bool false] 4)) :=
    (((Below.refl _ _).alloc (Nat.le_refl _) _).alloc (by simp) _).alloc (by simp; omega) _
  refine (HC.out _ ((hA.below bW).more bW.size)).mono ?_
  rintro e w1 ⟨rfl, b1⟩
  have p1 := b1.cell (p := ⟨w.heap.size, 0, none⟩) (by simp; omega)
  have p2 := b1.cell (p := ⟨w.heap.size + 1, 0, none⟩) (by simp)
  have p3 := b1.cell (p := ⟨w.heap.size + 1 + 1, 0, none⟩) (by simp)
  have f1 := b1.frozen (p := ⟨w.heap.size, 0, none⟩) (by simp; omega)
  have f2 := b1.frozen (p := ⟨w.heap.size + 1, 0, none⟩) (by simp)
  have f3 := b1.frozen (p := ⟨w.heap.size + 1 + 1, 0, none⟩) (by simp)
  simp [go_sem] at p1 p2 p3 f1 f2 f3
  go_wp2
  go_region
  go_wp2
  refine leaves_cons (f := 74) (args := #[.pointer (some ⟨w.heap.size, 0, none⟩), .pointer (some ⟨w.heap.size + 1, 0, none⟩), .pointer (some ⟨w.heap.size + 1 + 1, 0, none⟩)]) (by simp) (by simp [go_sem]) ?_
  refine (catchText_idle _ _ _ _).mono ?_
  rintro e u' w'' ⟨rfl, rfl, rfl⟩
  have p5 := boxes w1 w.heap.size _ (.string S) (.int .i64 (y : Int)) p2
  simp [Leaves, settle, results, Try.results54, go_sem, p1, p3, p5]
  refine ⟨by have h := HF.out; injection h, ?_⟩
  have b2 : Below w.heap.size w w1 := bW.trans (b1.mono bW.size)
  exact (((((b2.setCell (by simp) _).setCell (by simp) _).setCell (by simp) _).setCell (by simp) _).setCell (by simp; omega) _).drew
set_option maxHeartbeats 800000 in
set_option maxRecDepth 100000 in
theorem getText_impl_no (A : Option Addr) (l : List Nat) (c : Nat) (at_ : Int) (w : World) (hl : l.length ≤ 2097152) (hc : l.length ≤ c) (hA : Bts w w.heap.size A l) (hb : AllB l)
    (hat : at_ ≤ 9223372036854775807) (hg : getT l at_ = none) :
    Calls Try.prog 54 #[.slice A l.length c, .int .i64 at_] w fun e w' => e = .returned (gotT (getT l at_)) ∧ Below w.heap.size w w' := by
  have hmf : ∀ (fn : Fn) (first cap : Array Value) (w : World), (Instr.makeFunc fn first cap).run Try.prog w = .ok (.func fn first cap) w := fun _ _ _ _ => rfl
  have HC := Lib.hid (fun w hA => mustText_no A l c at_ w hl hc hA hb hat hg)
  rw [hg]
  clear hg
  go_enter_defers Try.func54, Try.ntmps54
  go_wp2_with fail
  have bW : Below w.heap.size w (((w.alloc (.cells #[.string ⟨#[]⟩] 9)).alloc (.cells #[.int .i64 0] 3)).alloc (.cells #[.bool false] 4)) :=
    (((Below.refl _ _).alloc (Nat.le_refl _) _).alloc (by simp) _).alloc (by simp; omega) _
  refine (HC.out _ ((hA.below bW).more bW.size)).mono ?_
  rintro e w1 ⟨rfl, b1⟩
  have p1 := b1.cell (p := ⟨w.heap.size, 0, none⟩) (by simp; omega)
  have p2 := b1.cell (p := ⟨w.heap.size + 1, 0, none⟩) (by simp)
  have p3 := b1.cell (p := ⟨w.heap.size + 1 + 1, 0, none⟩) (by simp)
  have f1 := b1.frozen (p := ⟨w.heap.size, 0, none⟩) (by simp; omega)
  have f2 := b1.frozen (p := ⟨w.heap.size + 1, 0, none⟩) (by simp)
  have f3 := b1.frozen (p := ⟨w.heap.size + 1 + 1, 0, none⟩) (by simp)
  simp [go_sem] at p1 p2 p3 f1 f2 f3
  go_wp2
  refine leaves_cons (f := 74) (args := #[.pointer (some ⟨w.heap.size, 0, none⟩), .pointer (some ⟨w.heap.size + 1, 0, none⟩), .pointer (some ⟨w.heap.size + 1 + 1, 0, none⟩)]) (by simp) (by simp [go_sem]) ?_
  refine (catchText_panic ⟨w.heap.size, 0, none⟩ ⟨w.heap.size + 1, 0, none⟩ ⟨w.heap.size + 1 + 1, 0, none⟩ (.string ⟨#[]⟩) (.int .i64 0) (.bool false) 128 _ [] _ p1 f1 ?_ ?_ ?_ ?_).mono ?_
  · simp [go_sem, p2]
  · simp [go_sem, f2]
  · simp [go_sem, p3]
  · simp [go_sem, f3]
  rintro e u' w'' ⟨rfl, rfl, rfl⟩
  simp [Leaves, settle, results, Try.results54, go_sem, p1, p2, p3]
  refine ⟨rfl, ?_⟩
  have b2 : Below w.heap.size w w1 := bW.trans (b1.mono bW.size)
  exact ((b2.setCell (by simp) _).setCell (by simp) _).setCell (by simp; omega) _
set_option maxRecDepth 100000 in
theorem getText_impl (A : Option Addr) (l : List Nat) (c : Nat) (at_ : Int) (w : World) (hl : l.length ≤ 2097152) (hc : l.length ≤ c) (hA : Bts w w.heap.size A l) (hb : AllB l)
    (hat : at_ ≤ 9223372036854775807) :
    Calls Try.prog 54 #[.slice A l.length c, .int .i64 at_] w fun e w' => e = .returned (gotT (getT l at_)) ∧ Below w.heap.size w w' := by
  rcases hg : getT l at_ with _ | ⟨t, y⟩
  · rw [← hg]; exact getText_impl_no A l c at_ w hl hc hA hb hat hg
  · rw [← hg]; exact getText_impl_yes A l c at_ w hl hc hA hb hat hg
theorem gotT_form (o : Option (List Nat × Nat)) : ∃ (x : ByteArray) (y : Int) (t : Bool), gotT o = .tuple #[.string x, .int .i64 y, .bool t] := by
  rcases o with _ | ⟨n, k⟩
  · exact ⟨_, 0, false, rfl⟩
  · exact ⟨_, _, true, rfl⟩
end Go.Proofs.Ytelpeoaffgafgaa
