/- Rows of cabins in the laws; a state as it lies. -/
import Derived.Test.YtlflgflmlfileaaRows
import Derived.Test.YtlflgflmlfileaaCbL
import Derived.Test.YtlflgflmlfileaaG6
namespace Go.Proofs.Ytlflgflmlfileaa
open Go.RowKit
set_option linter.unusedSimpArgs false
set_option linter.unusedVariables false
def cvL (v : Cv) : List Value := [.int .i64 v.le.total, .int .i64 v.le.free, .int .i64 v.le.held, .int .i64 v.le.sold, .int .i64 v.le.tied, .slice v.Q v.q.length v.qc, .slice v.A v.sp.length v.c]
def cv0 : Cv := ⟨⟨0, 0, 0, 0, 0⟩, none, 0, [], none, 0, []⟩
theorem cvL_len (v : Cv) : (cvL v).length = 7 := rfl
/-- The cells of a cabin lie there. -/
def Cv.here (w : World) (b off : Nat) (v : Cv) : Prop := w.cell? ⟨b, off, none⟩ = some (.int .i64 v.le.total) ∧ w.cell? ⟨b, off + 1, none⟩ = some (.int .i64 v.le.free) ∧ w.cell? ⟨b, off + 2, none⟩ = some (.int .i64 v.le.held) ∧ w.cell? ⟨b, off + 3, none⟩ = some (.int .i64 v.le.sold) ∧ w.cell? ⟨b, off + 4, none⟩ = some (.int .i64 v.le.tied) ∧ w.cell? ⟨b, off + 5, none⟩ = some (.slice v.Q v.q.length v.qc) ∧ w.cell? ⟨b, off + 6, none⟩ = some (.slice v.A v.sp.length v.c)
theorem Rws.cv {w : World} {B : Nat} {A : Option Addr} {l : List Cv} (h : Rws w B A (l.flatMap cvL)) {i : Nat} (hi : i < l.length) :
    ∃ b off, A = some ⟨b, off, none⟩ ∧ b < B ∧ Cv.here w b (off + i * 7) (l.getD i cv0) := by
  obtain ⟨b, off, e, hb, hc⟩ := Rws.el cvL_len h (by omega) cv0 hi
  exact ⟨b, off, e, hb, hc 0 (by omega), hc 1 (by omega), hc 2 (by omega), hc 3 (by omega), hc 4 (by omega), hc 5 (by omega), hc 6 (by omega)⟩
theorem Cv.here.below {w w' : World} {b off : Nat} {v : Cv} (h : Cv.here w b off v) (hb : Below w.heap.size w w') (hl : b < w.heap.size) : Cv.here w' b off v := by
  obtain ⟨h0, h1, h2, h3, h4, h5, h6⟩ := h
  exact ⟨(hb.cell (by exact hl)).trans h0, (hb.cell (by exact hl)).trans h1, (hb.cell (by exact hl)).trans h2, (hb.cell (by exact hl)).trans h3, (hb.cell (by exact hl)).trans h4, (hb.cell (by exact hl)).trans h5, (hb.cell (by exact hl)).trans h6⟩
set_option maxRecDepth 100000 in
theorem exec_load_lcb {ρ : Operand → Value} {o : Oper} {x : Operand} (b off : Nat) (v : Cv) (w : World) (h : Cv.here w b off v) (ho : o.op = .load 114 x := by rfl) (hx : ρ x = .pointer (some ⟨b, off, none⟩) := by rfl) :
    (execOp ρ o).run Try.prog w = .ok (.value (cvA v)) w := by
  obtain ⟨h0, h1, h2, h3, h4, h5, h6⟩ := h
  unfold execOp
  rw [ho]
  simp [go_sem, hx, h0, h1, h2, h3, h4, h5, h6, cvA]
set_option maxRecDepth 100000 in
theorem exec_load_icb {ρ : Operand → Value} {o : Oper} {x : Operand} (b off : Nat) (v : Cv) (w : World) (h : Cv.here w b off v) (ho : o.op = .load 120 x := by rfl) (hx : ρ x = .pointer (some ⟨b, off, none⟩) := by rfl) :
    (execOp ρ o).run Try.prog w = .ok (.value (cvA v)) w := by
  obtain ⟨h0, h1, h2, h3, h4, h5, h6⟩ := h
  unfold execOp
  rw [ho]
  simp [go_sem, hx, h0, h1, h2, h3, h4, h5, h6, cvA]
set_option maxRecDepth 100000 in
theorem exec_idx_icb {ρ : Operand → Value} {o : Oper} {x y : Operand} (b off n c k : Nat) (w : World) (h : k < n) (ho : o.op = .indexAddr 43 x y := by rfl) (hx : ρ x = .slice (some ⟨b, off, none⟩) n c := by rfl) (hy : ρ y = .int .i64 (k : Int) := by rfl) :
    (execOp ρ o).run Try.prog w = .ok (.value (.pointer (some ⟨b, off + k * 7, none⟩))) w := by
  have h1 : (k : Int) < (n : Int) := by omega
  unfold execOp
  rw [ho]
  simp [go_sem, hx, hy, h]
set_option maxRecDepth 100000 in
theorem rowCbS : RowT 43 120 7 88 (.agg #[.int .i64 0, .int .i64 0, .int .i64 0, .int .i64 0, .int .i64 0, .slice none 0 0, .slice none 0 0]) := ⟨Try.underlying43, by kernel_rfl, rfl, by omega, by omega⟩
/-- A row of cabins that can be read. -/
structure CsR (w : World) (A : Option Addr) (l : List Cv) : Prop where
  row : Rws w w.heap.size A (l.flatMap cvL)
  cab : ∀ v ∈ l, v.reads w
theorem CsR.below {w w' : World} {A : Option Addr} {l : List Cv} (h : CsR w A l) (b : Below w.heap.size w w') : CsR w' A l := ⟨rws_below h.row b, fun v hv => (h.cab v hv).below b⟩
theorem CsR.at_ {w : World} {A : Option Addr} {l : List Cv} (h : CsR w A l) {i : Nat} (hi : i < l.length) : (l.getD i cv0).reads w := h.cab _ (getD_mem l i cv0 hi)
/-- A cabin whose rows are our own. -/
structure CvO (w : World) (B : Nat) (v : Cv) : Prop where
  row : w.ownsRow B 26 4 (.slice v.Q v.q.length v.qc) v.q.length (v.q.flatMap enC)
  whl : OwnW w B v.A v.c v.sp
theorem CvO.reads {w : World} {B : Nat} {v : Cv} (h : CvO w B v) : v.reads w := ⟨own_rws h.row, h.whl.whl⟩
theorem CvO.below {w w' : World} {B : Nat} {v : Cv} (h : CvO w B v) (b : Below w.heap.size w w') : CvO w' B v := ⟨own_below h.row b, h.whl.below b⟩
theorem CvO.weak {w : World} {B B' : Nat} {v : Cv} (h : CvO w B v) (hB : B' ≤ B) : CvO w B' v := ⟨own_weak h.row hB, h.whl.weak hB⟩
theorem CvO.set {w : World} {B : Nat} {v : Cv} (h : CvO w B v) {q i : Nat} {u : Value} (hq : q < B) : CvO (w.setCell ⟨q, i, none⟩ u) B v := ⟨own_set h.row hq, h.whl.set hq⟩
theorem CvO.put {w : World} {B : Nat} {v : Cv} (h : CvO w B v) {g : Nat} {cs : Array Value} {fr : Nat × Nat} (hg : w.heap[g]? = some (.cells cs 120 fr)) (i : Nat) (u : Value) : CvO (w.setCell ⟨g, i, none⟩ u) B v :=
  ⟨h.row.kept (Go.Lib.grownBy_setCell w g i u) (.inr (own_ne_type h.row hg (by decide))), h.whl.put hg (by decide) (by decide) i u⟩
/-- A row of cabins of our own. -/
structure CsO (w : World) (B : Nat) (A : Option Addr) (c : Nat) (l : List Cv) : Prop where
  row : w.ownsRow B 120 7 (.slice A l.length c) l.length (l.flatMap cvL)
  cab : ∀ v ∈ l, CvO w B v
theorem CsO.reads {w : World} {B : Nat} {A : Option Addr} {c : Nat} {l : List Cv} (h : CsO w B A c l) : CsR w A l := ⟨own_rws h.row, fun v hv => (h.cab v hv).reads⟩
theorem CsO.weak {w : World} {B B' : Nat} {A : Option Addr} {c : Nat} {l : List Cv} (h : CsO w B A c l) (hB : B' ≤ B) : CsO w B' A c l := ⟨own_weak h.row hB, fun v hv => (h.cab v hv).weak hB⟩
theorem CsO.below {w w' : World} {B : Nat} {A : Option Addr} {c : Nat} {l : List Cv} (h : CsO w B A c l) (b : Below w.heap.size w w') : CsO w' B A c l := ⟨own_below h.row b, fun v hv => (h.cab v hv).below b⟩
theorem CsO.set {w : World} {B : Nat} {A : Option Addr} {c : Nat} {l : List Cv} (h : CsO w B A c l) {q i : Nat} {u : Value} (hq : q < B) : CsO (w.setCell ⟨q, i, none⟩ u) B A c l := ⟨own_set h.row hq, fun v hv => (h.cab v hv).set hq⟩
/-- Rows of cabins of one content. -/
structure likeS (l m : List Cv) : Prop where
  n : l.length = m.length
  at_ : ∀ j, j < m.length → (l.getD j cv0).like (m.getD j cv0)
theorem likeS.refl (l : List Cv) : likeS l l := ⟨rfl, fun j _ => Cv.like.refl _⟩
theorem likeS.symm {l m : List Cv} (h : likeS l m) : likeS m l := ⟨h.n.symm, fun j hj => (h.at_ j (by rw [← h.n]; exact hj)).symm⟩
theorem likeS.trans {l m k : List Cv} (h : likeS l m) (h' : likeS m k) : likeS l k := ⟨h.n.trans h'.n, fun j hj => (h.at_ j (by rw [h'.n]; exact hj)).trans (h'.at_ j hj)⟩
/-- A row of a size that the laws look at. -/
structure smallS (l : List Cv) : Prop where
  n : l.length ≤ 1048576
  at_ : ∀ j, j < l.length → (l.getD j cv0).small
theorem smallS.of {l m : List Cv} (h : smallS l) (k : likeS m l) : smallS m := ⟨by rw [k.n]; exact h.n, fun j hj => (h.at_ j (by rw [← k.n]; exact hj)).of (k.at_ j (by rw [← k.n]; exact hj))⟩
set_option maxRecDepth 100000 in
set_option maxHeartbeats 1600000 in
theorem szCabinS_any (A : Option Addr) (l : List Cv) (c : Nat) (q : Int) (w : World) (hl : l.length ≤ 9223372036854775807) (hv : ∀ v ∈ l, v.came) (hr : CsR w A l) (h0 : 0 ≤ q) (h1 : q ≤ 1048576) :
    Calls Try.prog 54 #[.slice A l.length c, .int .i64 q] w fun e w' => (∃ r : Int, e = .returned (.int .i64 r) ∧ r ≤ 1048576 ∧ -1 ≤ r ∧ (0 ≤ r → smallS l)) ∧ Below w.heap.size w w' := by
  by_cases hb : q - l.length < 0
  · go_enter Try.func54, Try.ntmps54
    go_wp2
    go_ret
    exact ⟨⟨_, rfl, by omega, by omega, fun h => by omega⟩, Below.refl _ _⟩
  have HA := Lib.hid hr
  have HV := Lib.hid hv
  clear hr hv
  go_enter Try.func54, Try.ntmps54
  go_wp2
  go_loopw [1, 5] (fun z i wr => ∃ (k : Nat) (r : Int), k ≤ l.length ∧ i = .int .i64 k ∧ z = .int .i64 r ∧ 0 ≤ r ∧ r ≤ 1048576 ∧ Hid (∀ j, j < k → (l.getD j cv0).small) ∧ Hid (Below w.heap.size w wr)) (fun _ i _ => l.length - (intOf i).toNat)
  case atStart => exact ⟨0, _, by omega, rfl, rfl, by omega, by omega, (fun j hj => by omega), Below.refl _ _⟩
  case round =>
    obtain ⟨k, r, hk, rfl, rfl, hr0, hr1, hall, hb⟩ := hrel
    by_cases hlt : k < l.length
    · have hR := (HA.out.below hb.out)
      obtain ⟨b, off, rfl, hbB, c0, c1, c2, c3, c4, c5, c6⟩ := hR.row.cv hlt
      have C := Lib.hid (szCabin_any (l.getD k cv0) r wr (HV.out _ (getD_mem l k cv0 hlt)) (hR.at_ hlt) hr0 hr1)
      have HN : Hid ((l.getD k cv0).small → ∀ j, j < k + 1 → (l.getD j cv0).small) := fun h j hj => by
        by_cases e : j = k
        · subst e; exact h
        · exact hall.out j (by omega)
      clear hR hall
      generalize l.getD k cv0 = v at *
      unfold cvA at C
      go_wp2_with fail
      refine C.out.mono ?_
      rintro e w2 ⟨⟨z, rfl, hz1, hz2, hz3⟩, b2⟩
      have B2 := Lib.hid (hb.out.trans (b2.mono hb.out.size))
      have HS := Lib.hid hz3
      clear C b2 hb hz3 c0 c1 c2 c3 c4 c5 c6
      by_cases hz : z < 0
      · go_wp2
        go_ret
        exact ⟨⟨_, rfl, by omega, by omega, fun h => by omega⟩, B2.out⟩
      · have HN2 := Lib.hid (HN.out (HS.out (by omega)))
        clear HN HS
        go_wp2
        go_roundw
        case rel => exact ⟨k + 1, z, by omega, by go_num, rfl, by omega, hz1, HN2, B2⟩
        case measure => simp [intOf]; omega
    · obtain rfl : k = l.length := by omega
      go_wp2
      go_ret
      exact ⟨⟨_, rfl, hr1, by omega, fun _ => ⟨by omega, hall.out⟩⟩, hb.out⟩
set_option maxRecDepth 100000 in
set_option maxHeartbeats 1600000 in
/-- eqCabinS on two rows of one content. -/
theorem eqCabinS_same (A A' : Option Addr) (l m : List Cv) (c c' : Nat) (w : World) (hs : smallS l) (hk : likeS l m) (hA : CsR w A l) (hA' : CsR w A' m) :
    Calls Try.prog 61 #[.slice A l.length c, .slice A' m.length c'] w fun e w' => e = .returned (.bool true) ∧ Below w.heap.size w w' := by
  have hn := hs.n
  rw [← hk.n]
  have hne : ((l.length : Int) != (l.length : Int)) = false := by simp
  have HA := Lib.hid hA
  have HA' := Lib.hid hA'
  have HS := Lib.hid hs
  have HK := Lib.hid hk
  clear hA hA' hs hk
  go_enter Try.func61, Try.ntmps61
  go_wp2
  go_loopw [5] (fun i wr => ∃ k : Nat, k ≤ l.length ∧ i = .int .i64 k ∧ Hid (Below w.heap.size w wr)) (fun i _ => l.length - (intOf i).toNat)
  case atStart => exact ⟨0, by omega, rfl, Below.refl _ _⟩
  case round =>
    obtain ⟨k, hk, rfl, hb⟩ := hrel
    by_cases hlt : k < l.length
    · have hR := HA.out.below hb.out
      have hR' := HA'.out.below hb.out
      have hlt' : k < m.length := by rw [← HK.out.n]; exact hlt
      obtain ⟨b, off, rfl, hbB, c0⟩ := hR.row.cv hlt
      obtain ⟨b', off', rfl, hbB', d0⟩ := hR'.row.cv hlt'
      have hsm := HS.out.at_ k hlt
      have hlk := HK.out.at_ k hlt'
      have C := Lib.hid (fun w' (h : Below wr.heap.size wr w') => eqCabin_same (l.getD k cv0) (m.getD k cv0) w' hsm hlk ((hR.at_ hlt).below h) ((hR'.at_ hlt').below h))
      have K1 := Lib.hid (fun w' (h : Below wr.heap.size wr w') => Cv.here.below c0 h (by omega))
      have K2 := Lib.hid (fun w' (h : Below wr.heap.size wr w') => Cv.here.below d0 h (by omega))
      generalize l.getD k cv0 = x at *
      generalize m.getD k cv0 = y at *
      clear c0 d0 hR hR' hsm hlk
      go_wp2
      refine wp_region_held_drew (S := fun w' => Hid (Below wr.heap.size wr w')) (by kernel_rfl) (below_drawn (Below.refl _ _) 1) (fun hHeld => ?_)
      refine held_take 0 17 (.slice (some ⟨b, off, none⟩) l.length c) rfl rfl (by kernel_rfl) (by kernel_rfl) (by kernel_rfl) (fun _ _ _ h => h) rfl hHeld (fun w _ => rfl) ?_
      refine held_take 1 18 (.int .i64 (k : Int)) rfl rfl (by kernel_rfl) (by kernel_rfl) (by kernel_rfl) (fun _ _ _ h => h) rfl hHeld (fun w _ => rfl) ?_
      simp only [Act.put, List.setIfInBounds_toArray, List.set_cons_zero, List.set_cons_succ]
      refine held_take 2 19 (.pointer (some ⟨b, off + k * 7, none⟩)) rfl rfl (by kernel_rfl) (by kernel_rfl) (by kernel_rfl) (fun _ _ _ h => h) rfl hHeld (fun w _ => exec_idx_icb b off l.length c k w hlt) ?_
      refine held_take 3 20 (cvA x) rfl rfl (by kernel_rfl) (by kernel_rfl) (by kernel_rfl) (fun _ _ _ h => h) rfl hHeld (fun w h => exec_load_icb b (off + k * 7) x w (K1.out w h.out)) ?_
      simp only [Act.put, List.setIfInBounds_toArray, List.set_cons_zero, List.set_cons_succ]
      refine held_take 4 21 (.slice (some ⟨b', off', none⟩) l.length c') rfl rfl (by kernel_rfl) (by kernel_rfl) (by kernel_rfl) (fun _ _ _ h => h) rfl hHeld (fun w _ => rfl) ?_
      refine held_take 5 22 (.int .i64 (k : Int)) rfl rfl (by kernel_rfl) (by kernel_rfl) (by kernel_rfl) (fun _ _ _ h => h) rfl hHeld (fun w _ => rfl) ?_
      simp only [Act.put, List.setIfInBounds_toArray, List.set_cons_zero, List.set_cons_succ]
      refine held_take 6 23 (.pointer (some ⟨b', off' + k * 7, none⟩)) rfl rfl (by kernel_rfl) (by kernel_rfl) (by kernel_rfl) (fun _ _ _ h => h) rfl hHeld (fun w _ => exec_idx_icb b' off' l.length c' k w hlt) ?_
      refine held_take 7 24 (cvA y) rfl rfl (by kernel_rfl) (by kernel_rfl) (by kernel_rfl) (fun _ _ _ h => h) rfl hHeld (fun w h => exec_load_icb b' (off' + k * 7) y w (K2.out w h.out)) ?_
      simp only [Act.put, List.setIfInBounds_toArray, List.set_cons_zero, List.set_cons_succ]
      refine held_call 8 25 87 #[cvA x, cvA y] rfl rfl (by kernel_rfl) rfl (exec_call Try.func87 (by kernel_rfl) (by kernel_rfl) _) ?_
      refine (C.out _ hHeld.out).mono ?_
      rintro e w1 ⟨rfl, b1'⟩
      have b1 : Hid (Below wr.heap.size wr w1) := hHeld.out.trans (b1'.mono hHeld.out.size)
      refine ⟨_, rfl, b1, ?_⟩
      simp only [Act.put, List.setIfInBounds_toArray, List.set_cons_zero, List.set_cons_succ]
      refine held_op 9 26 (.bool false) rfl rfl (by kernel_rfl) rfl rfl b1 ?_
      simp only [Act.put, List.setIfInBounds_toArray, List.set_cons_zero, List.set_cons_succ]
      refine wpAnyH_done (by kernel_rfl) ?_ _
      have b2 : Hid (Below w.heap.size w w1) := hb.out.trans (b1.out.mono hb.out.size)
      clear b1 b1' hb K1 K2 C
      go_wp2
      go_roundw
      case rel => exact ⟨k + 1, by omega, by go_num, b2⟩
      case measure => simp [intOf]; omega
    · go_wp2
      go_ret
      exact ⟨rfl, hb.out⟩
/-- A cabin in memory of our own that reads as v. -/
def NewCvO (w : World) (v : Cv) (e : Ending) (w' : World) : Prop := ∃ y : Cv, e = .returned (cvA y) ∧ y.like v ∧ CvO w' w.heap.size y ∧ Below w.heap.size w w'
set_option maxRecDepth 100000 in
set_option maxHeartbeats 3200000 in
theorem toCabin_own (v : Cv) (w : World) (hs : v.small) (hr : v.reads w) :
    Calls Try.prog 84 #[cvA v] w (NewCvO w v) := by
  have C0 := Lib.hid (fun w => toLedger_any v.le w)
  have C1 := Lib.hid (fun w' (h : Rws w' w'.heap.size v.Q (v.q.flatMap enC)) => toEntryS_any v.Q v.q v.qc w' (by have := hs.q; omega) h)
  have C2 : Hid (∀ w', Whl w' v.A v.sp → Calls Try.prog 103 #[.agg #[.slice v.A v.sp.length v.c]] w' (NewX w' v.ls)) := fun w' h => by
    obtain ⟨a1, a2⟩ := SzW.of hs.s (sp := v.sp) rfl
    exact toWheel_any v.A v.sp v.c w' (by omega) (by omega) h
  have HR := Lib.hid hr
  clear hr hs
  unfold leA at C0
  unfold cvA
  go_enter Try.func84, Try.ntmps84
  go_wp2_with fail
  have T0 := Three.make w (.cells #[.int .i64 v.le.total, .int .i64 v.le.free, .int .i64 v.le.held, .int .i64 v.le.sold, .int .i64 v.le.tied, .slice v.Q v.q.length v.qc, .slice v.A v.sp.length v.c] 114) (.cells #[.int .i64 0, .int .i64 0, .int .i64 0, .int .i64 0, .int .i64 0, .slice none 0 0, .slice none 0 0] 120) (.cells #[.int .i64 0, .int .i64 0, .int .i64 0, .int .i64 0, .int .i64 0, .slice none 0 0, .slice none 0 0] 120)
  refine (C0.out _).mono ?_
  rintro e w1 ⟨rfl, b1⟩
  have T1 := Three.call T0 b1
  clear b1
  have a5 := cell_of_row _ _ 5 _ _ _ T1.1
  have c0 := cell_of_row _ _ 0 _ _ _ T1.2.2.1
  have c1 := cell_of_row _ _ 1 _ _ _ T1.2.2.1
  have c2 := cell_of_row _ _ 2 _ _ _ T1.2.2.1
  have c3 := cell_of_row _ _ 3 _ _ _ T1.2.2.1
  have c4 := cell_of_row _ _ 4 _ _ _ T1.2.2.1
  have d0 := frozen_of_row _ _ 0 _ _ T1.2.2.1
  have d1 := frozen_of_row _ _ 1 _ _ T1.2.2.1
  have d2 := frozen_of_row _ _ 2 _ _ T1.2.2.1
  have d3 := frozen_of_row _ _ 3 _ _ T1.2.2.1
  have d4 := frozen_of_row _ _ 4 _ _ T1.2.2.1
  have T1 := Three.put1 (Three.put1 (Three.put1 (Three.put1 (Three.put1 T1 0 (.int .i64 v.le.total)) 1 (.int .i64 v.le.free)) 2 (.int .i64 v.le.held)) 3 (.int .i64 v.le.sold)) 4 (.int .i64 v.le.tied)
  have HT1 := Lib.hid T1
  clear T0 T1
  simp at a5 c0 c1 c2 c3 c4
  go_wp2_with fail
  have T1 := HT1.out
  clear a5 c0 c1 c2 c3 c4 d0 d1 d2 d3 d4
  refine (C1.out _ ((HR.out.below T1.2.2.2).row)).mono ?_
  rintro e w2 ⟨Q, qc, rfl, oQ, b2⟩
  have T2 := Three.call T1 b2
  have Z2 := T1.2.2.2.size
  clear b2
  have OQ : Hid (w2.ownsRow (w.heap.size + 3) 26 4 (.slice Q v.q.length qc) v.q.length (v.q.flatMap enC)) := own_weak oQ (by have := blk_lt T1.2.2.1; omega)
  clear oQ Z2
  have a6 := cell_of_row _ _ 6 _ _ _ T2.1
  have c5 := cell_of_row _ _ 5 _ _ _ T2.2.2.1
  have d5 := frozen_of_row _ _ 5 _ _ T2.2.2.1
  have T2 := Three.put1 T2 5 (.slice Q v.q.length qc)
  have HT2 := Lib.hid T2
  clear T1 T2 HT1
  simp at a6 c5
  go_wp2_with fail
  have T2 := HT2.out
  clear a6 c5 d5
  have OQ2 := Lib.hid (own_set (i := 5) (u := .slice Q v.q.length qc) OQ.out (show w.heap.size + 2 < w.heap.size + 3 by omega))
  refine (C2.out _ ((HR.out.below T2.2.2.2).whl)).mono ?_
  rintro e w3 ⟨A, c, sp, rfl, hmap, hO, hap, b3⟩
  have T3 := Three.call T2 b3
  have OQ3 := Lib.hid (own_below OQ2.out b3)
  have OW3 : Hid (OwnW w3 (w.heap.size + 3) A c sp) := hO.weak (by have := blk_lt T2.2.2.1; omega)
  clear b3 hO hap OQ OQ2
  have c0 := cell_of_row _ _ 0 _ _ _ T3.2.2.1
  have c1 := cell_of_row _ _ 1 _ _ _ T3.2.2.1
  have c2 := cell_of_row _ _ 2 _ _ _ T3.2.2.1
  have c3 := cell_of_row _ _ 3 _ _ _ T3.2.2.1
  have c4 := cell_of_row _ _ 4 _ _ _ T3.2.2.1
  have c5 := cell_of_row _ _ 5 _ _ _ T3.2.2.1
  have c6 := cell_of_row _ _ 6 _ _ _ T3.2.2.1
  have d0 := frozen_of_row _ _ 0 _ _ T3.2.2.1
  have d1 := frozen_of_row _ _ 1 _ _ T3.2.2.1
  have d2 := frozen_of_row _ _ 2 _ _ T3.2.2.1
  have d3 := frozen_of_row _ _ 3 _ _ T3.2.2.1
  have d4 := frozen_of_row _ _ 4 _ _ T3.2.2.1
  have d5 := frozen_of_row _ _ 5 _ _ T3.2.2.1
  have d6 := frozen_of_row _ _ 6 _ _ T3.2.2.1
  have r0 := cell_of_row _ _ 0 _ _ _ T3.2.1
  have r1 := cell_of_row _ _ 1 _ _ _ T3.2.1
  have r2 := cell_of_row _ _ 2 _ _ _ T3.2.1
  have r3 := cell_of_row _ _ 3 _ _ _ T3.2.1
  have r4 := cell_of_row _ _ 4 _ _ _ T3.2.1
  have r5 := cell_of_row _ _ 5 _ _ _ T3.2.1
  have r6 := cell_of_row _ _ 6 _ _ _ T3.2.1
  have z0 := frozen_of_row _ _ 0 _ _ T3.2.1
  have z1 := frozen_of_row _ _ 1 _ _ T3.2.1
  have z2 := frozen_of_row _ _ 2 _ _ T3.2.1
  have z3 := frozen_of_row _ _ 3 _ _ T3.2.1
  have z4 := frozen_of_row _ _ 4 _ _ T3.2.1
  have z5 := frozen_of_row _ _ 5 _ _ T3.2.1
  have z6 := frozen_of_row _ _ 6 _ _ T3.2.1
  have bW := Lib.hid T3.2.2.2
  have HM := Lib.hid hmap
  clear T2 T3 HT2 C0 C1 C2 HR hmap
  simp at c0 c1 c2 c3 c4 c5 c6 r0 r1 r2 r3 r4 r5 r6
  go_wp2
  simp [bodyPost, results, Try.results84, go_sem, c0, c1, c2, c3, c4, c5, c6, r0, r1, r2, r3, r4, r5, r6]
  refine ⟨⟨v.le, Q, qc, v.q, A, c, sp⟩, rfl, ⟨rfl, rfl, HM.out⟩, ⟨?_, ?_⟩, ?_⟩
  · refine own_weak (show World.ownsRow _ (w.heap.size + 3) 26 4 (.slice Q v.q.length qc) v.q.length (v.q.flatMap enC) from ?_) (by omega)
    repeat refine own_set ?_ (by omega)
    exact OQ3.out
  · refine OwnW.weak (show OwnW _ (w.heap.size + 3) A c sp from ?_) (by omega)
    repeat refine OwnW.set ?_ (by omega)
    exact OW3.out
  · iterate 8 refine Below.setCell ?_ (by dsimp only; omega) _
    exact bW.out
/-- toCabinS halfway: the cabins l are laid over the cells Z. -/
def halfCb (Z : List Value) (l : List Cv) : List Value := l.flatMap cvL ++ Z.drop (l.length * 7)
theorem cvL_flat_len (l : List Cv) : (l.flatMap cvL).length = l.length * 7 := flat_len cvL 7 cvL_len l
theorem halfCb_len (Z : List Value) (l : List Cv) (h : l.length * 7 ≤ Z.length) : (halfCb Z l).length = Z.length := by
  unfold halfCb; rw [List.length_append, cvL_flat_len, List.length_drop]; omega
theorem halfCb_set (Z : List Value) (l : List Cv) (y : Cv) (h : (l.length + 1) * 7 ≤ Z.length) : (((((((halfCb Z l).set (l.length * 7) (.int .i64 y.le.total)).set (l.length * 7 + 1) (.int .i64 y.le.free)).set (l.length * 7 + 2) (.int .i64 y.le.held)).set (l.length * 7 + 3) (.int .i64 y.le.sold)).set (l.length * 7 + 4) (.int .i64 y.le.tied)).set (l.length * 7 + 5) (.slice y.Q y.q.length y.qc)).set (l.length * 7 + 6) (.slice y.A y.sp.length y.c) = halfCb Z (l ++ [y]) := by
  obtain ⟨x0, x1, x2, x3, x4, x5, x6, r, hd⟩ : ∃ x0 x1 x2 x3 x4 x5 x6 r, Z.drop (l.length * 7) = x0 :: x1 :: x2 :: x3 :: x4 :: x5 :: x6 :: r := by
    have : 7 ≤ (Z.drop (l.length * 7)).length := by rw [List.length_drop]; omega
    match h : Z.drop (l.length * 7), this with
    | x0 :: x1 :: x2 :: x3 :: x4 :: x5 :: x6 :: r, _ => exact ⟨x0, x1, x2, x3, x4, x5, x6, r, rfl⟩
  have hd2 : Z.drop ((l ++ [y]).length * 7) = r := by
    rw [List.length_append, List.length_singleton, show (l.length + 1) * 7 = 7 + l.length * 7 by omega, Nat.add_comm, ← List.drop_drop, hd]; rfl
  unfold halfCb
  rw [hd, hd2, List.flatMap_append, List.append_assoc]
  rw [List.set_append_right _ _ (by rw [cvL_flat_len]; omega), cvL_flat_len, Nat.sub_self, List.set_cons_zero]
  rw [List.set_append_right _ _ (by rw [cvL_flat_len]; omega), cvL_flat_len, show l.length * 7 + 1 - l.length * 7 = 1 by omega]
  rw [List.set_append_right _ _ (by rw [cvL_flat_len]; omega), cvL_flat_len, show l.length * 7 + 2 - l.length * 7 = 2 by omega]
  rw [List.set_append_right _ _ (by rw [cvL_flat_len]; omega), cvL_flat_len, show l.length * 7 + 3 - l.length * 7 = 3 by omega]
  rw [List.set_append_right _ _ (by rw [cvL_flat_len]; omega), cvL_flat_len, show l.length * 7 + 4 - l.length * 7 = 4 by omega]
  rw [List.set_append_right _ _ (by rw [cvL_flat_len]; omega), cvL_flat_len, show l.length * 7 + 5 - l.length * 7 = 5 by omega]
  rw [List.set_append_right _ _ (by rw [cvL_flat_len]; omega), cvL_flat_len, show l.length * 7 + 6 - l.length * 7 = 6 by omega]
  rfl
theorem getD_app_l {α : Type} (l m : List α) (j : Nat) (d : α) (h : j < l.length) : (l ++ m).getD j d = l.getD j d := by
  rw [List.getD_eq_getElem?_getD, List.getD_eq_getElem?_getD, List.getElem?_append_left h]
theorem getD_app_r {α : Type} (l : List α) (y : α) (j : Nat) (d : α) (h : l.length = j) : (l ++ [y]).getD j d = y := by
  subst h
  rw [List.getD_eq_getElem?_getD, List.getElem?_append_right (Nat.le_refl _), Nat.sub_self]
  rfl
/-- A row of cabins in memory of our own. -/
def NewCs (w : World) (l : List Cv) (e : Ending) (w' : World) : Prop := ∃ (A : Option Addr) (c : Nat) (m : List Cv), e = .returned (.slice A m.length c) ∧ likeS m l ∧ CsO w' w.heap.size A c m ∧ Below w.heap.size w w'
theorem likeS.snoc {m l : List Cv} {y : Cv} {k : Nat} (h : likeS m (l.take k)) (hk : k < l.length) (hy : y.like (l.getD k cv0)) : likeS (m ++ [y]) (l.take (k + 1)) := by
  have hn := h.n
  rw [List.length_take, Nat.min_eq_left (by omega)] at hn
  refine ⟨by rw [List.length_append, List.length_take, hn, List.length_singleton, Nat.min_eq_left (by omega)], fun j hj => ?_⟩
  rw [List.length_take, Nat.min_eq_left (by omega)] at hj
  rw [take_succ_getD l k cv0 hk]
  have ht : (l.take k).length = k := by rw [List.length_take, Nat.min_eq_left (by omega)]
  by_cases e : j < k
  · rw [getD_app_l m [y] j cv0 (by omega), getD_app_l (l.take k) _ j cv0 (by omega)]
    exact h.at_ j (by omega)
  · obtain rfl : j = k := by omega
    rw [getD_app_r m y j cv0 hn, getD_app_r (l.take j) _ j cv0 ht]
    exact hy
theorem heap_set_t {w : World} {g i : Nat} {u : Value} {t : TypeId} (h : ∃ cur, w.heap[g]? = some (.cells cur t (0, 0))) : ∃ cur, (w.setCell ⟨g, i, none⟩ u).heap[g]? = some (.cells cur t (0, 0)) := by
  obtain ⟨cur, hc⟩ := h
  exact ⟨_, Go.heap_setCell_same w g i _ _ u hc⟩
theorem CvO.put' {w : World} {B : Nat} {v : Cv} (h : CvO w B v) {g : Nat} (hg : ∃ cur, w.heap[g]? = some (.cells cur 120 (0, 0))) (i : Nat) (u : Value) : CvO (w.setCell ⟨g, i, none⟩ u) B v := by
  obtain ⟨cur, hc⟩ := hg
  exact h.put hc i u
set_option maxRecDepth 100000 in
set_option maxHeartbeats 3200000 in
theorem toCabinS_any (A : Option Addr) (l : List Cv) (c : Nat) (w : World) (hs : smallS l) (hA : CsR w A l) :
    Calls Try.prog 58 #[.slice A l.length c] w (NewCs w l) := by
  have hn := hs.n
  obtain ⟨i0, hi, hz0, hz1, hz2⟩ := info_parts rowCbS.inf
  obtain ⟨w1, hmk, o1, g1⟩ := run_make_full (P := Try.prog) w w.heap.size 43 120 i0 _ 7 Try.underlying43 hi hz0 hz1 .i64 .i64 l.length (by rw [hz2]; omega) (by unfold maxLen; omega) (Nat.le_refl _)
  have b1 : Below w.heap.size w w1 := (Below.refl _ _).grown g1 (Nat.le_refl _) (fun k hk => by cases hk)
  have hZ := o1.1
  generalize hZe : (madeCells (Value.cells (.agg #[.int .i64 0, .int .i64 0, .int .i64 0, .int .i64 0, .int .i64 0, .slice none 0 0, .slice none 0 0])) (l.length * 7)).toList = Z at *
  clear hi hz0 hz1 hz2 g1 hZe
  have HS := Lib.hid hs
  have HAA := Lib.hid hA
  clear hs hA
  go_enter Try.func58, Try.ntmps58
  go_wp2
  go_loopw [4] (fun i wr => ∃ (k : Nat) (m : List Cv), k ≤ l.length ∧ i = .int .i64 k ∧ m.length = k ∧ Hid (likeS m (l.take k)) ∧ Hid (wr.ownsRow w.heap.size 120 7 (.slice (some ⟨w.heap.size, 0, none⟩) l.length l.length) l.length (halfCb Z m)) ∧ Hid (∀ v ∈ m, CvO wr w.heap.size v) ∧ Hid (Below w.heap.size w wr)) (fun i _ => l.length - (intOf i).toNat)
  case atStart => exact ⟨0, [], by omega, rfl, rfl, (show likeS [] (l.take 0) from likeS.refl _), (by show World.ownsRow _ _ _ _ _ _ _; simpa [halfCb] using o1), (fun s hs => by cases hs), b1⟩
  case round =>
    clear hmk o1 b1
    obtain ⟨k, m, hk, rfl, hmk, hlike, hown, hin, hb⟩ := hrel
    by_cases hlt : k < l.length
    · have hR := HAA.out.below hb.out
      obtain ⟨b, off, rfl, hbB, c0, c1, c2, c3, c4, c5, c6⟩ := hR.row.cv hlt
      have C := Lib.hid (toCabin_own (l.getD k cv0) wr (HS.out.at_ k hlt) (hR.at_ hlt))
      have HL := Lib.hid (fun y (h : Cv.like y (l.getD k cv0)) => likeS.snoc hlike.out hlt h)
      generalize l.getD k cv0 = v at *
      clear hR hlike
      unfold cvA at C
      go_wp2_with fail
      refine C.out.mono ?_
      rintro e w2 ⟨y, rfl, hy, oy, b2⟩
      have own1 := own_below hown.out b2
      have hlh := halfCb_len Z m (by omega)
      unfold cvA
      obtain ⟨u0, hu0⟩ : ∃ u, w2.cell? ⟨w.heap.size, k * 7, none⟩ = some u := by rw [own1.cellAt _ (by omega)]; exact ⟨_, List.getElem?_eq_getElem (by omega)⟩
      have hf0 := own1.frozenAt (k * 7)
      obtain ⟨u1, hu1⟩ : ∃ u, w2.cell? ⟨w.heap.size, k * 7 + 1, none⟩ = some u := by rw [own1.cellAt _ (by omega)]; exact ⟨_, List.getElem?_eq_getElem (by omega)⟩
      have hf1 := own1.frozenAt (k * 7 + 1)
      obtain ⟨u2, hu2⟩ : ∃ u, w2.cell? ⟨w.heap.size, k * 7 + 2, none⟩ = some u := by rw [own1.cellAt _ (by omega)]; exact ⟨_, List.getElem?_eq_getElem (by omega)⟩
      have hf2 := own1.frozenAt (k * 7 + 2)
      obtain ⟨u3, hu3⟩ : ∃ u, w2.cell? ⟨w.heap.size, k * 7 + 3, none⟩ = some u := by rw [own1.cellAt _ (by omega)]; exact ⟨_, List.getElem?_eq_getElem (by omega)⟩
      have hf3 := own1.frozenAt (k * 7 + 3)
      obtain ⟨u4, hu4⟩ : ∃ u, w2.cell? ⟨w.heap.size, k * 7 + 4, none⟩ = some u := by rw [own1.cellAt _ (by omega)]; exact ⟨_, List.getElem?_eq_getElem (by omega)⟩
      have hf4 := own1.frozenAt (k * 7 + 4)
      obtain ⟨u5, hu5⟩ : ∃ u, w2.cell? ⟨w.heap.size, k * 7 + 5, none⟩ = some u := by rw [own1.cellAt _ (by omega)]; exact ⟨_, List.getElem?_eq_getElem (by omega)⟩
      have hf5 := own1.frozenAt (k * 7 + 5)
      obtain ⟨u6, hu6⟩ : ∃ u, w2.cell? ⟨w.heap.size, k * 7 + 6, none⟩ = some u := by rw [own1.cellAt _ (by omega)]; exact ⟨_, List.getElem?_eq_getElem (by omega)⟩
      have hf6 := own1.frozenAt (k * 7 + 6)
      have S0 := own1.stored (k * 7) (.int .i64 y.le.total)
      have S1 := S0.1.stored (k * 7 + 1) (.int .i64 y.le.free)
      have S2 := S1.1.stored (k * 7 + 2) (.int .i64 y.le.held)
      have S3 := S2.1.stored (k * 7 + 3) (.int .i64 y.le.sold)
      have S4 := S3.1.stored (k * 7 + 4) (.int .i64 y.le.tied)
      have S5 := S4.1.stored (k * 7 + 5) (.slice y.Q y.q.length y.qc)
      have S6 := S5.1.stored (k * 7 + 6) (.slice y.A y.sp.length y.c)
      have hty : ∃ cur, w2.heap[w.heap.size]? = some (.cells cur 120 (0, 0)) := own_typed2 own1 w.heap.size rfl
      have SN : Hid ((((((((w2.setCell ⟨w.heap.size, k * 7, none⟩ (.int .i64 y.le.total)).setCell ⟨w.heap.size, k * 7 + 1, none⟩ (.int .i64 y.le.free)).setCell ⟨w.heap.size, k * 7 + 2, none⟩ (.int .i64 y.le.held)).setCell ⟨w.heap.size, k * 7 + 3, none⟩ (.int .i64 y.le.sold)).setCell ⟨w.heap.size, k * 7 + 4, none⟩ (.int .i64 y.le.tied)).setCell ⟨w.heap.size, k * 7 + 5, none⟩ (.slice y.Q y.q.length y.qc)).setCell ⟨w.heap.size, k * 7 + 6, none⟩ (.slice y.A y.sp.length y.c)).ownsRow w.heap.size 120 7 (.slice (some ⟨w.heap.size, 0, none⟩) l.length l.length) l.length (halfCb Z (m ++ [y]))) := by
        show World.ownsRow _ _ _ _ _ _ _
        rw [← halfCb_set Z m y (by omega), hmk]
        exact S6.1
      have BN : Hid (Below w.heap.size w (((((((w2.setCell ⟨w.heap.size, k * 7, none⟩ (.int .i64 y.le.total)).setCell ⟨w.heap.size, k * 7 + 1, none⟩ (.int .i64 y.le.free)).setCell ⟨w.heap.size, k * 7 + 2, none⟩ (.int .i64 y.le.held)).setCell ⟨w.heap.size, k * 7 + 3, none⟩ (.int .i64 y.le.sold)).setCell ⟨w.heap.size, k * 7 + 4, none⟩ (.int .i64 y.le.tied)).setCell ⟨w.heap.size, k * 7 + 5, none⟩ (.slice y.Q y.q.length y.qc)).setCell ⟨w.heap.size, k * 7 + 6, none⟩ (.slice y.A y.sp.length y.c))) := ((((((((hb.out.trans (b2.mono hb.out.size)).setCell (p := ⟨w.heap.size, k * 7, none⟩) (by simp) (.int .i64 y.le.total)).setCell (p := ⟨w.heap.size, k * 7 + 1, none⟩) (by simp) (.int .i64 y.le.free)).setCell (p := ⟨w.heap.size, k * 7 + 2, none⟩) (by simp) (.int .i64 y.le.held)).setCell (p := ⟨w.heap.size, k * 7 + 3, none⟩) (by simp) (.int .i64 y.le.sold)).setCell (p := ⟨w.heap.size, k * 7 + 4, none⟩) (by simp) (.int .i64 y.le.tied)).setCell (p := ⟨w.heap.size, k * 7 + 5, none⟩) (by simp) (.slice y.Q y.q.length y.qc)).setCell (p := ⟨w.heap.size, k * 7 + 6, none⟩) (by simp) (.slice y.A y.sp.length y.c))
      have HI : Hid (∀ v ∈ m ++ [y], CvO (((((((w2.setCell ⟨w.heap.size, k * 7, none⟩ (.int .i64 y.le.total)).setCell ⟨w.heap.size, k * 7 + 1, none⟩ (.int .i64 y.le.free)).setCell ⟨w.heap.size, k * 7 + 2, none⟩ (.int .i64 y.le.held)).setCell ⟨w.heap.size, k * 7 + 3, none⟩ (.int .i64 y.le.sold)).setCell ⟨w.heap.size, k * 7 + 4, none⟩ (.int .i64 y.le.tied)).setCell ⟨w.heap.size, k * 7 + 5, none⟩ (.slice y.Q y.q.length y.qc)).setCell ⟨w.heap.size, k * 7 + 6, none⟩ (.slice y.A y.sp.length y.c)) w.heap.size v) := by
        intro x hx
        have hx2 : CvO w2 w.heap.size x := by
          rcases List.mem_append.1 hx with h | h
          · exact (hin.out x h).below b2
          · have : x = y := by simpa using h
            subst this
            exact oy.weak hb.out.size
        exact (CvO.put' (CvO.put' (CvO.put' (CvO.put' (CvO.put' (CvO.put' (CvO.put' hx2 hty (k * 7) (.int .i64 y.le.total)) (heap_set_t hty) (k * 7 + 1) (.int .i64 y.le.free)) (heap_set_t (heap_set_t hty)) (k * 7 + 2) (.int .i64 y.le.held)) (heap_set_t (heap_set_t (heap_set_t hty))) (k * 7 + 3) (.int .i64 y.le.sold)) (heap_set_t (heap_set_t (heap_set_t (heap_set_t hty)))) (k * 7 + 4) (.int .i64 y.le.tied)) (heap_set_t (heap_set_t (heap_set_t (heap_set_t (heap_set_t hty))))) (k * 7 + 5) (.slice y.Q y.q.length y.qc)) (heap_set_t (heap_set_t (heap_set_t (heap_set_t (heap_set_t (heap_set_t hty)))))) (k * 7 + 6) (.slice y.A y.sp.length y.c))
      have HL2 := Lib.hid (HL.out y hy)
      clear S0 S1 S2 S3 S4 S5 S6 own1 b2 hb hin hown C HL oy hy hty c0 c1 c2 c3 c4 c5 c6
      go_wp2
      go_roundw
      case rel => exact ⟨k + 1, m ++ [y], by omega, by go_num, by simp [hmk], HL2, SN, HI, BN⟩
      case measure => simp [intOf]; omega
    · obtain rfl : k = l.length := by omega
      have R : Hid (NewCs w l (.returned (.slice (some ⟨w.heap.size, 0, none⟩) l.length l.length)) wr) := by
        have h1 := hown.out
        unfold halfCb at h1
        rw [List.drop_of_length_le (by omega), List.append_nil] at h1
        have h2 := hlike.out
        rw [List.take_length] at h2
        exact ⟨_, _, m, by rw [hmk], h2, ⟨by rw [hmk]; exact h1, hin.out⟩, hb.out⟩
      clear hin hown hb hlike
      go_wp2
      go_ret
      exact R.out
structure Hv where
  RA : Option Addr
  rc : Nat
  r : Ru
  now : Int
  turn : Int
  PA : Option Addr
  pc : Nat
  pl : List Pt
  CA : Option Addr
  cc : Nat
  vs : List Cv
  TA : Option Addr
  tc : Nat
  tl : List Int
  JA : Option Addr
  jc : Nat
  jl : List Int
def hvA (h : Hv) : Value := .agg #[.slice h.RA h.r.seats.length h.rc, .int .i64 h.r.tiers, .int .i64 h.r.room, .int .i64 h.r.size, .int .i64 h.r.period, .int .i64 h.r.window, .int .i64 h.r.rest, .int .i64 h.r.tries, .int .i64 h.r.crew, .int .i64 h.now, .int .i64 h.turn, .slice h.PA h.pl.length h.pc, .slice h.CA h.vs.length h.cc, .slice h.TA h.tl.length h.tc, .slice h.JA h.jl.length h.jc]
structure Hv.reads (h : Hv) (w : World) : Prop where
  r : Rws w w.heap.size h.RA (ints h.r.seats)
  p : Rws w w.heap.size h.PA (h.pl.flatMap ptC)
  c : CsR w h.CA h.vs
  t : Rws w w.heap.size h.TA (ints h.tl)
  j : Rws w w.heap.size h.JA (ints h.jl)
theorem Hv.reads.below {h : Hv} {w w' : World} (k : h.reads w) (b : Below w.heap.size w w') : h.reads w' := ⟨rws_below k.r b, rws_below k.p b, k.c.below b, rws_below k.t b, rws_below k.j b⟩
/-- What came in fits. -/
structure Hv.came (h : Hv) : Prop where
  r : h.r.seats.length ≤ 9223372036854775807
  p : h.pl.length ≤ 9223372036854775807
  c : h.vs.length ≤ 9223372036854775807
  v : ∀ v ∈ h.vs, v.came
  t : h.tl.length ≤ 9223372036854775807
  j : h.jl.length ≤ 9223372036854775807
/-- Two states of one content. -/
structure Hv.like (h k : Hv) : Prop where
  r : h.r = k.r
  now : h.now = k.now
  turn : h.turn = k.turn
  p : h.pl = k.pl
  c : likeS h.vs k.vs
  t : h.tl = k.tl
  j : h.jl = k.jl
/-- A state of a size that the laws look at. -/
structure Hv.small (h : Hv) : Prop where
  r : h.r.seats.length ≤ 1048576
  p : h.pl.length ≤ 1048576
  c : smallS h.vs
  t : h.tl.length ≤ 1048576
  j : h.jl.length ≤ 1048576
end Go.Proofs.Ytlflgflmlfileaa
