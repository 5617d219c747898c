/- LedgerLine of the model and of the program. -/
import Derived.Test.YtjnmdnpknlakhaaDoorRows
import Derived.Test.YtjnmdnpknlakhaaDoorLeP
import Derived.Test.YtjnmdnpknlakhaaDoorG8
import Derived.Lib.Join
namespace Go.Proofs.YtjnmdnpknlakhaaDoor
open Go.RowKit
set_option linter.unusedSimpArgs false
set_option linter.unusedVariables false
/-- The line of a ledger that is right. -/
def lnS (A B C D : ByteArray) : ByteArray := A ++ (⟨#[47]⟩ : ByteArray) ++ B ++ (⟨#[47]⟩ : ByteArray) ++ C ++ (⟨#[47]⟩ : ByteArray) ++ D
/-- What LedgerLine returns. -/
def lineL (l : Le) : ByteArray := if l.fine then lnS (digS l.free) (digS l.held) (digS l.sold) (digS l.tied) else ⟨#[]⟩
theorem sz1 : (⟨#[47]⟩ : ByteArray).size = 1 := rfl
/-- The ledger's block lies there. -/
def KB (w : World) (l : Le) (u : World) : Prop := Below w.heap.size w u ∧ u.heap[w.heap.size]? = some (.cells #[.int .i64 l.total, .int .i64 l.free, .int .i64 l.held, .int .i64 l.sold, .int .i64 l.tied] 25 (0, 0))
theorem KB.call {w u u' : World} {l : Le} (h : KB w l u) (b : Below u.heap.size u u') : KB w l u' := ⟨h.1.trans (b.mono h.1.size), blk_call h.2 b⟩
theorem KB.drew {w u : World} {l : Le} (h : KB w l u) : KB w l u.drew := ⟨below_drawn h.1 1, h.2⟩
theorem KB.start (w : World) (l : Le) : KB w l (w.alloc (.cells #[.int .i64 l.total, .int .i64 l.free, .int .i64 l.held, .int .i64 l.sold, .int .i64 l.tied] 25)) := ⟨(Below.refl _ _).alloc (Nat.le_refl _) _, heap_new _ _⟩
theorem digS_short (n : Int) (h : inI n) : (digS n).size ≤ 20 := digS_len n h
set_option maxRecDepth 100000 in
set_option maxHeartbeats 3200000 in
theorem ledgerLine_spec (l : Le) (w : World) (hf : l.fits) : Calls Tryd.prog 4 #[leA l] w (Ret w (.string (lineL l))) := by
  obtain ⟨f0, f1, f2, f3, f4⟩ := hf
  have CO := Lib.hid (fun w => ledgerOk_spec l w)
  have K0 := KB.start w l
  unfold leA at CO ⊢
  by_cases h : l.fine
  rotate_left
  · have HV : Hid (lineL l = ⟨#[]⟩) := if_neg h
    rw [decide_eq_false h] at CO
    clear h f0 f1 f2 f3 f4
    go_enter Tryd.func4, Tryd.ntmps4
    go_wp2_with fail
    refine (CO.out _).mono ?_
    rintro e w1 ⟨rfl, b1⟩
    have BF := Lib.hid (K0.call b1).1
    clear b1 K0 CO
    go_wp2
    go_ret
    exact ⟨by rw [HV.out] <;> rfl, BF.out⟩
  have HV : Hid (lineL l = lnS (digS l.free) (digS l.held) (digS l.sold) (digS l.tied)) := if_pos h
  rw [decide_eq_true h] at CO
  have CD1 := Lib.hid (fun w => digits_spec l.free w f1.1 f1.2)
  have CD2 := Lib.hid (fun w => digits_spec l.held w f2.1 f2.2)
  have CD3 := Lib.hid (fun w => digits_spec l.sold w f3.1 f3.2)
  have CD4 := Lib.hid (fun w => digits_spec l.tied w f4.1 f4.2)
  have s1 := digS_short l.free f1
  have s2 := digS_short l.held f2
  have s3 := digS_short l.sold f3
  have s4 := digS_short l.tied f4
  generalize digS l.free = A at *
  generalize digS l.held = B at *
  generalize digS l.sold = C at *
  generalize digS l.tied = D at *
  clear h f0 f1 f2 f3 f4
  go_enter Tryd.func4, Tryd.ntmps4
  go_wp2_with fail
  refine (CO.out _).mono ?_
  rintro e w1 ⟨rfl, b1⟩
  have K := K0.call b1
  clear b1 K0 CO
  go_wp2_with fail
  refine wp_region_held_drew (S := KB w l) (by kernel_rfl) K.drew (fun hHeld => ?_)
  refine held_take 0 6 (.pointer (some ⟨w.heap.size, 1, none⟩)) rfl rfl (by kernel_rfl) (by kernel_rfl) (by kernel_rfl) (fun _ _ _ h => h) rfl hHeld (fun u _ => exec_fldLe _ 0 1 u (by omega)) ?_
  refine held_take 1 7 (.int .i64 l.free) rfl rfl (by kernel_rfl) (by kernel_rfl) (by kernel_rfl) (fun _ _ _ h => h) rfl hHeld (fun u h => exec_load1 3 _ _ _ u (by simp) (cell_of_row _ _ 1 _ _ _ h.2)) ?_
  refine held_take 4 10 (.pointer (some ⟨w.heap.size, 2, none⟩)) rfl rfl (by kernel_rfl) (by kernel_rfl) (by kernel_rfl) (fun _ _ _ h => h) rfl hHeld (fun u _ => exec_fldLe _ 0 2 u (by omega)) ?_
  simp only [Act.put, List.setIfInBounds_toArray, List.set_cons_zero, List.set_cons_succ]
  refine held_take 5 11 (.int .i64 l.held) rfl rfl (by kernel_rfl) (by kernel_rfl) (by kernel_rfl) (fun _ _ _ h => h) rfl hHeld (fun u h => exec_load1 3 _ _ _ u (by simp) (cell_of_row _ _ 2 _ _ _ h.2)) ?_
  refine held_take 9 15 (.pointer (some ⟨w.heap.size, 3, none⟩)) rfl rfl (by kernel_rfl) (by kernel_rfl) (by kernel_rfl) (fun _ _ _ h => h) rfl hHeld (fun u _ => exec_fldLe _ 0 3 u (by omega)) ?_
  refine held_take 10 16 (.int .i64 l.sold) rfl rfl (by kernel_rfl) (by kernel_rfl) (by kernel_rfl) (fun _ _ _ h => h) rfl hHeld (fun u h => exec_load1 3 _ _ _ u (by simp) (cell_of_row _ _ 3 _ _ _ h.2)) ?_
  simp only [Act.put, List.setIfInBounds_toArray, List.set_cons_zero, List.set_cons_succ]
  refine held_take 14 20 (.pointer (some ⟨w.heap.size, 4, none⟩)) rfl rfl (by kernel_rfl) (by kernel_rfl) (by kernel_rfl) (fun _ _ _ h => h) rfl hHeld (fun u _ => exec_fldLe _ 0 4 u (by omega)) ?_
  refine held_take 15 21 (.int .i64 l.tied) rfl rfl (by kernel_rfl) (by kernel_rfl) (by kernel_rfl) (fun _ _ _ h => h) rfl hHeld (fun u h => exec_load1 3 _ _ _ u (by simp) (cell_of_row _ _ 4 _ _ _ h.2)) ?_
  simp only [Act.put, List.setIfInBounds_toArray, List.set_cons_zero, List.set_cons_succ]
  refine held_call 2 8 8 #[(.int .i64 l.free)] rfl rfl (by kernel_rfl) rfl (exec_call Tryd.func8 (by kernel_rfl) (by kernel_rfl) _) ?_
  refine (CD1.out _).mono ?_
  rintro e u1 ⟨rfl, x1⟩
  have hHeld := hHeld.call x1
  refine ⟨_, rfl, hHeld, ?_⟩
  simp only [Act.put, List.setIfInBounds_toArray, List.set_cons_zero, List.set_cons_succ]
  refine held_take 3 9 (.string (A ++ (⟨#[47]⟩ : ByteArray))) rfl rfl (by kernel_rfl) (by kernel_rfl) (by kernel_rfl) (fun _ _ _ h => h) rfl hHeld (fun u _ => run_add _ _ u (by simp [ByteArray.size_append, sz1]; omega)) ?_
  simp only [Act.put, List.setIfInBounds_toArray, List.set_cons_zero, List.set_cons_succ]
  refine held_call 6 12 8 #[(.int .i64 l.held)] rfl rfl (by kernel_rfl) rfl (exec_call Tryd.func8 (by kernel_rfl) (by kernel_rfl) _) ?_
  refine (CD2.out _).mono ?_
  rintro e u2 ⟨rfl, x2⟩
  have hHeld := hHeld.call x2
  refine ⟨_, rfl, hHeld, ?_⟩
  simp only [Act.put, List.setIfInBounds_toArray, List.set_cons_zero, List.set_cons_succ]
  refine held_take 7 13 (.string ((A ++ (⟨#[47]⟩ : ByteArray)) ++ B)) rfl rfl (by kernel_rfl) (by kernel_rfl) (by kernel_rfl) (fun _ _ _ h => h) rfl hHeld (fun u _ => run_add _ _ u (by simp [ByteArray.size_append, sz1]; omega)) ?_
  refine held_take 8 14 (.string (((A ++ (⟨#[47]⟩ : ByteArray)) ++ B) ++ (⟨#[47]⟩ : ByteArray))) rfl rfl (by kernel_rfl) (by kernel_rfl) (by kernel_rfl) (fun _ _ _ h => h) rfl hHeld (fun u _ => run_add _ _ u (by simp [ByteArray.size_append, sz1]; omega)) ?_
  simp only [Act.put, List.setIfInBounds_toArray, List.set_cons_zero, List.set_cons_succ]
  refine held_call 11 17 8 #[(.int .i64 l.sold)] rfl rfl (by kernel_rfl) rfl (exec_call Tryd.func8 (by kernel_rfl) (by kernel_rfl) _) ?_
  refine (CD3.out _).mono ?_
  rintro e u3 ⟨rfl, x3⟩
  have hHeld := hHeld.call x3
  refine ⟨_, rfl, hHeld, ?_⟩
  simp only [Act.put, List.setIfInBounds_toArray, List.set_cons_zero, List.set_cons_succ]
  refine held_take 12 18 (.string ((((A ++ (⟨#[47]⟩ : ByteArray)) ++ B) ++ (⟨#[47]⟩ : ByteArray)) ++ C)) rfl rfl (by kernel_rfl) (by kernel_rfl) (by kernel_rfl) (fun _ _ _ h => h) rfl hHeld (fun u _ => run_add _ _ u (by simp [ByteArray.size_append, sz1]; omega)) ?_
  refine held_take 13 19 (.string (((((A ++ (⟨#[47]⟩ : ByteArray)) ++ B) ++ (⟨#[47]⟩ : ByteArray)) ++ C) ++ (⟨#[47]⟩ : ByteArray))) rfl rfl (by kernel_rfl) (by kernel_rfl) (by kernel_rfl) (fun _ _ _ h => h) rfl hHeld (fun u _ => run_add _ _ u (by simp [ByteArray.size_append, sz1]; omega)) ?_
  simp only [Act.put, List.setIfInBounds_toArray, List.set_cons_zero, List.set_cons_succ]
  refine held_call 16 22 8 #[(.int .i64 l.tied)] rfl rfl (by kernel_rfl) rfl (exec_call Tryd.func8 (by kernel_rfl) (by kernel_rfl) _) ?_
  refine (CD4.out _).mono ?_
  rintro e u4 ⟨rfl, x4⟩
  have hHeld := hHeld.call x4
  refine ⟨_, rfl, hHeld, ?_⟩
  simp only [Act.put, List.setIfInBounds_toArray, List.set_cons_zero, List.set_cons_succ]
  refine held_take 17 23 (.string ((((((A ++ (⟨#[47]⟩ : ByteArray)) ++ B) ++ (⟨#[47]⟩ : ByteArray)) ++ C) ++ (⟨#[47]⟩ : ByteArray)) ++ D)) rfl rfl (by kernel_rfl) (by kernel_rfl) (by kernel_rfl) (fun _ _ _ h => h) rfl hHeld (fun u _ => run_add _ _ u (by simp [ByteArray.size_append, sz1]; omega)) ?_
  simp only [Act.put, List.setIfInBounds_toArray, List.set_cons_zero, List.set_cons_succ]
  refine held_op 18 2 (.string ((((((A ++ (⟨#[47]⟩ : ByteArray)) ++ B) ++ (⟨#[47]⟩ : ByteArray)) ++ C) ++ (⟨#[47]⟩ : ByteArray)) ++ D)) rfl rfl (by kernel_rfl) rfl rfl hHeld ?_
  simp only [Act.put, List.setIfInBounds_toArray, List.set_cons_zero, List.set_cons_succ]
  refine wpAnyH_done (by kernel_rfl) ?_ _
  have BF := Lib.hid hHeld.1
  clear hHeld K CD1 CD2 CD3 CD4
  go_wp2
  go_ret
  exact ⟨by rw [HV.out] <;> rfl, BF.out⟩
theorem join_four (A B C D : ByteArray) : (⟨(Lib.join ([A, B, C, D].map (·.data.toList)) (⟨#[47]⟩ : ByteArray).data.toList).toArray⟩ : ByteArray) = lnS A B C D := by
  unfold lnS
  apply ByteArray.ext
  simp [Lib.join, List.intercalate, ByteArray.data_append]
set_option maxRecDepth 100000 in
set_option maxHeartbeats 3200000 in
theorem ledgerLine_impl (l : Le) (w : World) (hf : l.fits) (ht : Tab w) : Calls Tryd.prog 6 #[leA l] w (Ret w (.string (lineL l))) := by
  have CO := Lib.hid (fun w => ledgerOk_impl l w hf)
  have CC := Lib.hid (fun w => countsOf_any l w)
  obtain ⟨f0, f1, f2, f3, f4⟩ := hf
  have K0 := KB.start w l
  unfold leA at CO CC ⊢
  unfold cnA at CC
  by_cases h : l.fine
  rotate_left
  · have HV : Hid (lineL l = ⟨#[]⟩) := if_neg h
    rw [decide_eq_false h] at CO
    clear h f0 f1 f2 f3 f4
    go_enter Tryd.func6, Tryd.ntmps6
    go_wp2_with fail
    refine (CO.out _).mono ?_
    rintro e w1 ⟨rfl, b1⟩
    have BF := Lib.hid (K0.call b1).1
    clear b1 K0 CO
    go_wp2
    go_ret
    exact ⟨by rw [HV.out] <;> rfl, BF.out⟩
  have HV : Hid (lineL l = lnS (digS l.free) (digS l.held) (digS l.sold) (digS l.tied)) := if_pos h
  rw [decide_eq_true h] at CO
  have CD1 := Lib.hid (fun w t => digits_impl l.free w f1.1 f1.2 t)
  have CD2 := Lib.hid (fun w t => digits_impl l.held w f2.1 f2.2 t)
  have CD3 := Lib.hid (fun w t => digits_impl l.sold w f3.1 f3.2 t)
  have CD4 := Lib.hid (fun w t => digits_impl l.tied w f4.1 f4.2 t)
  have s1 := digS_short l.free f1
  have s2 := digS_short l.held f2
  have s3 := digS_short l.sold f3
  have s4 := digS_short l.tied f4
  generalize digS l.free = A at *
  generalize digS l.held = B at *
  generalize digS l.sold = C at *
  generalize digS l.tied = D at *
  have HT := Lib.hid (fun (wr : World) (hb : Below w.heap.size w wr) => ht.below hb ht.2)
  have HJ := Lib.hid (join_four A B C D)
  clear h f0 f1 f2 f3 f4 ht
  go_enter Tryd.func6, Tryd.ntmps6
  go_wp2_with fail
  refine (CO.out _).mono ?_
  rintro e w1 ⟨rfl, b1⟩
  have K := K0.call b1
  clear b1 K0 CO
  have c0 := cell_of_row _ _ 0 _ _ _ K.2
  have c1 := cell_of_row _ _ 1 _ _ _ K.2
  have c2 := cell_of_row _ _ 2 _ _ _ K.2
  have c3 := cell_of_row _ _ 3 _ _ _ K.2
  have c4 := cell_of_row _ _ 4 _ _ _ K.2
  simp at c0 c1 c2 c3 c4
  go_wp2_with fail
  refine (CC.out _).mono ?_
  rintro e w2 ⟨rfl, b2⟩
  have B2 := (K.call b2).1
  clear c0 c1 c2 c3 c4 b2 K CC
  go_wp2
  go_loopw [3, 11] (fun v vi wr => ∃ k : Nat, k ≤ 4 ∧ vi = .int .i64 k ∧ OwnS wr w.heap.size v ([A, B, C, D].take k) ∧ Below w.heap.size w wr) (fun _ vi _ => 4 - (intOf vi).toNat)
  case atStart => exact ⟨0, by omega, rfl, World.ownsRow_nil _ _ _ _, B2⟩
  case round =>
    obtain ⟨k, hk, rfl, hown, hbel⟩ := hrel
    clear B2
    have hbs := hbel.size
    by_cases hlt : k < 4
    · rcases fourI hlt with rfl | rfl | rfl | rfl
      · have hown : OwnS wr w.heap.size _ [] := hown
        go_wp2_with fail
        rw [idx4_0]
        go_wp2_with fail
        refine (CD1.out _ (HT.out _ hbel)).mono ?_
        rintro e u ⟨rfl, x⟩
        have hown := OwnS.below hown x
        have hbel := hbel.trans (x.mono hbs)
        have hbs := hbel.size
        clear x CD1 CD2 CD3 CD4 HT
        go_wp2_with (at_builtin; refine wpList_app1S _ rfl (.tmp 14) (.tmp 17) rfl w.heap.size _ [] rfl (owns_alloc hown _) u.heap.size _ rfl (one_newS _ _) (by simp) (by simp; omega) ?_)
        intro v' w1' o1 g1
        have b1 : Below w.heap.size w w1' := (hbel.alloc hbs _).grown g1 (by simp; omega) (owns_lo hown)
        clear g1 hown hbel
        have HO := Lib.hid o1
        have HB := Lib.hid b1
        clear o1 b1
        go_wp2
        go_roundw
        case rel => exact ⟨1, by omega, by go_num, HO.out, HB.out⟩
        case measure => simp [intOf] <;> omega
      · have hown : OwnS wr w.heap.size _ [A] := hown
        go_wp2_with fail
        rw [idx4_1]
        go_wp2_with fail
        refine (CD2.out _ (HT.out _ hbel)).mono ?_
        rintro e u ⟨rfl, x⟩
        have hown := OwnS.below hown x
        have hbel := hbel.trans (x.mono hbs)
        have hbs := hbel.size
        clear x CD1 CD2 CD3 CD4 HT
        go_wp2_with (at_builtin; refine wpList_app1S _ rfl (.tmp 14) (.tmp 17) rfl w.heap.size _ [A] rfl (owns_alloc hown _) u.heap.size _ rfl (one_newS _ _) (by simp) (by simp; omega) ?_)
        intro v' w1' o1 g1
        have b1 : Below w.heap.size w w1' := (hbel.alloc hbs _).grown g1 (by simp; omega) (owns_lo hown)
        clear g1 hown hbel
        have HO := Lib.hid o1
        have HB := Lib.hid b1
        clear o1 b1
        go_wp2
        go_roundw
        case rel => exact ⟨2, by omega, by go_num, HO.out, HB.out⟩
        case measure => simp [intOf] <;> omega
      · have hown : OwnS wr w.heap.size _ [A, B] := hown
        go_wp2_with fail
        rw [idx4_2]
        go_wp2_with fail
        refine (CD3.out _ (HT.out _ hbel)).mono ?_
        rintro e u ⟨rfl, x⟩
        have hown := OwnS.below hown x
        have hbel := hbel.trans (x.mono hbs)
        have hbs := hbel.size
        clear x CD1 CD2 CD3 CD4 HT
        go_wp2_with (at_builtin; refine wpList_app1S _ rfl (.tmp 14) (.tmp 17) rfl w.heap.size _ [A, B] rfl (owns_alloc hown _) u.heap.size _ rfl (one_newS _ _) (by simp) (by simp; omega) ?_)
        intro v' w1' o1 g1
        have b1 : Below w.heap.size w w1' := (hbel.alloc hbs _).grown g1 (by simp; omega) (owns_lo hown)
        clear g1 hown hbel
        have HO := Lib.hid o1
        have HB := Lib.hid b1
        clear o1 b1
        go_wp2
        go_roundw
        case rel => exact ⟨3, by omega, by go_num, HO.out, HB.out⟩
        case measure => simp [intOf] <;> omega
      · have hown : OwnS wr w.heap.size _ [A, B, C] := hown
        go_wp2_with fail
        rw [idx4_3]
        go_wp2_with fail
        refine (CD4.out _ (HT.out _ hbel)).mono ?_
        rintro e u ⟨rfl, x⟩
        have hown := OwnS.below hown x
        have hbel := hbel.trans (x.mono hbs)
        have hbs := hbel.size
        clear x CD1 CD2 CD3 CD4 HT
        go_wp2_with (at_builtin; refine wpList_app1S _ rfl (.tmp 14) (.tmp 17) rfl w.heap.size _ [A, B, C] rfl (owns_alloc hown _) u.heap.size _ rfl (one_newS _ _) (by simp) (by simp; omega) ?_)
        intro v' w1' o1 g1
        have b1 : Below w.heap.size w w1' := (hbel.alloc hbs _).grown g1 (by simp; omega) (owns_lo hown)
        clear g1 hown hbel
        have HO := Lib.hid o1
        have HB := Lib.hid b1
        clear o1 b1
        go_wp2
        go_roundw
        case rel => exact ⟨4, by omega, by go_num, HO.out, HB.out⟩
        case measure => simp [intOf] <;> omega
    · obtain rfl : k = 4 := by omega
      have hown : OwnS wr w.heap.size _ [A, B, C, D] := hown
      obtain ⟨a, c, rfl, hS, hA⟩ := OwnS.form hown
      have hcap : 4 ≤ c := by
        rcases hown.2 with ⟨he, hn⟩ | ⟨g, cap, cur, he, hb, hg, hnc, hm, hs, hty⟩
        · simp at hn
        · injection he with _ _ he; subst he; simpa using hnc
      rcases hS with hS | ⟨b, off, rfl, hb, hc⟩
      · simp at hS
      have CJ := Tryd.strings_Join b off c [A, B, C, D] (⟨#[47]⟩ : ByteArray) wr (by
        intro j x hj
        have hjl : j < [A, B, C, D].length := by
          rcases Nat.lt_or_ge j [A, B, C, D].length with h | h
          · exact h
          · rw [List.getElem?_eq_none h] at hj; cases hj
        rw [hc j hjl, List.getD_eq_getElem?_getD, hj]; rfl) hb (by simp) (by simpa using hcap) (by
          have e := congrArg ByteArray.size HJ.out
          have e2 : (⟨(Lib.join ([A, B, C, D].map (·.data.toList)) (⟨#[47]⟩ : ByteArray).data.toList).toArray⟩ : ByteArray).size = (Lib.join ([A, B, C, D].map (·.data.toList)) (⟨#[47]⟩ : ByteArray).data.toList).length := by simp [ByteArray.size]
          rw [← e2, e]
          unfold lnS
          simp only [ByteArray.size_append, sz1]
          omega)
      rw [HJ.out] at CJ
      have HC := Lib.hid CJ
      clear CJ hown hc hb hA CD1 CD2 CD3 CD4 HT
      go_wp2_with fail
      refine HC.out.mono ?_
      rintro e u ⟨rfl, x⟩
      have BF := Lib.hid (hbel.trans (x.mono hbs))
      clear x hbel
      go_wp2
      go_ret
      exact ⟨by rw [HV.out] <;> rfl, BF.out⟩
set_option maxRecDepth 100000 in
set_option maxHeartbeats 1600000 in
theorem FnExactLedgerLine_walk (l : Le) (w : World) (hf : l.fits) (ht : Tab w) : Calls Tryd.prog 3 #[leA l] w fun e w' => e = .returned (.bool true) ∧ Below w.heap.size w w' := by
  have CT := Lib.hid (fun w => toLedger_any l w)
  have C1 := Lib.hid (fun w => ledgerLine_spec l w hf)
  have C2 := Lib.hid (fun w t => ledgerLine_impl l w hf t)
  have hne : ((lineL l).toList != (lineL l).toList) = false := by simp
  generalize lineL l = X at *
  have b0 : Below w.heap.size w (w.alloc (.cells #[.int .i64 l.total, .int .i64 l.free, .int .i64 l.held, .int .i64 l.sold, .int .i64 l.tied] 23)) := (Below.refl _ _).alloc (Nat.le_refl _) _
  have K0 := heap_new w (.cells #[.int .i64 l.total, .int .i64 l.free, .int .i64 l.held, .int .i64 l.sold, .int .i64 l.tied] 23)
  unfold leA at CT C1 C2 ⊢
  clear hf
  go_enter Tryd.func3, Tryd.ntmps3
  go_wp2_with fail
  refine (CT.out _).mono ?_
  rintro e w1 ⟨rfl, x1⟩
  have K1 := blk_call K0 x1
  have b1 := b0.trans (x1.mono b0.size)
  clear x1 b0 K0
  go_wp2_with fail
  refine (C1.out _).mono ?_
  rintro e w2 ⟨rfl, x2⟩
  have K2 := blk_call K1 x2
  have b2 := b1.trans (x2.mono b1.size)
  clear x2 b1 K1
  have c0 := cell_of_row _ _ 0 _ _ _ K2
  have c1 := cell_of_row _ _ 1 _ _ _ K2
  have c2 := cell_of_row _ _ 2 _ _ _ K2
  have c3 := cell_of_row _ _ 3 _ _ _ K2
  have c4 := cell_of_row _ _ 4 _ _ _ K2
  simp at c0 c1 c2 c3 c4
  go_wp2_with fail
  refine (CT.out _).mono ?_
  rintro e w3 ⟨rfl, x3⟩
  have b3 := b2.trans (x3.mono b2.size)
  clear x3 b2 K2 c0 c1 c2 c3 c4
  go_wp2_with fail
  refine (C2.out _ (ht.below b3 ht.2)).mono ?_
  rintro e w4 ⟨rfl, x4⟩
  have BF := Lib.hid (b3.trans (x4.mono b3.size))
  clear x4 b3 ht
  go_wp2
  go_ret
  exact ⟨rfl, BF.out⟩
end Go.Proofs.YtjnmdnpknlakhaaDoor
