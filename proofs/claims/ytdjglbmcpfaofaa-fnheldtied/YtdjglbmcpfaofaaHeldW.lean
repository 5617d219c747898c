/- The walk of the law FnHeldTied. -/
import Derived.Test.YtdjglbmcpfaofaaRows
import Derived.Test.YtdjglbmcpfaofaaCaI
import Derived.Test.YtdjglbmcpfaofaaCaP
import Derived.Test.YtdjglbmcpfaofaaCbD
namespace Go.Proofs.Ytdjglbmcpfaofaa
open Go.RowKit
set_option linter.unusedSimpArgs false
set_option linter.unusedVariables false
set_option maxRecDepth 100000 in
theorem exec_eqlI0 {ρ : Operand → Value} {o : Oper} {x y : Operand} (X Y : Int) (w : World) (h : X = Y) (ho : o.op = .binOp .eql 3 x y 3 := by rfl) (hx : ρ x = .int .i64 X := by rfl) (hy : ρ y = .int .i64 Y := by rfl) :
    (execOp ρ o).run Try.prog w = .ok (.value (.bool true)) w := by
  unfold execOp
  rw [ho]
  subst h
  simp [go_sem, hx, hy]
set_option maxRecDepth 100000 in
theorem exec_geqI {ρ : Operand → Value} {o : Oper} {x y : Operand} (X Y : Int) (d : Bool) (w : World) (hd : decide (Y ≤ X) = d) (ho : o.op = .binOp .geq 3 x y 3 := by rfl) (hx : ρ x = .int .i64 X := by rfl) (hy : ρ y = .int .i64 Y := by rfl) :
    (execOp ρ o).run Try.prog w = .ok (.value (.bool d)) w := by
  unfold execOp
  rw [ho]
  simp [go_sem, hx, hy, ← hd]
theorem rws_take {w : World} {B : Nat} {A : Option Addr} {cs : List Value} (h : Rws w B A cs) (m : Nat) : Rws w B A (cs.take m) := by
  rcases h with h | ⟨b, off, e, hlt, hc⟩
  · exact .inl (by rw [h]; simp)
  · refine .inr ⟨b, off, e, hlt, fun k hk => ?_⟩
    rw [List.length_take] at hk
    rw [hc k (by omega), List.getElem?_take_of_lt (by omega)]
theorem sum_split {α : Type} (f : α → Int) (l : List α) (k : Nat) : (l.map f).sum = ((l.take k).map f).sum + ((l.drop k).map f).sum := by
  conv => lhs; rw [← List.take_append_drop k l]
  rw [List.map_append, List.sum_append]
theorem sum_in {α : Type} (f : α → Int) (h : ∀ x, 0 ≤ f x ∧ f x ≤ 6) (l : List α) : 0 ≤ (l.map f).sum ∧ (l.map f).sum ≤ 6 * l.length := by
  induction l with
  | nil => simp
  | cons x t ih => have := h x; simp only [List.map_cons, List.sum_cons, List.length_cons]; omega
theorem heldV_split (l : List Pt) (c : Int) (k : Nat) : heldV l c = heldV (l.take k) c + heldV (l.drop k) c := sum_split _ l k
theorem tiedV_split (l : List Pt) (c : Int) (k : Nat) : tiedV l c = tiedV (l.take k) c + tiedV (l.drop k) c := sum_split _ l k
theorem countV_split (l : List Pt) (c : Int) (k : Nat) : countV l c = countV (l.take k) c + countV (l.drop k) c := sum_split _ l k
theorem heldV_in (l : List Pt) (c : Int) : 0 ≤ heldV l c ∧ heldV l c ≤ 6 * l.length := sum_in _ (fun x => by split <;> omega) l
theorem tiedV_in (l : List Pt) (c : Int) : 0 ≤ tiedV l c ∧ tiedV l c ≤ 6 * l.length := sum_in _ (fun x => by split <;> omega) l
theorem countV_in (l : List Pt) (c : Int) : 0 ≤ countV l c ∧ countV l c ≤ 6 * l.length := sum_in _ (fun x => by split <;> omega) l
set_option maxRecDepth 100000 in
set_option maxHeartbeats 3200000 in
theorem FnHeldTied_walk (A : Option Addr) (l : List Nat) (cap : Nat) (w : World) (hA : Bts w w.heap.size A l) (hb : AllB l) (hm : l.length ≤ maxLen) :
    Calls Try.prog 3 #[.slice A l.length cap] w fun e w' => e = .returned (.bool true) ∧ Below w.heap.size w w' := by
  by_cases hbig : 1048576 < l.length
  · go_enter Try.func3, Try.ntmps3
    go_wp2_with fail
    refine (big_yes _ _ _ _ hbig).mono ?_
    rintro e w' ⟨rfl, rfl⟩
    go_wp2
    go_ret
    exact ⟨rfl, Below.refl _ _⟩
  have hl : l.length ≤ 1048576 := by omega
  clear hbig hm
  have CD := Lib.hid (drawHeldIn_any A l cap w (by omega) hA hb)
  have KA := Lib.hid (fun w' (h : Below w.heap.size w w') => hA.below h)
  go_enter Try.func3, Try.ntmps3
  go_wp2_with fail
  refine (big_no _ _ _ _ hl).mono ?_
  rintro e w' ⟨rfl, rfl⟩
  go_wp2_with fail
  refine CD.out.mono ?_
  rintro e w1 ⟨el, LA, lc, z, hel, hef, rfl, ⟨hz, hcap, hnil⟩, hR, b1⟩
  have C0 := Lib.hid (at0_any A l cap w.heap.size 1 w1 (by omega) (by omega) (KA.out _ b1) hb)
  have HB := Lib.hid b1
  have RL := Lib.hid (fun u (h : Below w1.heap.size w1 u) => rws_below hR h)
  clear hA CD KA hR b1
  go_wp2_with fail
  refine C0.out.mono ?_
  rintro e w' ⟨rfl, rfl⟩
  clear C0
  obtain ⟨n, hn⟩ : ∃ n, el.length = n := ⟨_, rfl⟩
  rw [hn] at hel hcap ⊢
  have HN := Lib.hid hn
  clear hn
  obtain ⟨x, hx⟩ : ∃ x, at0N l 1 = x := ⟨_, rfl⟩
  rw [hx]
  clear hx
  obtain ⟨k, hk⟩ : ∃ k, x % (n + 1) = k := ⟨_, rfl⟩
  have hkn : k ≤ n := by have := Nat.mod_lt x (show 0 < n + 1 by omega); omega
  have er : Int.tmod (x : Int) ((n : Int) + 1) = (k : Int) := by
    rw [← hk, show ((n : Int) + 1) = ((n + 1 : Nat) : Int) by omega]
    exact (Int.ofNat_tmod _ _).symm
  clear hk
  go_wp2_with fail
  have RT := Lib.hid (fun u (h : Below w1.heap.size w1 u) => (by rw [flat_take ptC 10 ptC_len]; exact rws_take (RL.out u h) _ : Rws u u.heap.size LA ((el.take k).flatMap ptC)))
  have RD := Lib.hid (fun u (h : Below w1.heap.size w1 u) => (by rw [flat_drop ptC 10 ptC_len]; exact (RL.out u h).from_ (n := n) (by rw [flat_len ptC 10 ptC_len, HN.out]) hkn hcap : Rws u u.heap.size (fromA LA lc k 10) ((el.drop k).flatMap ptC)))
  have lT : (el.take k).length = k := by rw [List.length_take, HN.out]; omega
  have lD : (el.drop k).length = n - k := by rw [List.length_drop, HN.out]
  have fT : ∀ f ∈ el.take k, f.fits := fun f h => hef f (List.mem_of_mem_take h)
  have fD : ∀ f ∈ el.drop k, f.fits := fun f h => hef f (List.mem_of_mem_drop h)
  have CH : Hid (∀ u (h : Below w1.heap.size w1 u), Calls Try.prog 14 #[.slice LA n lc, .int .i64 z] u fun e w' => e = .returned (.int .i64 (heldV el z)) ∧ Below u.heap.size u w') := fun u h => HN.out ▸ heldIn_impl LA el lc z u (by have := HN.out; omega) (RL.out u h) hef hz
  have CT : Hid (∀ u (h : Below w1.heap.size w1 u), Calls Try.prog 15 #[.slice LA n lc, .int .i64 z] u fun e w' => e = .returned (.int .i64 (tiedV el z)) ∧ Below u.heap.size u w') := fun u h => HN.out ▸ tiedIn_impl LA el lc z u (by have := HN.out; omega) (RL.out u h) hef hz
  have CC : Hid (∀ u (h : Below w1.heap.size w1 u), Calls Try.prog 17 #[.slice LA n lc, .int .i64 z] u fun e w' => e = .returned (.int .i64 (countV el z)) ∧ Below u.heap.size u w') := fun u h => HN.out ▸ countIn_impl LA el lc z u (by have := HN.out; omega) (RL.out u h) hef hz
  have CP : Hid (∀ u (h : Below w1.heap.size w1 u), Calls Try.prog 19 #[.slice LA n lc, .int .i64 z] u (NewR 70 2 u (pinsV el z).length ((pinsV el z).flatMap pnC))) := fun u h => HN.out ▸ pinsIn_impl LA el lc z u (by have := HN.out; omega) (RL.out u h) hef hz
  have CQ : Hid (∀ u (h : Below w1.heap.size w1 u), Calls Try.prog 20 #[.slice LA n lc, .int .i64 z] u (NewR 70 2 u (pinsV el z).length ((pinsV el z).flatMap pnC))) := fun u h => HN.out ▸ pinsIn_spec LA el lc z u (by have := HN.out; omega) (RL.out u h)
  have CH1 : Hid (∀ u (h : Below w1.heap.size w1 u), Calls Try.prog 14 #[.slice LA k lc, .int .i64 z] u fun e w' => e = .returned (.int .i64 (heldV (el.take k) z)) ∧ Below u.heap.size u w') := fun u h => by have := heldIn_impl LA (el.take k) lc z u (by omega) (RT.out u h) fT hz; rwa [lT] at this
  have CT1 : Hid (∀ u (h : Below w1.heap.size w1 u), Calls Try.prog 15 #[.slice LA k lc, .int .i64 z] u fun e w' => e = .returned (.int .i64 (tiedV (el.take k) z)) ∧ Below u.heap.size u w') := fun u h => by have := tiedIn_impl LA (el.take k) lc z u (by omega) (RT.out u h) fT hz; rwa [lT] at this
  have CC1 : Hid (∀ u (h : Below w1.heap.size w1 u), Calls Try.prog 17 #[.slice LA k lc, .int .i64 z] u fun e w' => e = .returned (.int .i64 (countV (el.take k) z)) ∧ Below u.heap.size u w') := fun u h => by have := countIn_impl LA (el.take k) lc z u (by omega) (RT.out u h) fT hz; rwa [lT] at this
  have CH2 : Hid (∀ u (h : Below w1.heap.size w1 u), Calls Try.prog 14 #[.slice (fromA LA lc k 10) (n - k) (lc - k), .int .i64 z] u fun e w' => e = .returned (.int .i64 (heldV (el.drop k) z)) ∧ Below u.heap.size u w') := fun u h => by have := heldIn_impl (fromA LA lc k 10) (el.drop k) (lc - k) z u (by omega) (RD.out u h) fD hz; rwa [lD] at this
  have CT2 : Hid (∀ u (h : Below w1.heap.size w1 u), Calls Try.prog 16 #[.slice (fromA LA lc k 10) (n - k) (lc - k), .int .i64 z] u fun e w' => e = .returned (.int .i64 (tiedV (el.drop k) z)) ∧ u = w') := fun u h => by have := tied_spec (fromA LA lc k 10) (el.drop k) (lc - k) z u (by omega) (RD.out u h); rwa [lD] at this
  have CC2 : Hid (∀ u (h : Below w1.heap.size w1 u), Calls Try.prog 18 #[.slice (fromA LA lc k 10) (n - k) (lc - k), .int .i64 z] u fun e w' => e = .returned (.int .i64 (countV (el.drop k) z)) ∧ u = w') := fun u h => by have := count_spec (fromA LA lc k 10) (el.drop k) (lc - k) z u (by omega) (RD.out u h); rwa [lD] at this
  have i1 := heldV_in (el.take k) z
  have i2 := heldV_in (el.drop k) z
  have i3 := tiedV_in (el.take k) z
  have i4 := tiedV_in (el.drop k) z
  have i5 := countV_in (el.take k) z
  have i6 := countV_in (el.drop k) z
  have hh := heldV_split el z k
  have ht := tiedV_split el z k
  have hc := countV_split el z k
  have h0p : 0 ≤ heldV el z := (heldV_in el z).1
  rw [lT] at i1 i3 i5
  rw [lD] at i2 i4 i6
  generalize heldV (el.take k) z = h1 at *
  generalize heldV (el.drop k) z = h2 at *
  generalize heldV el z = h0 at *
  generalize tiedV (el.take k) z = t1 at *
  generalize tiedV (el.drop k) z = t2 at *
  generalize tiedV el z = t0 at *
  generalize countV (el.take k) z = c1 at *
  generalize countV (el.drop k) z = c2 at *
  generalize countV el z = c0 at *
  generalize (pinsV el z).length = np at *
  clear RT RD RL lT lD fT fD hef er HN
  refine wp_region_held_drew (S := fun w' => Hid (Below w1.heap.size w1 w')) (by kernel_rfl) (below_drawn (Below.refl _ _) 1) (fun hHeld => ?_)
  refine held_take 0 19 (.slice LA n lc) rfl rfl (by kernel_rfl) (by kernel_rfl) (by kernel_rfl) (fun _ _ _ h => h) rfl hHeld (fun w _ => rfl) ?_
  refine held_take 1 20 (.int .i64 z) rfl rfl (by kernel_rfl) (by kernel_rfl) (by kernel_rfl) (fun _ _ _ h => h) rfl hHeld (fun w _ => rfl) ?_
  refine held_take 3 22 (.slice LA n lc) rfl rfl (by kernel_rfl) (by kernel_rfl) (by kernel_rfl) (fun _ _ _ h => h) rfl hHeld (fun w _ => rfl) ?_
  simp only [Act.put, List.setIfInBounds_toArray, List.set_cons_zero, List.set_cons_succ]
  refine held_take 4 23 (.int .i64 (k : Int)) rfl rfl (by kernel_rfl) (by kernel_rfl) (by kernel_rfl) (fun _ _ _ h => h) rfl hHeld (fun w _ => rfl) ?_
  refine held_take 5 24 (.slice LA k lc) rfl rfl (by kernel_rfl) (by kernel_rfl) (by kernel_rfl) (fun _ _ _ h => h) rfl hHeld (fun w _ => exec_sliceTo rowPty LA n lc k w hkn hcap hnil) ?_
  refine held_take 6 25 (.int .i64 z) rfl rfl (by kernel_rfl) (by kernel_rfl) (by kernel_rfl) (fun _ _ _ h => h) rfl hHeld (fun w _ => rfl) ?_
  simp only [Act.put, List.setIfInBounds_toArray, List.set_cons_zero, List.set_cons_succ]
  refine held_take 8 27 (.slice LA n lc) rfl rfl (by kernel_rfl) (by kernel_rfl) (by kernel_rfl) (fun _ _ _ h => h) rfl hHeld (fun w _ => rfl) ?_
  refine held_take 9 28 (.int .i64 (k : Int)) rfl rfl (by kernel_rfl) (by kernel_rfl) (by kernel_rfl) (fun _ _ _ h => h) rfl hHeld (fun w _ => rfl) ?_
  refine held_take 10 29 (.slice (fromA LA lc k 10) (n - k) (lc - k)) rfl rfl (by kernel_rfl) (by kernel_rfl) (by kernel_rfl) (fun _ _ _ h => h) rfl hHeld (fun w _ => exec_sliceFrom rowPty LA n lc k w hkn hcap hnil) ?_
  simp only [Act.put, List.setIfInBounds_toArray, List.set_cons_zero, List.set_cons_succ]
  refine held_take 11 30 (.int .i64 z) rfl rfl (by kernel_rfl) (by kernel_rfl) (by kernel_rfl) (fun _ _ _ h => h) rfl hHeld (fun w _ => rfl) ?_
  simp only [Act.put, List.setIfInBounds_toArray, List.set_cons_zero, List.set_cons_succ]
  refine held_call 2 21 14 #[.slice LA n lc, .int .i64 z] rfl rfl (by kernel_rfl) rfl (exec_call Try.func14 (by kernel_rfl) (by kernel_rfl) _) ?_
  refine (CH.out _ hHeld.out).mono ?_
  rintro e v1 ⟨rfl, x1⟩
  have b1 : Hid (Below w1.heap.size w1 v1) := hHeld.out.trans (x1.mono hHeld.out.size)
  refine ⟨_, rfl, b1, ?_⟩
  simp only [Act.put, List.setIfInBounds_toArray, List.set_cons_zero, List.set_cons_succ]
  refine held_call 7 26 14 #[.slice LA k lc, .int .i64 z] rfl rfl (by kernel_rfl) rfl (exec_call Try.func14 (by kernel_rfl) (by kernel_rfl) _) ?_
  refine (CH1.out _ b1.out).mono ?_
  rintro e v2 ⟨rfl, x2⟩
  have b2 : Hid (Below w1.heap.size w1 v2) := b1.out.trans (x2.mono b1.out.size)
  refine ⟨_, rfl, b2, ?_⟩
  simp only [Act.put, List.setIfInBounds_toArray, List.set_cons_zero, List.set_cons_succ]
  refine held_call 12 31 14 #[.slice (fromA LA lc k 10) (n - k) (lc - k), .int .i64 z] rfl rfl (by kernel_rfl) rfl (exec_call Try.func14 (by kernel_rfl) (by kernel_rfl) _) ?_
  refine (CH2.out _ b2.out).mono ?_
  rintro e v3 ⟨rfl, x3⟩
  have b3 : Hid (Below w1.heap.size w1 v3) := b2.out.trans (x3.mono b2.out.size)
  refine ⟨_, rfl, b3, ?_⟩
  simp only [Act.put, List.setIfInBounds_toArray, List.set_cons_zero, List.set_cons_succ]
  refine held_take 13 32 (.int .i64 (h1 + h2)) rfl rfl (by kernel_rfl) (by kernel_rfl) (by kernel_rfl) (fun _ _ _ h => h) rfl b3 (fun w _ => exec_addI h1 h2 (h1 + h2) w rfl (by omega) (by omega)) ?_
  refine held_take 14 33 (.bool true) rfl rfl (by kernel_rfl) (by kernel_rfl) (by kernel_rfl) (fun _ _ _ h => h) rfl b3 (fun w _ => exec_eqlI0 h0 (h1 + h2) w hh) ?_
  refine held_take 15 34 (.bool true) rfl rfl (by kernel_rfl) (by kernel_rfl) (by kernel_rfl) (fun _ _ _ h => h) rfl b3 (fun w _ => rfl) ?_
  simp only [Act.put, List.setIfInBounds_toArray, List.set_cons_zero, List.set_cons_succ]
  refine held_take 16 35 (.slice LA n lc) rfl rfl (by kernel_rfl) (by kernel_rfl) (by kernel_rfl) (fun _ _ _ h => h) rfl b3 (fun w _ => rfl) ?_
  refine held_take 17 36 (.int .i64 z) rfl rfl (by kernel_rfl) (by kernel_rfl) (by kernel_rfl) (fun _ _ _ h => h) rfl b3 (fun w _ => rfl) ?_
  refine held_take 19 38 (.slice LA n lc) rfl rfl (by kernel_rfl) (by kernel_rfl) (by kernel_rfl) (fun _ _ _ h => h) rfl b3 (fun w _ => rfl) ?_
  simp only [Act.put, List.setIfInBounds_toArray, List.set_cons_zero, List.set_cons_succ]
  refine held_take 20 39 (.int .i64 (k : Int)) rfl rfl (by kernel_rfl) (by kernel_rfl) (by kernel_rfl) (fun _ _ _ h => h) rfl b3 (fun w _ => rfl) ?_
  refine held_take 21 40 (.slice LA k lc) rfl rfl (by kernel_rfl) (by kernel_rfl) (by kernel_rfl) (fun _ _ _ h => h) rfl b3 (fun w _ => exec_sliceTo rowPty LA n lc k w hkn hcap hnil) ?_
  refine held_take 22 41 (.int .i64 z) rfl rfl (by kernel_rfl) (by kernel_rfl) (by kernel_rfl) (fun _ _ _ h => h) rfl b3 (fun w _ => rfl) ?_
  simp only [Act.put, List.setIfInBounds_toArray, List.set_cons_zero, List.set_cons_succ]
  refine held_take 24 43 (.slice LA n lc) rfl rfl (by kernel_rfl) (by kernel_rfl) (by kernel_rfl) (fun _ _ _ h => h) rfl b3 (fun w _ => rfl) ?_
  refine held_take 25 44 (.int .i64 (k : Int)) rfl rfl (by kernel_rfl) (by kernel_rfl) (by kernel_rfl) (fun _ _ _ h => h) rfl b3 (fun w _ => rfl) ?_
  refine held_take 26 45 (.slice (fromA LA lc k 10) (n - k) (lc - k)) rfl rfl (by kernel_rfl) (by kernel_rfl) (by kernel_rfl) (fun _ _ _ h => h) rfl b3 (fun w _ => exec_sliceFrom rowPty LA n lc k w hkn hcap hnil) ?_
  simp only [Act.put, List.setIfInBounds_toArray, List.set_cons_zero, List.set_cons_succ]
  refine held_take 27 46 (.int .i64 z) rfl rfl (by kernel_rfl) (by kernel_rfl) (by kernel_rfl) (fun _ _ _ h => h) rfl b3 (fun w _ => rfl) ?_
  simp only [Act.put, List.setIfInBounds_toArray, List.set_cons_zero, List.set_cons_succ]
  refine held_call 18 37 15 #[.slice LA n lc, .int .i64 z] rfl rfl (by kernel_rfl) rfl (exec_call Try.func15 (by kernel_rfl) (by kernel_rfl) _) ?_
  refine (CT.out _ b3.out).mono ?_
  rintro e v4 ⟨rfl, x4⟩
  have b4 : Hid (Below w1.heap.size w1 v4) := b3.out.trans (x4.mono b3.out.size)
  refine ⟨_, rfl, b4, ?_⟩
  simp only [Act.put, List.setIfInBounds_toArray, List.set_cons_zero, List.set_cons_succ]
  refine held_call 23 42 15 #[.slice LA k lc, .int .i64 z] rfl rfl (by kernel_rfl) rfl (exec_call Try.func15 (by kernel_rfl) (by kernel_rfl) _) ?_
  refine (CT1.out _ b4.out).mono ?_
  rintro e v5 ⟨rfl, x5⟩
  have b5 : Hid (Below w1.heap.size w1 v5) := b4.out.trans (x5.mono b4.out.size)
  refine ⟨_, rfl, b5, ?_⟩
  simp only [Act.put, List.setIfInBounds_toArray, List.set_cons_zero, List.set_cons_succ]
  refine held_call 28 47 16 #[.slice (fromA LA lc k 10) (n - k) (lc - k), .int .i64 z] rfl rfl (by kernel_rfl) rfl (exec_call Try.func16 (by kernel_rfl) (by kernel_rfl) _) ?_
  refine (CT2.out _ b5.out).mono ?_
  rintro e v6 ⟨rfl, x6⟩
  have b6 : Hid (Below w1.heap.size w1 v6) := x6 ▸ b5
  refine ⟨_, rfl, b6, ?_⟩
  simp only [Act.put, List.setIfInBounds_toArray, List.set_cons_zero, List.set_cons_succ]
  refine held_take 29 48 (.int .i64 (t1 + t2)) rfl rfl (by kernel_rfl) (by kernel_rfl) (by kernel_rfl) (fun _ _ _ h => h) rfl b6 (fun w _ => exec_addI t1 t2 (t1 + t2) w rfl (by omega) (by omega)) ?_
  refine held_take 30 49 (.bool true) rfl rfl (by kernel_rfl) (by kernel_rfl) (by kernel_rfl) (fun _ _ _ h => h) rfl b6 (fun w _ => exec_eqlI0 t0 (t1 + t2) w ht) ?_
  refine held_take 31 50 (.bool true) rfl rfl (by kernel_rfl) (by kernel_rfl) (by kernel_rfl) (fun _ _ _ h => h) rfl b6 (fun w _ => exec_pickT _ w) ?_
  simp only [Act.put, List.setIfInBounds_toArray, List.set_cons_zero, List.set_cons_succ]
  refine held_take 32 51 (.bool true) rfl rfl (by kernel_rfl) (by kernel_rfl) (by kernel_rfl) (fun _ _ _ h => h) rfl b6 (fun w _ => rfl) ?_
  refine held_take 33 52 (.slice LA n lc) rfl rfl (by kernel_rfl) (by kernel_rfl) (by kernel_rfl) (fun _ _ _ h => h) rfl b6 (fun w _ => rfl) ?_
  refine held_take 34 53 (.int .i64 z) rfl rfl (by kernel_rfl) (by kernel_rfl) (by kernel_rfl) (fun _ _ _ h => h) rfl b6 (fun w _ => rfl) ?_
  simp only [Act.put, List.setIfInBounds_toArray, List.set_cons_zero, List.set_cons_succ]
  refine held_take 36 55 (.slice LA n lc) rfl rfl (by kernel_rfl) (by kernel_rfl) (by kernel_rfl) (fun _ _ _ h => h) rfl b6 (fun w _ => rfl) ?_
  refine held_take 37 56 (.int .i64 (k : Int)) rfl rfl (by kernel_rfl) (by kernel_rfl) (by kernel_rfl) (fun _ _ _ h => h) rfl b6 (fun w _ => rfl) ?_
  refine held_take 38 57 (.slice LA k lc) rfl rfl (by kernel_rfl) (by kernel_rfl) (by kernel_rfl) (fun _ _ _ h => h) rfl b6 (fun w _ => exec_sliceTo rowPty LA n lc k w hkn hcap hnil) ?_
  simp only [Act.put, List.setIfInBounds_toArray, List.set_cons_zero, List.set_cons_succ]
  refine held_take 39 58 (.int .i64 z) rfl rfl (by kernel_rfl) (by kernel_rfl) (by kernel_rfl) (fun _ _ _ h => h) rfl b6 (fun w _ => rfl) ?_
  refine held_take 41 60 (.slice LA n lc) rfl rfl (by kernel_rfl) (by kernel_rfl) (by kernel_rfl) (fun _ _ _ h => h) rfl b6 (fun w _ => rfl) ?_
  refine held_take 42 61 (.int .i64 (k : Int)) rfl rfl (by kernel_rfl) (by kernel_rfl) (by kernel_rfl) (fun _ _ _ h => h) rfl b6 (fun w _ => rfl) ?_
  simp only [Act.put, List.setIfInBounds_toArray, List.set_cons_zero, List.set_cons_succ]
  refine held_take 43 62 (.slice (fromA LA lc k 10) (n - k) (lc - k)) rfl rfl (by kernel_rfl) (by kernel_rfl) (by kernel_rfl) (fun _ _ _ h => h) rfl b6 (fun w _ => exec_sliceFrom rowPty LA n lc k w hkn hcap hnil) ?_
  refine held_take 44 63 (.int .i64 z) rfl rfl (by kernel_rfl) (by kernel_rfl) (by kernel_rfl) (fun _ _ _ h => h) rfl b6 (fun w _ => rfl) ?_
  simp only [Act.put, List.setIfInBounds_toArray, List.set_cons_zero, List.set_cons_succ]
  refine held_call 35 54 17 #[.slice LA n lc, .int .i64 z] rfl rfl (by kernel_rfl) rfl (exec_call Try.func17 (by kernel_rfl) (by kernel_rfl) _) ?_
  refine (CC.out _ b6.out).mono ?_
  rintro e v7 ⟨rfl, x7⟩
  have b7 : Hid (Below w1.heap.size w1 v7) := b6.out.trans (x7.mono b6.out.size)
  refine ⟨_, rfl, b7, ?_⟩
  simp only [Act.put, List.setIfInBounds_toArray, List.set_cons_zero, List.set_cons_succ]
  refine held_call 40 59 17 #[.slice LA k lc, .int .i64 z] rfl rfl (by kernel_rfl) rfl (exec_call Try.func17 (by kernel_rfl) (by kernel_rfl) _) ?_
  refine (CC1.out _ b7.out).mono ?_
  rintro e v8 ⟨rfl, x8⟩
  have b8 : Hid (Below w1.heap.size w1 v8) := b7.out.trans (x8.mono b7.out.size)
  refine ⟨_, rfl, b8, ?_⟩
  simp only [Act.put, List.setIfInBounds_toArray, List.set_cons_zero, List.set_cons_succ]
  refine held_call 45 64 18 #[.slice (fromA LA lc k 10) (n - k) (lc - k), .int .i64 z] rfl rfl (by kernel_rfl) rfl (exec_call Try.func18 (by kernel_rfl) (by kernel_rfl) _) ?_
  refine (CC2.out _ b8.out).mono ?_
  rintro e v9 ⟨rfl, x9⟩
  have b9 : Hid (Below w1.heap.size w1 v9) := x9 ▸ b8
  refine ⟨_, rfl, b9, ?_⟩
  simp only [Act.put, List.setIfInBounds_toArray, List.set_cons_zero, List.set_cons_succ]
  refine held_take 46 65 (.int .i64 (c1 + c2)) rfl rfl (by kernel_rfl) (by kernel_rfl) (by kernel_rfl) (fun _ _ _ h => h) rfl b9 (fun w _ => exec_addI c1 c2 (c1 + c2) w rfl (by omega) (by omega)) ?_
  refine held_take 47 66 (.bool true) rfl rfl (by kernel_rfl) (by kernel_rfl) (by kernel_rfl) (fun _ _ _ h => h) rfl b9 (fun w _ => exec_eqlI0 c0 (c1 + c2) w hc) ?_
  refine held_take 48 67 (.bool true) rfl rfl (by kernel_rfl) (by kernel_rfl) (by kernel_rfl) (fun _ _ _ h => h) rfl b9 (fun w _ => exec_pickT _ w) ?_
  simp only [Act.put, List.setIfInBounds_toArray, List.set_cons_zero, List.set_cons_succ]
  refine held_take 49 68 (.bool true) rfl rfl (by kernel_rfl) (by kernel_rfl) (by kernel_rfl) (fun _ _ _ h => h) rfl b9 (fun w _ => rfl) ?_
  refine held_take 50 69 (.slice LA n lc) rfl rfl (by kernel_rfl) (by kernel_rfl) (by kernel_rfl) (fun _ _ _ h => h) rfl b9 (fun w _ => rfl) ?_
  refine held_take 51 70 (.int .i64 z) rfl rfl (by kernel_rfl) (by kernel_rfl) (by kernel_rfl) (fun _ _ _ h => h) rfl b9 (fun w _ => rfl) ?_
  simp only [Act.put, List.setIfInBounds_toArray, List.set_cons_zero, List.set_cons_succ]
  refine held_call 52 71 14 #[.slice LA n lc, .int .i64 z] rfl rfl (by kernel_rfl) rfl (exec_call Try.func14 (by kernel_rfl) (by kernel_rfl) _) ?_
  refine (CH.out _ b9.out).mono ?_
  rintro e v10 ⟨rfl, x10⟩
  have b10 : Hid (Below w1.heap.size w1 v10) := b9.out.trans (x10.mono b9.out.size)
  refine ⟨_, rfl, b10, ?_⟩
  simp only [Act.put, List.setIfInBounds_toArray, List.set_cons_zero, List.set_cons_succ]
  refine held_take 53 72 (.bool true) rfl rfl (by kernel_rfl) (by kernel_rfl) (by kernel_rfl) (fun _ _ _ h => h) rfl b10 (fun w _ => exec_geqI h0 0 true w (decide_eq_true h0p)) ?_
  refine held_take 54 73 (.bool true) rfl rfl (by kernel_rfl) (by kernel_rfl) (by kernel_rfl) (fun _ _ _ h => h) rfl b10 (fun w _ => exec_pickT _ w) ?_
  refine held_take 55 74 (.bool true) rfl rfl (by kernel_rfl) (by kernel_rfl) (by kernel_rfl) (fun _ _ _ h => h) rfl b10 (fun w _ => rfl) ?_
  simp only [Act.put, List.setIfInBounds_toArray, List.set_cons_zero, List.set_cons_succ]
  refine held_take 56 75 (.slice LA n lc) rfl rfl (by kernel_rfl) (by kernel_rfl) (by kernel_rfl) (fun _ _ _ h => h) rfl b10 (fun w _ => rfl) ?_
  refine held_take 57 76 (.int .i64 z) rfl rfl (by kernel_rfl) (by kernel_rfl) (by kernel_rfl) (fun _ _ _ h => h) rfl b10 (fun w _ => rfl) ?_
  refine held_take 60 79 (.slice LA n lc) rfl rfl (by kernel_rfl) (by kernel_rfl) (by kernel_rfl) (fun _ _ _ h => h) rfl b10 (fun w _ => rfl) ?_
  simp only [Act.put, List.setIfInBounds_toArray, List.set_cons_zero, List.set_cons_succ]
  refine held_take 61 80 (.int .i64 z) rfl rfl (by kernel_rfl) (by kernel_rfl) (by kernel_rfl) (fun _ _ _ h => h) rfl b10 (fun w _ => rfl) ?_
  simp only [Act.put, List.setIfInBounds_toArray, List.set_cons_zero, List.set_cons_succ]
  refine held_call 58 77 19 #[.slice LA n lc, .int .i64 z] rfl rfl (by kernel_rfl) rfl (exec_call Try.func19 (by kernel_rfl) (by kernel_rfl) _) ?_
  refine (CP.out _ b10.out).mono ?_
  rintro e v11 ⟨P11, pc11, rfl, o11, x11⟩
  have b11 : Hid (Below w1.heap.size w1 v11) := b10.out.trans (x11.mono b10.out.size)
  refine ⟨_, rfl, b11, ?_⟩
  simp only [Act.put, List.setIfInBounds_toArray, List.set_cons_zero, List.set_cons_succ]
  refine held_take 59 78 (.int .i64 ((np : Nat) : Int)) rfl rfl (by kernel_rfl) (by kernel_rfl) (by kernel_rfl) (fun _ _ _ h => h) rfl b11 (fun w _ => exec_lenT rowPin _ _ _ w) ?_
  simp only [Act.put, List.setIfInBounds_toArray, List.set_cons_zero, List.set_cons_succ]
  refine held_call 62 81 20 #[.slice LA n lc, .int .i64 z] rfl rfl (by kernel_rfl) rfl (exec_call Try.func20 (by kernel_rfl) (by kernel_rfl) _) ?_
  refine (CQ.out _ b11.out).mono ?_
  rintro e v12 ⟨P12, pc12, rfl, o12, x12⟩
  have b12 : Hid (Below w1.heap.size w1 v12) := b11.out.trans (x12.mono b11.out.size)
  refine ⟨_, rfl, b12, ?_⟩
  simp only [Act.put, List.setIfInBounds_toArray, List.set_cons_zero, List.set_cons_succ]
  refine held_take 63 82 (.int .i64 ((np : Nat) : Int)) rfl rfl (by kernel_rfl) (by kernel_rfl) (by kernel_rfl) (fun _ _ _ h => h) rfl b12 (fun w _ => exec_lenT rowPin _ _ _ w) ?_
  refine held_take 64 83 (.bool true) rfl rfl (by kernel_rfl) (by kernel_rfl) (by kernel_rfl) (fun _ _ _ h => h) rfl b12 (fun w _ => exec_eqlI0 ((np : Nat) : Int) ((np : Nat) : Int) w rfl) ?_
  refine held_take 65 84 (.bool true) rfl rfl (by kernel_rfl) (by kernel_rfl) (by kernel_rfl) (fun _ _ _ h => h) rfl b12 (fun w _ => exec_pickT _ w) ?_
  simp only [Act.put, List.setIfInBounds_toArray, List.set_cons_zero, List.set_cons_succ]
  refine held_op 66 2 (.bool true) rfl rfl (by kernel_rfl) rfl rfl b12 ?_
  simp only [Act.put, List.setIfInBounds_toArray, List.set_cons_zero, List.set_cons_succ]
  refine wpAnyH_done (by kernel_rfl) ?_ _
  have RF : Hid (Below w.heap.size w v12) := HB.out.trans (b12.out.mono HB.out.size)
  go_wp2
  go_ret
  exact ⟨rfl, RF.out⟩
end Go.Proofs.Ytdjglbmcpfaofaa
