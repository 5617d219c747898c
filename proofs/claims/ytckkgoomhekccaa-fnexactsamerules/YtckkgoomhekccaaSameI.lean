/- SameRules of the program. -/
import Derived.Test.YtckkgoomhekccaaRows
import Derived.Test.YtckkgoomhekccaaG6
namespace Go.Proofs.Ytckkgoomhekccaa
open Go.RowKit
set_option linter.unusedSimpArgs false
set_option linter.unusedVariables false
set_option maxRecDepth 100000 in
theorem exec_loadRl {ρ : Operand → Value} {o : Oper} {x : Operand} (b : Nat) (A : Option Addr) (c : Nat) (r : Ru) (w : World) (h : w.heap[b]? = some (.cells #[.slice A r.seats.length c, .int .i64 r.tiers, .int .i64 r.room, .int .i64 r.size, .int .i64 r.period, .int .i64 r.window, .int .i64 r.rest, .int .i64 r.tries, .int .i64 r.crew] 40 (0, 0))) (ho : o.op = .load 40 x := by rfl) (hx : ρ x = .pointer (some ⟨b, 0, none⟩) := by rfl) :
    (execOp ρ o).run Try.prog w = .ok (.value (ruV A c r)) w := by
  have c0 := cell_of_row _ _ 0 _ _ _ h
  have c1 := cell_of_row _ _ 1 _ _ _ h
  have c2 := cell_of_row _ _ 2 _ _ _ h
  have c3 := cell_of_row _ _ 3 _ _ _ h
  have c4 := cell_of_row _ _ 4 _ _ _ h
  have c5 := cell_of_row _ _ 5 _ _ _ h
  have c6 := cell_of_row _ _ 6 _ _ _ h
  have c7 := cell_of_row _ _ 7 _ _ _ h
  have c8 := cell_of_row _ _ 8 _ _ _ h
  simp at c0 c1 c2 c3 c4 c5 c6 c7 c8
  unfold execOp
  rw [ho]
  simp [go_sem, hx, c0, c1, c2, c3, c4, c5, c6, c7, c8, ruV]
set_option maxRecDepth 100000 in
theorem exec_loadRi {ρ : Operand → Value} {o : Oper} {x : Operand} (b : Nat) (A : Option Addr) (c : Nat) (r : Ru) (w : World) (h : w.heap[b]? = some (.cells #[.slice A r.seats.length c, .int .i64 r.tiers, .int .i64 r.room, .int .i64 r.size, .int .i64 r.period, .int .i64 r.window, .int .i64 r.rest, .int .i64 r.tries, .int .i64 r.crew] 43 (0, 0))) (ho : o.op = .load 43 x := by rfl) (hx : ρ x = .pointer (some ⟨b, 0, none⟩) := by rfl) :
    (execOp ρ o).run Try.prog w = .ok (.value (ruV A c r)) w := by
  have c0 := cell_of_row _ _ 0 _ _ _ h
  have c1 := cell_of_row _ _ 1 _ _ _ h
  have c2 := cell_of_row _ _ 2 _ _ _ h
  have c3 := cell_of_row _ _ 3 _ _ _ h
  have c4 := cell_of_row _ _ 4 _ _ _ h
  have c5 := cell_of_row _ _ 5 _ _ _ h
  have c6 := cell_of_row _ _ 6 _ _ _ h
  have c7 := cell_of_row _ _ 7 _ _ _ h
  have c8 := cell_of_row _ _ 8 _ _ _ h
  simp at c0 c1 c2 c3 c4 c5 c6 c7 c8
  unfold execOp
  rw [ho]
  simp [go_sem, hx, c0, c1, c2, c3, c4, c5, c6, c7, c8, ruV]
/-- All numbers of rules in their order. -/
def allR (r : Ru) : List Int := [r.tiers, r.room, r.size, r.period, r.window, r.rest, r.tries, r.crew] ++ r.seats
theorem allR_len (r : Ru) : (allR r).length = 8 + r.seats.length := by simp [allR]; omega
theorem allR_same (a b : Ru) : (allR a = allR b) ↔ sameR a b := by
  unfold allR sameR
  simp
  constructor
  · rintro ⟨h1, h2, h3, h4, h5, h6, h7, h8, h9⟩; exact ⟨h9, h1, h2, h3, h4, h5, h6, h7, h8⟩
  · rintro ⟨h9, h1, h2, h3, h4, h5, h6, h7, h8⟩; exact ⟨h1, h2, h3, h4, h5, h6, h7, h8, h9⟩
theorem own_nil {w : World} {B e sz n m c : Nat} {A : Option Addr} {cs : List Value} (h : w.ownsRow B e sz (.slice A n c) m cs) : A = none → c = 0 := by
  rcases h.2 with ⟨hv, hn⟩ | ⟨g, cap, cur, hv, _⟩
  · injection hv with h1 h2 h3; intro _; exact h3
  · injection hv with h1 h2 h3; subst h1; intro h; cases h
set_option maxRecDepth 100000 in
set_option maxHeartbeats 1600000 in
theorem numsOf_impl (A : Option Addr) (c : Nat) (r : Ru) (w : World) (hl : r.seats.length ≤ 2097152) (hc : A = none → c = 0) (hA : Rws w w.heap.size A (ints r.seats)) :
    Calls Try.prog 36 #[ruV A c r] w (NewR 3 1 w (allR r).length (ints (allR r))) := by
  obtain ⟨W, hW⟩ : ∃ W, w.alloc (.cells #[.slice A r.seats.length c, .int .i64 r.tiers, .int .i64 r.room, .int .i64 r.size, .int .i64 r.period, .int .i64 r.window, .int .i64 r.rest, .int .i64 r.tries, .int .i64 r.crew] 43) = W := ⟨_, rfl⟩
  have bW : Below w.heap.size w W := by rw [← hW]; exact (Below.refl _ _).alloc (Nat.le_refl _) _
  have hs : W.heap.size = w.heap.size + 1 := by rw [← hW]; simp
  have hown := own_ints W w.heap.size [r.tiers, r.room, r.size, r.period, r.window, r.rest, r.tries, r.crew] bW.size (by simp)
  have x2 : Below W.heap.size W (W.alloc (.cells (ints [r.tiers, r.room, r.size, r.period, r.window, r.rest, r.tries, r.crew]).toArray 3)) := (Below.refl _ _).alloc (Nat.le_refl _) _
  have hR := rws_below (rws_below hA bW) x2
  rw [hs] at hown
  rw [← hW] at hown x2 hR bW
  clear hW hs W
  unfold ruV
  go_enter Try.func36, Try.ntmps36
  go_wp2_with (at_builtin; refine wpList_appR rowInt _ rfl (.tmp 21) (.tmp 23) rfl w.heap.size _ 8 (ints [r.tiers, r.room, r.size, r.period, r.window, r.rest, r.tries, r.crew]) rfl hown _ A r.seats.length c (ints r.seats) rfl (by rw [ints_len]; omega) hR hc (ints_one r.seats) (by omega) (by simp; omega) ?_)
  intro v' w2 o2 g2
  rw [← ints_append] at o2
  have hlow := own_low hown
  have bF : Below w.heap.size w w2 := (bW.trans (x2.mono bW.size)).grown g2 (by simp; omega) hlow
  have e8 := allR_len r
  rw [← e8] at o2
  have HN : Hid (NewR 3 1 w (allR r).length (ints (allR r)) (.returned v') w2) := Lib.hid (NewR.of_own o2 bF)
  clear e8 hown hR o2 g2 hlow bF bW x2
  go_wp2
  go_ret
  exact HN.out
set_option maxRecDepth 100000 in
set_option maxHeartbeats 800000 in
theorem equal_ints (A A' : Option Addr) (l l' : List Int) (c c' : Nat) (w : World) (hl : l.length ≤ 4194304) (hl' : l'.length ≤ 9223372036854775807) (hA : Rws w w.heap.size A (ints l)) (hA' : Rws w w.heap.size A' (ints l')) :
    Calls Try.prog 35 #[.slice A l.length c, .slice A' l'.length c'] w fun e w' => e = .returned (.bool (decide (l = l'))) ∧ Below w.heap.size w w' := by
  by_cases hlen : l.length = l'.length
  rotate_left
  · have hne : ((l.length : Int) != (l'.length : Int)) = true := by simp; omega
    rw [decide_eq_false (fun h => hlen (by rw [h]))]
    go_enter Try.func35, Try.ntmps35
    go_wp2
    go_ret
    exact ⟨rfl, Below.refl _ _⟩
  have hne : ((l.length : Int) != (l'.length : Int)) = false := by simp; omega
  go_enter Try.func35, Try.ntmps35
  go_wp2
  go_loopw [13] (fun i wr => ∃ k n : Nat, k ≤ l.length ∧ i = .int .i64 k ∧ (∀ j, j < k → l.getD j 0 = l'.getD j 0) ∧ wr = w.drewN n) (fun i _ => l.length - (intOf i).toNat)
  case atStart => exact ⟨0, 0, by omega, rfl, (fun j hj => by omega), rfl⟩
  case round =>
    obtain ⟨k, n, hk, rfl, hall, rfl⟩ := hrel
    by_cases hlt : k < l.length
    · obtain ⟨b, off, rfl, hbB, hc⟩ := hA.int hlt
      obtain ⟨b', off', rfl, hbB', hc'⟩ := hA'.int (i := k) (by omega)
      by_cases hx : l.getD k 0 = l'.getD k 0
      · have hall' : ∀ j, j < k + 1 → l.getD j 0 = l'.getD j 0 := by
          intro j hj
          by_cases e : j = k
          · subst e; exact hx
          · exact hall j (by omega)
        have HA := Lib.hid hall'
        rw [← hx] at hc'
        clear hall hall' hx
        generalize l.getD k 0 = x at *
        have hx : (x != x) = false := by simp
        go_wp2_with fail
        go_quiet (fail)
        go_wp2
        go_roundw
        case rel => exact ⟨k + 1, _, by omega, by go_num, HA.out, rfl⟩
        case measure => simp [intOf]; omega
      · have HN : Hid (decide (l = l') = false) := by show _ = _; exact decide_eq_false (fun h => hx (by subst h; rfl))
        have hxb : (l.getD k 0 != l'.getD k 0) = true := by simp only [bne_iff_ne, ne_eq]; exact hx
        clear hall
        generalize l.getD k 0 = x at *
        generalize l'.getD k 0 = y at *
        go_wp2_with fail
        go_quiet (fail)
        go_wp2
        go_ret
        exact ⟨by rw [HN.out] <;> rfl, below_drawn (below_drawn (Below.refl _ _) _) _⟩
    · have HY : Hid (decide (l = l') = true) := by
        show _ = _
        refine decide_eq_true (List.ext_getElem hlen fun j h1 h2 => ?_)
        have := hall j (by omega)
        rwa [List.getD_eq_getElem?_getD, List.getElem?_eq_getElem h1, List.getD_eq_getElem?_getD, List.getElem?_eq_getElem h2] at this
      clear hall
      go_wp2
      go_ret
      exact ⟨by rw [HY.out] <;> rfl, below_drawn (Below.refl _ _) _⟩
set_option maxRecDepth 100000 in
set_option maxHeartbeats 3200000 in
theorem sameRules_impl (A D : Option Addr) (c d : Nat) (a b : Ru) (w : World) (hl : a.seats.length ≤ 2097152) (hl' : b.seats.length ≤ 2097152) (hc : A = none → c = 0) (hc' : D = none → d = 0) (hA : Rws w w.heap.size A (ints a.seats)) (hD : Rws w w.heap.size D (ints b.seats)) :
    Calls Try.prog 16 #[ruV A c a, ruV D d b] w fun e w' => e = .returned (.bool (decide (sameR a b))) ∧ Below w.heap.size w w' := by
  have HE : Hid (decide (allR a = allR b) = decide (sameR a b)) := by
    show _ = _
    have := allR_same a b
    by_cases h : sameR a b
    · rw [decide_eq_true h, decide_eq_true (this.2 h)]
    · rw [decide_eq_false h, decide_eq_false (fun x => h (this.1 x))]
  have T0 := two_at w ((w.alloc (.cells #[.slice A a.seats.length c, .int .i64 a.tiers, .int .i64 a.room, .int .i64 a.size, .int .i64 a.period, .int .i64 a.window, .int .i64 a.rest, .int .i64 a.tries, .int .i64 a.crew] 43)).alloc (.cells #[.slice D b.seats.length d, .int .i64 b.tiers, .int .i64 b.room, .int .i64 b.size, .int .i64 b.period, .int .i64 b.window, .int .i64 b.rest, .int .i64 b.tries, .int .i64 b.crew] 43)) _ _ (Below.refl _ _)
  unfold ruV
  go_enter Try.func16, Try.ntmps16
  go_wp2_with fail
  generalize ((w.alloc (.cells #[.slice A a.seats.length c, .int .i64 a.tiers, .int .i64 a.room, .int .i64 a.size, .int .i64 a.period, .int .i64 a.window, .int .i64 a.rest, .int .i64 a.tries, .int .i64 a.crew] 43)).alloc (.cells #[.slice D b.seats.length d, .int .i64 b.tiers, .int .i64 b.room, .int .i64 b.size, .int .i64 b.period, .int .i64 b.window, .int .i64 b.rest, .int .i64 b.tries, .int .i64 b.crew] 43)) = W at *
  have KA := Lib.hid (fun w' (h : Below W.heap.size W w') => blk_call T0.1 h)
  have KB := Lib.hid (fun w' (h : Below W.heap.size W w') => blk_call T0.2.1 h)
  have bW := Lib.hid T0.2.2
  have HA := Lib.hid (fun w' (h : Below W.heap.size W w') => rws_below (rws_below hA bW.out) h)
  have HD := Lib.hid (fun w' (h : Below W.heap.size W w') => rws_below (rws_below hD bW.out) h)
  clear T0
  refine wp_region_held_drew (S := fun w' => Hid (Below W.heap.size W w')) (by kernel_rfl) (below_drawn (Below.refl _ _) 1) (fun hHeld => ?_)
  refine held_take 0 5 (ruV A c a) rfl rfl (by kernel_rfl) (by kernel_rfl) (by kernel_rfl) (fun _ _ _ h => h) rfl hHeld (fun w hS => exec_loadRi _ A c a w (KA.out w hS.out)) ?_
  refine held_take 2 7 (ruV D d b) rfl rfl (by kernel_rfl) (by kernel_rfl) (by kernel_rfl) (fun _ _ _ h => h) rfl hHeld (fun w hS => exec_loadRi _ D d b w (KB.out w hS.out)) ?_
  simp only [Act.put, List.setIfInBounds_toArray, List.set_cons_zero, List.set_cons_succ]
  refine held_call 1 6 36 #[ruV A c a] rfl rfl (by kernel_rfl) rfl (exec_call Try.func36 (by kernel_rfl) (by kernel_rfl) _) ?_
  refine (numsOf_impl A c a _ hl hc (HA.out _ hHeld.out)).mono ?_
  rintro e u1 ⟨P, p, rfl, oP, x1⟩
  have k1 := hHeld.out.trans (x1.mono hHeld.out.size)
  refine ⟨_, rfl, k1, ?_⟩
  simp only [Act.put, List.setIfInBounds_toArray, List.set_cons_zero, List.set_cons_succ]
  refine held_call 3 8 36 #[ruV D d b] rfl rfl (by kernel_rfl) rfl (exec_call Try.func36 (by kernel_rfl) (by kernel_rfl) _) ?_
  refine (numsOf_impl D d b _ hl' hc' (HD.out _ k1)).mono ?_
  rintro e u2 ⟨Q, q, rfl, oQ, x2⟩
  have k2 := k1.trans (x2.mono k1.size)
  refine ⟨_, rfl, k2, ?_⟩
  simp only [Act.put, List.setIfInBounds_toArray, List.set_cons_zero, List.set_cons_succ]
  refine held_call 4 9 35 #[.slice P (allR a).length p, .slice Q (allR b).length q] rfl rfl (by kernel_rfl) rfl (exec_call Try.func35 (by kernel_rfl) (by kernel_rfl) _) ?_
  refine (equal_ints P Q (allR a) (allR b) p q _ (by rw [allR_len]; omega) (by rw [allR_len]; omega) (rws_below (own_rws oP) x2) (own_rws oQ)).mono ?_
  rintro e u3 ⟨rfl, x3⟩
  have k3 := k2.trans (x3.mono k2.size)
  refine ⟨_, rfl, k3, ?_⟩
  simp only [Act.put, List.setIfInBounds_toArray, List.set_cons_zero, List.set_cons_succ]
  refine held_op 5 4 (.bool (decide (allR a = allR b))) rfl rfl (by kernel_rfl) rfl rfl k3 ?_
  simp only [Act.put, List.setIfInBounds_toArray, List.set_cons_zero, List.set_cons_succ]
  refine wpAnyH_done (by kernel_rfl) ?_ _
  have bF := Lib.hid (bW.out.trans (k3.mono bW.out.size))
  clear k1 k2 k3 x1 x2 x3 oP oQ hHeld HA HD KA KB bW
  generalize decide (allR a = allR b) = R at HE
  go_wp2
  go_ret
  exact ⟨by rw [← HE.out] <;> rfl, bF.out⟩
end Go.Proofs.Ytckkgoomhekccaa
