/- The walk of the law FnAfter. -/
import Derived.Test.YtelpeoaffgafgaaRows
import Derived.Test.YtelpeoaffgafgaaAftD
namespace Go.Proofs.Ytelpeoaffgafgaa
open Go.RowKit
theorem after_head {l : List Fr} {q : Int} {x : Fr} {r : List Fr} (h : afterOf l q = x :: r) : x.seq = q + 1 := by
  induction l with
  | nil => cases h
  | cons f t ih =>
    simp only [afterOf] at h
    split at h
    · exact ih h
    · split at h
      · rename_i h2; injection h with h1 _; rw [← h1]; exact h2
      · cases h
/-- One step of the search for the frame that After took. -/
theorem after_find {fl : List Fr} {q : Int} {x : Fr} {r : List Fr} {a : Nat} (h : afterOf (fl.drop a) q = x :: r) : a < fl.length ∧ ((fl.getD a fr0 = x ∧ afterOf (fl.drop (a + 1)) x.seq = r) ∨ (fl.getD a fr0 ≠ x ∧ afterOf (fl.drop (a + 1)) q = x :: r)) := by
  have hx := after_head h
  have hlt : a < fl.length := by
    rcases Nat.lt_or_ge a fl.length with h1 | h1
    · exact h1
    · rw [List.drop_of_length_le h1] at h; cases h
  refine ⟨hlt, ?_⟩
  rw [dropF fl a hlt] at h
  simp only [afterOf] at h
  split at h
  · rename_i h1
    exact .inr ⟨fun e => by rw [e] at h1; omega, h⟩
  · split at h
    · injection h with h1 h2
      exact .inl ⟨h1, by rw [← h1]; exact h2⟩
    · cases h
theorem after_none {fl : List Fr} {q : Int} {a : Nat} (h : afterOf (fl.drop a) q = []) (ha : a < fl.length) : ((fl.getD a fr0).seq ≤ q ∧ afterOf (fl.drop (a + 1)) q = []) ∨ (q < (fl.getD a fr0).seq ∧ (fl.getD a fr0).seq ≠ q + 1) := by
  rw [dropF fl a ha] at h
  simp only [afterOf] at h
  split at h
  · rename_i h1; exact .inl ⟨h1, h⟩
  · split at h
    · cases h
    · rename_i h1 h2; exact .inr ⟨by omega, h2⟩
theorem after_wf {l : List Fr} (h : FrWf l) (q : Int) : FrWf (afterOf l q) := by
  induction l generalizing q with
  | nil => exact h
  | cons f t ih =>
    have ht : FrWf t := fun x hx => h x (List.mem_cons_of_mem _ hx)
    simp only [afterOf]
    split
    · exact ih ht q
    · split
      · intro x hx
        rcases List.mem_cons.1 hx with rfl | hx
        · exact h _ (List.mem_cons_self ..)
        · exact ih ht _ x hx
      · intro x hx; cases hx
set_option maxRecDepth 100000 in
theorem exec_lenF {ρ : Operand → Value} {o : Oper} {x : Operand} (B : Option Addr) (n c : Nat) (w : World) (ho : o.op = .call { callee := .builtin .len, args := #[x], argTypes := #[33] } := by rfl) (hx : ρ x = .slice B n c := by rfl) :
    (execOp ρ o).run Try.prog w = .ok (.value (.int .i64 (n : Int))) w := by
  unfold execOp
  rw [ho]
  simp [go_sem, hx]
set_option maxRecDepth 100000 in
theorem exec_neqF {ρ : Operand → Value} {o : Oper} {x y : Operand} (f g : Fr) (d : Bool) (w : World) (hd : d = false ↔ f = g) (ho : o.op = .binOp .neq 38 x y 38 := by rfl) (hx : ρ x = frA f := by rfl) (hy : ρ y = frA g := by rfl) :
    (execOp ρ o).run Try.prog w = .ok (.value (.bool d)) w := by
  have key : (execOp ρ o).run Try.prog w = if f.seq = g.seq then if f.body = g.body then if f.next = g.next then .ok (.value (.bool false)) w else .ok (.value (.bool true)) w else .ok (.value (.bool true)) w else .ok (.value (.bool true)) w := by
    unfold execOp
    rw [ho]
    simp [go_sem, hx, hy, frA, str_beq]
  rw [key]
  cases d with
  | false =>
    have e := hd.1 rfl
    subst e
    simp
  | true =>
    have hn : ¬ f = g := fun e => by have := hd.2 e; cases this
    by_cases h1 : f.seq = g.seq
    · by_cases h2 : f.body = g.body
      · by_cases h3 : f.next = g.next
        · exact absurd (by cases f; cases g; simp_all) hn
        · simp [h1, h2, h3]
      · simp [h1, h2]
    · simp [h1]
set_option maxRecDepth 100000 in
set_option maxHeartbeats 1600000 in
theorem FnAfter_walk (A : Option Addr) (l : List Nat) (cap : Nat) (w : World) (hA : Bts w w.heap.size A l) (hb : AllB l) (hm : l.length ≤ maxLen) :
    Calls Try.prog 4 #[.slice A l.length cap] w fun e w' => e = .returned (.bool true) ∧ Below w.heap.size w w' := by
  unfold maxLen at hm
  by_cases hbig : 1048576 < l.length
  · go_enter Try.func4, Try.ntmps4
    go_wp2_with (go_at_call 11; refine (big_yes _ _ _ _ hbig).mono ?_; rintro e w' ⟨rfl, rfl⟩)
    go_ret
    exact ⟨rfl, Below.refl _ _⟩
  have hle : l.length ≤ 1048576 := by omega
  go_enter Try.func4, Try.ntmps4
  go_wp2_with (go_at_call 11; refine (big_no _ _ _ _ hle).mono ?_; rintro e w' ⟨rfl, rfl⟩)
  refine (drawAfter_any A l cap w (by omega) hA hb).mono ?_
  rintro e w1 ⟨fl, q0, F, cf, hfl, hwf, hq0, rfl, hF, b1⟩
  go_wp2_with fail
  refine (after_impl F fl cf q0 _ hfl hF hwf hq0.1 hq0.2).mono ?_
  rintro e w2 ⟨G, cg, rfl, o2, b2⟩
  have bF : Hid (Below w.heap.size w w2) := b1.trans (b2.mono b1.size)
  have hF2 := (hF.below b2).more b2.size
  have hG2 := own_rws o2
  have hgl : (afterOf fl q0).length ≤ fl.length := afterOf_len fl q0
  obtain ⟨got, hgot⟩ : ∃ got, got = afterOf fl q0 := ⟨_, rfl⟩
  rw [← hgot] at hG2 hgl
  rw [← hgot]
  have hstart : afterOf (fl.drop 0) q0 = got.drop 0 := by rw [hgot]; rfl
  have HST := Lib.hid hstart
  have hgwf : FrWf got := by rw [hgot]; exact after_wf hwf q0
  clear hgot b1 b2 o2 hF hstart hA hb
  go_wp2
  go_loopw [4, 6, 7] (fun vq va vi wr => ∃ (q : Int) (a i n : Nat), vq = .int .i64 q ∧ va = .int .i64 a ∧ vi = .int .i64 i ∧ -9223372036854775808 ≤ q ∧ q ≤ 9223372036854775807 ∧ a ≤ fl.length ∧ i ≤ got.length ∧ afterOf (fl.drop a) q = got.drop i ∧ wr = w2.drewN n) (fun _ _ vi _ => got.length - (intOf vi).toNat)
  case atStart => exact ⟨q0, 0, 0, 0, rfl, rfl, rfl, hq0.1, hq0.2, by omega, by omega, HST.out, rfl⟩
  case round =>
    obtain ⟨q, a, i, n, rfl, rfl, rfl, hq1, hq2, ha, hi, hrel, rfl⟩ := hrel
    clear HST
    by_cases hlt : i < got.length
    · obtain ⟨b, off, rfl, hbB, c0, c1, c2⟩ := (hG2.drewN n).fr hlt
      rw [dropF got i hlt] at hrel
      have hx := after_head hrel
      have hxs := hgwf.getD hlt
      generalize got.getD i fr0 = x at *
      have n1 : (x.seq - 1 != q) = false := by simp; omega
      have n2 : decide (x.seq ≤ q) = false := by simp; omega
      have n3 : q < x.seq := by omega
      have HX := Lib.hid hx
      have HR := Lib.hid hrel
      clear hx hrel
      go_wp2
      go_loopw [6] (fun va wr => ∃ (a' m : Nat), va = .int .i64 a' ∧ afterOf (fl.drop a') q = x :: got.drop (i + 1) ∧ wr = w2.drewN m) (fun va _ => fl.length - (intOf va).toNat)
      case atStart => exact ⟨a, n, rfl, HR.out, rfl⟩
      case round =>
        obtain ⟨a', m, rfl, hrel, rfl⟩ := hrel
        clear HR
        obtain ⟨halt, hfind⟩ := after_find hrel
        obtain ⟨b', off', rfl, hbB', d0⟩ := (hF2.drewN (m + 1)).fr halt
        have e0 : (w2.drewN (m + 1)).cell? ⟨b, off + i * 3, none⟩ = some (.int .i64 x.seq) ∧ (w2.drewN (m + 1)).cell? ⟨b, off + i * 3 + 1, none⟩ = some (.string x.body) ∧ (w2.drewN (m + 1)).cell? ⟨b, off + i * 3 + 2, none⟩ = some (.int .i64 x.next) := ⟨c0, c1, c2⟩
        generalize fl.getD a' fr0 = f at *
        clear hrel
        rcases hfind with ⟨hfx, hnext⟩ | ⟨hfx, hnext⟩
        · have HN := Lib.hid hnext
          have HFX := Lib.hid hfx
          clear hnext hfx
          go_wp2
          refine wp_region_held_drew (S := fun w' => (w'.cell? ⟨b', off' + a' * 3, none⟩ = some (.int .i64 f.seq) ∧ w'.cell? ⟨b', off' + a' * 3 + 1, none⟩ = some (.string f.body) ∧ w'.cell? ⟨b', off' + a' * 3 + 2, none⟩ = some (.int .i64 f.next)) ∧ (w'.cell? ⟨b, off + i * 3, none⟩ = some (.int .i64 x.seq) ∧ w'.cell? ⟨b, off + i * 3 + 1, none⟩ = some (.string x.body) ∧ w'.cell? ⟨b, off + i * 3 + 2, none⟩ = some (.int .i64 x.next))) (by kernel_rfl) ⟨d0, e0⟩ (fun hHeld => ?_)
          refine held_take 0 46 (.int .i64 (a' : Int)) rfl rfl (by kernel_rfl) (by kernel_rfl) (by kernel_rfl) (fun _ _ _ h => h) rfl hHeld (fun w _ => rfl) ?_
          refine held_take 1 47 (.slice (some ⟨b', off', none⟩) fl.length cf) rfl rfl (by kernel_rfl) (by kernel_rfl) (by kernel_rfl) (fun _ _ _ h => h) rfl hHeld (fun w _ => rfl) ?_
          refine held_take 2 48 (.int .i64 (fl.length : Int)) rfl rfl (by kernel_rfl) (by kernel_rfl) (by kernel_rfl) (fun _ _ _ h => h) rfl hHeld (fun w _ => exec_lenF _ fl.length cf w) ?_
          simp only [Act.put, List.setIfInBounds_toArray, List.set_cons_zero, List.set_cons_succ]
          refine held_take 3 49 (.bool true) rfl rfl (by kernel_rfl) (by kernel_rfl) (by kernel_rfl) (fun _ _ _ h => h) rfl hHeld (fun w _ => exec_lssI a' fl.length true w (by simp; omega)) ?_
          refine held_take 4 50 (.bool true) rfl rfl (by kernel_rfl) (by kernel_rfl) (by kernel_rfl) (fun _ _ _ h => h) rfl hHeld (fun w _ => rfl) ?_
          refine held_take 5 51 (.slice (some ⟨b', off', none⟩) fl.length cf) rfl rfl (by kernel_rfl) (by kernel_rfl) (by kernel_rfl) (fun _ _ _ h => h) rfl hHeld (fun w _ => rfl) ?_
          simp only [Act.put, List.setIfInBounds_toArray, List.set_cons_zero, List.set_cons_succ]
          refine held_take 6 52 (.int .i64 (a' : Int)) rfl rfl (by kernel_rfl) (by kernel_rfl) (by kernel_rfl) (fun _ _ _ h => h) rfl hHeld (fun w _ => rfl) ?_
          refine held_take 7 53 (.pointer (some ⟨b', off' + a' * 3, none⟩)) rfl rfl (by kernel_rfl) (by kernel_rfl) (by kernel_rfl) (fun _ _ _ h => h) rfl hHeld (fun w _ => exec_idxFr b' off' fl.length cf a' w halt) ?_
          refine held_take 8 54 (frA f) rfl rfl (by kernel_rfl) (by kernel_rfl) (by kernel_rfl) (fun _ _ _ h => h) rfl hHeld (fun w hS => exec_loadFr b' (off' + a' * 3) f w hS.1) ?_
          simp only [Act.put, List.setIfInBounds_toArray, List.set_cons_zero, List.set_cons_succ]
          refine held_take 9 55 (.slice (some ⟨b, off, none⟩) got.length cg) rfl rfl (by kernel_rfl) (by kernel_rfl) (by kernel_rfl) (fun _ _ _ h => h) rfl hHeld (fun w _ => rfl) ?_
          refine held_take 10 56 (.int .i64 (i : Int)) rfl rfl (by kernel_rfl) (by kernel_rfl) (by kernel_rfl) (fun _ _ _ h => h) rfl hHeld (fun w _ => rfl) ?_
          refine held_take 11 57 (.pointer (some ⟨b, off + i * 3, none⟩)) rfl rfl (by kernel_rfl) (by kernel_rfl) (by kernel_rfl) (fun _ _ _ h => h) rfl hHeld (fun w _ => exec_idxFr b off got.length cg i w hlt) ?_
          simp only [Act.put, List.setIfInBounds_toArray, List.set_cons_zero, List.set_cons_succ]
          refine held_take 12 58 (frA x) rfl rfl (by kernel_rfl) (by kernel_rfl) (by kernel_rfl) (fun _ _ _ h => h) rfl hHeld (fun w hS => exec_loadFr b (off + i * 3) x w hS.2) ?_
          refine held_take 13 59 (.bool false) rfl rfl (by kernel_rfl) (by kernel_rfl) (by kernel_rfl) (fun _ _ _ h => h) rfl hHeld (fun w _ => exec_neqF f x false w ⟨fun _ => HFX.out, fun _ => rfl⟩) ?_
          refine held_take 14 60 (.bool false) rfl rfl (by kernel_rfl) (by kernel_rfl) (by kernel_rfl) (fun _ _ _ h => h) rfl hHeld (fun w _ => rfl) ?_
          simp only [Act.put, List.setIfInBounds_toArray, List.set_cons_zero, List.set_cons_succ]
          refine wpAnyH_done (by kernel_rfl) ?_ _
          clear d0 e0
          go_wp2
          go_roundw
          case rel => exact ⟨x.seq, a' + 1, i + 1, m + 1, rfl, by go_num, by go_num, hxs.1, hxs.2, by omega, by omega, HN.out, rfl⟩
          case measure => simp [intOf]; omega
        · have HN := Lib.hid hnext
          have HFX := Lib.hid hfx
          clear hnext hfx
          go_wp2
          refine wp_region_held_drew (S := fun w' => (w'.cell? ⟨b', off' + a' * 3, none⟩ = some (.int .i64 f.seq) ∧ w'.cell? ⟨b', off' + a' * 3 + 1, none⟩ = some (.string f.body) ∧ w'.cell? ⟨b', off' + a' * 3 + 2, none⟩ = some (.int .i64 f.next)) ∧ (w'.cell? ⟨b, off + i * 3, none⟩ = some (.int .i64 x.seq) ∧ w'.cell? ⟨b, off + i * 3 + 1, none⟩ = some (.string x.body) ∧ w'.cell? ⟨b, off + i * 3 + 2, none⟩ = some (.int .i64 x.next))) (by kernel_rfl) ⟨d0, e0⟩ (fun hHeld => ?_)
          refine held_take 0 46 (.int .i64 (a' : Int)) rfl rfl (by kernel_rfl) (by kernel_rfl) (by kernel_rfl) (fun _ _ _ h => h) rfl hHeld (fun w _ => rfl) ?_
          refine held_take 1 47 (.slice (some ⟨b', off', none⟩) fl.length cf) rfl rfl (by kernel_rfl) (by kernel_rfl) (by kernel_rfl) (fun _ _ _ h => h) rfl hHeld (fun w _ => rfl) ?_
          refine held_take 2 48 (.int .i64 (fl.length : Int)) rfl rfl (by kernel_rfl) (by kernel_rfl) (by kernel_rfl) (fun _ _ _ h => h) rfl hHeld (fun w _ => exec_lenF _ fl.length cf w) ?_
          simp only [Act.put, List.setIfInBounds_toArray, List.set_cons_zero, List.set_cons_succ]
          refine held_take 3 49 (.bool true) rfl rfl (by kernel_rfl) (by kernel_rfl) (by kernel_rfl) (fun _ _ _ h => h) rfl hHeld (fun w _ => exec_lssI a' fl.length true w (by simp; omega)) ?_
          refine held_take 4 50 (.bool true) rfl rfl (by kernel_rfl) (by kernel_rfl) (by kernel_rfl) (fun _ _ _ h => h) rfl hHeld (fun w _ => rfl) ?_
          refine held_take 5 51 (.slice (some ⟨b', off', none⟩) fl.length cf) rfl rfl (by kernel_rfl) (by kernel_rfl) (by kernel_rfl) (fun _ _ _ h => h) rfl hHeld (fun w _ => rfl) ?_
          simp only [Act.put, List.setIfInBounds_toArray, List.set_cons_zero, List.set_cons_succ]
          refine held_take 6 52 (.int .i64 (a' : Int)) rfl rfl (by kernel_rfl) (by kernel_rfl) (by kernel_rfl) (fun _ _ _ h => h) rfl hHeld (fun w _ => rfl) ?_
          refine held_take 7 53 (.pointer (some ⟨b', off' + a' * 3, none⟩)) rfl rfl (by kernel_rfl) (by kernel_rfl) (by kernel_rfl) (fun _ _ _ h => h) rfl hHeld (fun w _ => exec_idxFr b' off' fl.length cf a' w halt) ?_
          refine held_take 8 54 (frA f) rfl rfl (by kernel_rfl) (by kernel_rfl) (by kernel_rfl) (fun _ _ _ h => h) rfl hHeld (fun w hS => exec_loadFr b' (off' + a' * 3) f w hS.1) ?_
          simp only [Act.put, List.setIfInBounds_toArray, List.set_cons_zero, List.set_cons_succ]
          refine held_take 9 55 (.slice (some ⟨b, off, none⟩) got.length cg) rfl rfl (by kernel_rfl) (by kernel_rfl) (by kernel_rfl) (fun _ _ _ h => h) rfl hHeld (fun w _ => rfl) ?_
          refine held_take 10 56 (.int .i64 (i : Int)) rfl rfl (by kernel_rfl) (by kernel_rfl) (by kernel_rfl) (fun _ _ _ h => h) rfl hHeld (fun w _ => rfl) ?_
          refine held_take 11 57 (.pointer (some ⟨b, off + i * 3, none⟩)) rfl rfl (by kernel_rfl) (by kernel_rfl) (by kernel_rfl) (fun _ _ _ h => h) rfl hHeld (fun w _ => exec_idxFr b off got.length cg i w hlt) ?_
          simp only [Act.put, List.setIfInBounds_toArray, List.set_cons_zero, List.set_cons_succ]
          refine held_take 12 58 (frA x) rfl rfl (by kernel_rfl) (by kernel_rfl) (by kernel_rfl) (fun _ _ _ h => h) rfl hHeld (fun w hS => exec_loadFr b (off + i * 3) x w hS.2) ?_
          refine held_take 13 59 (.bool true) rfl rfl (by kernel_rfl) (by kernel_rfl) (by kernel_rfl) (fun _ _ _ h => h) rfl hHeld (fun w _ => exec_neqF f x true w ⟨(fun h => nomatch h), (fun h => absurd h HFX.out)⟩) ?_
          refine held_take 14 60 (.bool true) rfl rfl (by kernel_rfl) (by kernel_rfl) (by kernel_rfl) (fun _ _ _ h => h) rfl hHeld (fun w _ => rfl) ?_
          simp only [Act.put, List.setIfInBounds_toArray, List.set_cons_zero, List.set_cons_succ]
          refine wpAnyH_done (by kernel_rfl) ?_ _
          clear d0 e0
          go_wp2
          go_roundw
          case rel => exact ⟨a' + 1, m + 1, by go_num, HN.out, rfl⟩
          case measure => simp [intOf]; omega
    · obtain rfl : i = got.length := by omega
      rw [List.drop_length] at hrel
      have HR := Lib.hid hrel
      clear hrel
      go_wp2
      go_loopw [6] (fun va wr => ∃ a' : Nat, va = .int .i64 a' ∧ a' ≤ fl.length ∧ afterOf (fl.drop a') q = [] ∧ wr = w2.drewN n) (fun va _ => fl.length - (intOf va).toNat)
      case atStart => exact ⟨a, rfl, ha, HR.out, rfl⟩
      case round =>
        obtain ⟨a', rfl, ha', hrel, rfl⟩ := hrel
        clear HR
        by_cases halt : a' < fl.length
        · obtain ⟨b', off', rfl, hbB', d0, d1, d2⟩ := (hF2.drewN n).fr halt
          have hfw := hwf.getD halt
          rcases after_none hrel halt with ⟨h1, h2⟩ | ⟨h1, h2⟩
          · have HN := Lib.hid h2
            generalize fl.getD a' fr0 = f at *
            clear hrel h2
            go_wp2
            go_roundw
            case rel => exact ⟨a' + 1, by go_num, by omega, HN.out, by first | rfl | trivial⟩
            case measure => simp [intOf]; omega
          · generalize fl.getD a' fr0 = f at *
            have hne : (f.seq - 1 != q) = true := by simp; omega
            have hfq : decide (f.seq ≤ q) = false := by simp; omega
            clear hrel h2
            go_wp2
            go_ret
            exact ⟨rfl, below_drawn bF.out n⟩
        · obtain rfl : a' = fl.length := by omega
          clear hrel
          go_wp2
          go_ret
          exact ⟨rfl, below_drawn bF.out n⟩
end Go.Proofs.Ytelpeoaffgafgaa
