/- Marks in a row of strings. -/
import Derived.Test.YtefoegicjigpaaaStrs
namespace Go.Proofs.Ytefoegicjigpaaa
open Go.RowKit
theorem grown_of_below {a w : World} (h : Below a.heap.size a w) (row : Option Nat) : a.grownBy w row := ⟨h.os, h.tape, h.output, h.size, fun i hi _ => h.block i hi⟩

set_option maxHeartbeats 400000 in
/-- markStringS on a row of the call's own. -/
theorem markS_any (A : Option Addr) (l : List ByteArray) (k c base : Nat) (w : World) (hl : l.length ≤ 2097152) (hk : k ≤ 2097152) (hA : OwnS w base (.slice A l.length c) l) :
    Calls Try.prog 33 #[.slice A l.length c, .int .i64 k] w fun e w' => e = .returned (.int .i64 ((k + l.length : Nat) : Int)) ∧
      OwnS w' base (.slice A l.length c) (marksS k l.length) ∧ w.grownBy w' (Value.ownBlock (.slice A l.length c)) := by
  go_enter Try.func33, Try.ntmps33
  go_wp2
  go_loopw [1, 5] (fun q i wr => ∃ j : Nat, j ≤ l.length ∧ i = .int .i64 j ∧ q = .int .i64 ((k + j : Nat) : Int) ∧
      wr.ownsRow base 9 1 (.slice A l.length c) l.length (markedS l k j) ∧ w.grownBy wr (Value.ownBlock (.slice A l.length c))) (fun _ i _ => l.length - (intOf i).toNat)
  case atStart => exact ⟨0, by omega, rfl, rfl, by rw [markedS_zero]; exact hA, World.grownBy.refl _ _⟩
  case round =>
    obtain ⟨j, hj, rfl, rfl, hown, hgr⟩ := hrel
    by_cases hlt : j < l.length
    · obtain ⟨A', c', he, _, hp⟩ := OwnS.form hA
      obtain ⟨g, rfl, hg⟩ := hp (by rintro rfl; simp at hlt)
      obtain ⟨rfl, rfl⟩ : A = some ⟨g, 0, none⟩ ∧ c' = c := by injection he with h1 h2 h3; exact ⟨h1, h3.symm⟩
      have HOWN := Lib.hid hown
      have HG := Lib.hid hgr
      have HS := Lib.hid (markedS_set l k j hlt)
      have hsz : (markedS l k j).length = l.length := by simp [markedS, scells_length, marksS_length]; omega
      have HSZ := Lib.hid hsz
      generalize hq : k + j = q at *
      have HQ := Lib.hid hq
      have hql : q ≤ 4194304 := by omega
      clear hq hown hgr he hA hp hsz
      go_wp2_with fail
      refine (markText_any q _ (by omega)).mono ?_
      rintro e w1 ⟨rfl, b1⟩
      have hown1 : w1.ownsRow base 9 1 (.slice (some ⟨g, 0, none⟩) l.length c') l.length (markedS l k j) :=
        HOWN.out.kept (grown_of_below b1 none) (by simp [Value.ownBlock])
      obtain ⟨u, hu⟩ : ∃ u, w1.cell? ⟨g, j, none⟩ = some u := by
        rw [hown1.cellAt j (by omega)]; exact ⟨_, List.getElem?_eq_getElem (by rw [HSZ.out]; exact hlt)⟩
      have hfz := hown1.frozenAt j
      have HST := Lib.hid (hown1.stored j (.string (markT q)))
      have HG1 := Lib.hid (HG.out.trans (grown_of_below b1 _))
      clear hown1 b1
      generalize markT q = mk at *
      go_wp2
      go_roundw
      case rel => exact ⟨j + 1, by omega, by go_num, by have := HQ.out; go_num, by rw [← HS.out]; exact HST.out.1, HG1.out.trans HST.out.2⟩
      case measure => simp [intOf]; omega
    · obtain rfl : j = l.length := by omega
      rw [markedS_all] at hown
      go_wp2
      go_ret
      exact ⟨rfl, by unfold OwnS; rw [marksS_length]; exact hown, hgr⟩

set_option maxHeartbeats 800000 in
/-- heldStringS on a row of marks. -/
theorem heldS_any (A : Option Addr) (k n c : Nat) (w : World) (hn : n ≤ 2097152) (hk : k ≤ 2097152) (hA : Sts w w.heap.size A (marksS k n)) :
    Calls Try.prog 34 #[.slice A n c, .int .i64 k] w fun e w' => e = .returned (.int .i64 ((k + n : Nat) : Int)) ∧ Below w.heap.size w w' := by
  go_enter Try.func34, Try.ntmps34
  go_wp2
  go_loopw [1, 5] (fun q i wr => ∃ j : Nat, j ≤ n ∧ i = .int .i64 j ∧ q = .int .i64 ((k + j : Nat) : Int) ∧ Below w.heap.size w wr) (fun _ i _ => n - (intOf i).toNat)
  case atStart => exact ⟨0, by omega, rfl, rfl, Below.refl _ _⟩
  case round =>
    obtain ⟨j, hj, rfl, rfl, hb⟩ := hrel
    by_cases hlt : j < n
    · obtain ⟨b, off, rfl, hbB, hc⟩ := (hA.below hb).at_ (k := j) (by rw [marksS_length]; exact hlt)
      rw [marksS_getD k n j hlt] at hc
      generalize hq : k + j = q at *
      have HQ := Lib.hid hq
      have hql : q ≤ 4194304 := by omega
      have hbs := hb.size
      have hbl : b < wr.heap.size := by omega
      clear hq
      have CM := Lib.hid (fun w => markText_any q w (by omega))
      generalize markT q = mk at *
      go_wp2_with fail
      go_region_with (go_at_call 44; refine (CM.out _).mono ?_; rintro e w1 ⟨rfl, b1⟩; have hc1 := (b1.cell (p := ⟨b, off + j, none⟩) (by exact hbl)).trans (by exact hc))
      all_goals
        go_wp2
        go_roundw
        case rel =>
          refine ⟨j + 1, by omega, by go_num, by have := HQ.out; go_num, ?_⟩
          refine hb.drew.trans (Below.mono (B := wr.drew.heap.size) ?_ hbs)
          assumption
        case measure => simp [intOf]; omega
    · obtain rfl : j = n := by omega
      go_wp2
      go_ret
      exact ⟨rfl, hb⟩
end Go.Proofs.Ytefoegicjigpaaa
