/- The laws' helpers over byte slices: equal rows, a copy, marks. -/
import Derived.Test.YtefoegicjigpaaaWords
import Derived.Maps.AppendAt
namespace Go.Proofs.Ytefoegicjigpaaa
open Go.RowKit
theorem info5 : (Try.prog.info? 5).map (fun i => (i.zero, i.size, i.bytes)) = some (some (.int .u8 0), 1, 1) := by kernel_rfl

set_option maxHeartbeats 400000 in
/-- eqByteS on two slices that read alike. -/
theorem eqB_same (A A' : Option Addr) (l : List Nat) (c c' B B' : Nat) (w : World) (hl : l.length ≤ 2097152) (hA : Bts w B A l) (hA' : Bts w B' A' l) :
    Calls Try.prog 24 #[.slice A l.length c, .slice A' l.length c'] w fun e w' => e = .returned (.bool true) ∧ ∃ n, w' = w.drewN n := by
  have hne : ((l.length : Int) != (l.length : Int)) = false := by simp
  go_enter Try.func24, Try.ntmps24
  go_wp2
  go_loopw [5] (fun i wr => ∃ k n : Nat, k ≤ l.length ∧ i = .int .i64 k ∧ wr = w.drewN n) (fun i _ => l.length - (intOf i).toNat)
  case atStart => exact ⟨0, 0, by omega, rfl, rfl⟩
  case round =>
    obtain ⟨k, n, hk, rfl, rfl⟩ := hrel
    by_cases hlt : k < l.length
    · obtain ⟨b, off, rfl, hbB, hc⟩ := hA.at_ hlt
      obtain ⟨b', off', rfl, hbB', hc'⟩ := hA'.at_ hlt
      generalize l.getD k 0 = v at *
      have hne2 : ((v : Int) != (v : Int)) = false := by simp
      go_wp2
      go_quiet (fail)
      go_wp2
      go_roundw
      case rel => exact ⟨k + 1, _, by omega, by go_num, rfl⟩
      case measure => simp [intOf]; omega
    · go_wp2
      go_ret
      exact ⟨rfl, n, rfl⟩

/-- A new block that holds just these bytes. -/
theorem Bts_new (w : World) (l : List Nat) : Bts (w.alloc (.cells (bcells l).toArray 5)) (w.heap.size + 1) (some ⟨w.heap.size, 0, none⟩) l := by
  refine .inr ⟨_, 0, rfl, by omega, fun k hk => ?_⟩
  rw [World.cell?_alloc_at _ _ _ _ rfl, Nat.zero_add]
  simpa using bcells_get l k hk
theorem Own_new (w : World) (base : Nat) (l : List Nat) (hb : base ≤ w.heap.size) (hl : l.length ≤ 2097152) :
    OwnB (w.alloc (.cells (bcells l).toArray 5)) base (.slice (some ⟨w.heap.size, 0, none⟩) l.length l.length) l := by
  refine ⟨by simp [bcells_length], .inr ⟨_, _, _, rfl, hb, heap_alloc_new _ _, Nat.le_refl _, by unfold maxLen; omega, by simp [bcells_length], ?_⟩⟩
  rw [Nat.mul_one, ← bcells_length l]
  exact List.take_length

/-- What a copy holds behind k rounds. -/
def halfway (l : List Nat) (k : Nat) : List Value := bcells (l.take k) ++ List.replicate (l.length - k) (.int .u8 0)
theorem halfway_zero (l : List Nat) : (madeCells #[Value.int .u8 0] l.length).toList = halfway l 0 := by
  rw [toList_madeCells_one]; simp [halfway, bcells]
theorem halfway_all (l : List Nat) : halfway l l.length = bcells l := by simp [halfway]
theorem halfway_set (l : List Nat) (k : Nat) (hk : k < l.length) : (halfway l k).set k (.int .u8 ((l.getD k 0 : Nat) : Int)) = halfway l (k + 1) := by
  unfold halfway
  have hlen : (bcells (l.take k)).length = k := by rw [bcells_length, List.length_take]; omega
  rw [List.set_append_right _ _ (by omega), hlen, Nat.sub_self, take_snoc l k 0 hk, bcells_append, List.append_assoc]
  congr 1
  obtain ⟨m, hm⟩ : ∃ m, l.length - k = m + 1 := ⟨l.length - k - 1, by omega⟩
  rw [hm, show l.length - (k + 1) = m from by omega]
  rfl

set_option maxHeartbeats 400000 in
/-- toByteS: a new block with the same bytes. -/
theorem toB_any (A : Option Addr) (l : List Nat) (c B : Nat) (w : World) (hl : l.length ≤ 2097152) (hA : Bts w B A l) (hB : B ≤ w.heap.size) :
    Calls Try.prog 28 #[.slice A l.length c] w fun e w' => e = .returned (.slice (some ⟨w.heap.size, 0, none⟩) l.length l.length) ∧ w.alloc (.cells (bcells l).toArray 5) = w' := by
  obtain ⟨i0, hi, hz0, hz1, hz2⟩ := info_parts info5
  have hmk : (Instr.makeSlice 22 (.int .i64 (l.length : Int)) (.int .i64 (l.length : Int))).run Try.prog w =
      .ok (.slice (some ⟨w.heap.size, 0, none⟩) l.length l.length) (w.alloc (.cells (halfway l 0).toArray 5)) := by
    have h := run_make (P := Try.prog) w 22 5 i0 (.int .u8 0) Try.underlying22 hi hz0 .i64 .i64 l.length l.length (by omega) (by omega) (by rw [hz2]; omega) (by omega)
    rw [h, hz1, Int.toNat_natCast, Nat.mul_one, ← halfway_zero]
    rfl
  go_enter Try.func28, Try.ntmps28
  go_wp2
  go_loopw [4] (fun i wr => ∃ k : Nat, k ≤ l.length ∧ i = .int .i64 k ∧ wr = w.alloc (.cells (halfway l k).toArray 5)) (fun i _ => l.length - (intOf i).toNat)
  case atStart => exact ⟨0, by omega, rfl, rfl⟩
  case round =>
    clear hmk
    obtain ⟨k, hk, rfl, rfl⟩ := hrel
    by_cases hlt : k < l.length
    · obtain ⟨b, off, rfl, hbB, hc⟩ := hA.at_ hlt
      have hne : ¬ b = w.heap.size := by omega
      have hltb : b < w.heap.size := by omega
      have HS := Lib.hid (halfway_set l k hlt)
      have hsz : (halfway l k).length = l.length := by simp [halfway, bcells_length]; omega
      have hsz2 : k < (halfway l k).length := by omega
      clear hsz
      generalize l.getD k 0 = v at *
      generalize halfway l k = cur at *
      go_wp2
      go_roundw
      case rel => exact ⟨k + 1, by omega, by go_num, by rw [← HS.out]⟩
      case measure => simp [intOf]; omega
    · obtain rfl : k = l.length := by omega
      rw [halfway_all]
      go_wp2
      go_ret
      exact ⟨rfl, rfl⟩

/-- n marks from k on. -/
def marks (k n : Nat) : List Nat := (List.range n).map fun i => (k + i) % 256
theorem marks_length (k n : Nat) : (marks k n).length = n := by simp [marks]
theorem marks_getD (k n i : Nat) (h : i < n) : (marks k n).getD i 0 = (k + i) % 256 := by simp [marks, h]
/-- What a row holds behind j marks. -/
def marked (l : List Nat) (k j : Nat) : List Value := bcells (marks k j) ++ (bcells l).drop j
theorem marked_zero (l : List Nat) (k : Nat) : marked l k 0 = bcells l := by simp [marked, marks, bcells]
theorem marked_all (l : List Nat) (k : Nat) : marked l k l.length = bcells (marks k l.length) := by
  unfold marked; rw [List.drop_of_length_le (by rw [bcells_length]; omega), List.append_nil]
theorem marked_set (l : List Nat) (k j : Nat) (hj : j < l.length) : (marked l k j).set j (.int .u8 (((k + j) % 256 : Nat) : Int)) = marked l k (j + 1) := by
  unfold marked
  have hlen : (bcells (marks k j)).length = j := by rw [bcells_length, marks_length]
  rw [List.set_append_right _ _ (by omega), hlen, Nat.sub_self]
  have hd : (bcells l).drop j = (bcells l)[j]'(by rw [bcells_length]; exact hj) :: (bcells l).drop (j + 1) := List.drop_eq_getElem_cons _
  rw [hd, List.set_cons_zero]
  have hm : marks k (j + 1) = marks k j ++ [(k + j) % 256] := by simp [marks, List.range_succ]
  rw [hm, bcells_append, List.append_assoc]
  rfl

set_option maxHeartbeats 400000 in
/-- heldByteS on a row of marks. -/
theorem heldB_any (A : Option Addr) (k n c B : Nat) (w : World) (hn : n ≤ 2097152) (hk : k ≤ 2097152) (hA : Bts w B A (marks k n)) :
    Calls Try.prog 26 #[.slice A n c, .int .i64 k] w fun e w' => e = .returned (.int .i64 ((k + n : Nat) : Int)) ∧ w = w' := by
  go_enter Try.func26, Try.ntmps26
  go_wp2
  go_loop [1, 5] (fun q i => ∃ j : Nat, j ≤ n ∧ i = .int .i64 j ∧ q = .int .i64 ((k + j : Nat) : Int)) (fun _ i => n - (intOf i).toNat)
  case atStart => exact ⟨0, by omega, rfl, rfl⟩
  case round =>
    obtain ⟨j, hj, rfl, rfl⟩ := hrel
    by_cases hlt : j < n
    · obtain ⟨b, off, rfl, hbB, hc⟩ := hA.at_ (k := j) (by rw [marks_length]; exact hlt)
      rw [marks_getD k n j hlt] at hc
      have hne : ((((k + j) % 256 : Nat) : Int) != (((k + j) % 256 : Nat) : Int)) = false := by simp
      generalize hq : k + j = q at *
      have HQ := Lib.hid hq
      have hql : q ≤ 4194304 := by omega
      clear hq
      go_wp2
      go_round
      case rel => exact ⟨j + 1, by omega, by go_num, by have := HQ.out; go_num⟩
      case measure => simp [intOf]; omega
    · obtain rfl : j = n := by omega
      go_wp2
      go_ret
      exact ⟨rfl, rfl⟩

theorem byte_of (q : Nat) : IntKind.u8.wrap (q : Int) = ((q % 256 : Nat) : Int) := by rw [IntKind.wrap_u8]; omega
set_option maxHeartbeats 400000 in
/-- markByteS on a row of the call's own. -/
theorem markB_any (A : Option Addr) (l : List Nat) (k c base : Nat) (w : World) (hl : l.length ≤ 2097152) (hk : k ≤ 2097152) (hA : OwnB w base (.slice A l.length c) l) :
    Calls Try.prog 25 #[.slice A l.length c, .int .i64 k] w fun e w' => e = .returned (.int .i64 ((k + l.length : Nat) : Int)) ∧
      OwnB w' base (.slice A l.length c) (marks k l.length) ∧ w.grownBy w' (Value.ownBlock (.slice A l.length c)) := by
  go_enter Try.func25, Try.ntmps25
  go_wp2
  go_loopw [1, 5] (fun q i wr => ∃ j : Nat, j ≤ l.length ∧ i = .int .i64 j ∧ q = .int .i64 ((k + j : Nat) : Int) ∧
      wr.ownsRow base 5 1 (.slice A l.length c) l.length (marked l k j) ∧ w.grownBy wr (Value.ownBlock (.slice A l.length c))) (fun _ i _ => l.length - (intOf i).toNat)
  case atStart => exact ⟨0, by omega, rfl, rfl, by rw [marked_zero]; exact hA, World.grownBy.refl _ _⟩
  case round =>
    obtain ⟨j, hj, rfl, rfl, hown, hgr⟩ := hrel
    by_cases hlt : j < l.length
    · obtain ⟨A', c', he, _, hp⟩ := OwnB.form hA
      obtain ⟨g, rfl, hg⟩ := hp (by rintro rfl; simp at hlt)
      obtain ⟨rfl, rfl⟩ : A = some ⟨g, 0, none⟩ ∧ c' = c := by injection he with h1 h2 h3; exact ⟨h1, h3.symm⟩
      have hcell := hown.cellAt j (by omega)
      have hsz : (marked l k j).length = l.length := by simp [marked, bcells_length, marks_length]; omega
      obtain ⟨u, hu⟩ : ∃ u, wr.cell? ⟨g, j, none⟩ = some u := by
        rw [hcell]; exact ⟨_, List.getElem?_eq_getElem (by omega)⟩
      have hfz := hown.frozenAt j
      have HST := Lib.hid (hown.stored j (.int .u8 (((k + j) % 256 : Nat) : Int)))
      have HS := Lib.hid (marked_set l k j hlt)
      have HG := Lib.hid hgr
      have hb := byte_of (k + j)
      generalize hq : k + j = q at *
      have HQ := Lib.hid hq
      have hql : q ≤ 4194304 := by omega
      clear hq hown hgr hcell he hA hsz hp
      have e256 : (((q % 256 : Nat) : Nat) : Int) = (q : Int) % 256 := by omega
      rw [e256] at HST HS
      clear e256 hb
      go_wp2
      go_roundw
      case rel => exact ⟨j + 1, by omega, by go_num, by have := HQ.out; go_num, by rw [← HS.out]; exact HST.out.1, HG.out.trans HST.out.2⟩
      case measure => simp [intOf]; omega
    · obtain rfl : j = l.length := by omega
      rw [marked_all] at hown
      go_wp2
      go_ret
      exact ⟨rfl, by unfold OwnB; rw [marks_length]; exact hown, hgr⟩
end Go.Proofs.Ytefoegicjigpaaa
