/- times, hasInt of the laws; DrawFirstFit of the model. -/
import Derived.Test.YtjenpjpkgepceaaRows
import Derived.Test.YtjenpjpkgepceaaEn6
namespace Go.Proofs.Ytjenpjpkgepceaa
open Go.RowKit
set_option linter.unusedSimpArgs false
set_option linter.unusedVariables false
set_option maxRecDepth 100000 in
set_option maxHeartbeats 800000 in
theorem times_any (A : Option Addr) (l : List Int) (c : Nat) (z : Int) (w : World) (hl : l.length ≤ 2097152) (hA : Rws w w.heap.size A (ints l)) :
    Calls Try.prog 54 #[.slice A l.length c, .int .i64 z] w fun e w' => e = .returned (.int .i64 ((l.count z : Nat) : Int)) ∧ w = w' := by
  go_enter Try.func54, Try.ntmps54
  go_wp2
  go_loop [5, 6] (fun q i => ∃ (k n : Nat), k ≤ l.length ∧ i = .int .i64 k ∧ q = .int .i64 n ∧ n = (l.take k).count z ∧ n ≤ k) (fun _ i => l.length - (intOf i).toNat)
  case atStart => exact ⟨0, 0, by omega, rfl, rfl, by simp, by omega⟩
  case round =>
    obtain ⟨k, n, hk, rfl, rfl, hn, hnk⟩ := hrel
    by_cases hlt : k < l.length
    · obtain ⟨b, off, rfl, hbB, hc⟩ := hA.int hlt
      have hs : (l.take (k + 1)).count z = n + [l.getD k 0].count z := by rw [take_succ_getD l k 0 hlt, List.count_append, ← hn]
      generalize l.getD k 0 = x at *
      by_cases hx : x = z
      · have e0 : (x == z) = true := by simp [hx]
        have hs : Hid (n + 1 = (l.take (k + 1)).count z) := by show _ = _; rw [hs, hx]; simp
        clear hx hn
        go_wp2
        go_round
        case rel => exact ⟨k + 1, n + 1, by omega, by go_num, by go_num, hs.out, by omega⟩
        case measure => simp [intOf]; omega
      · have e0 : (x == z) = false := by simp [hx]
        have hs : Hid (n = (l.take (k + 1)).count z) := by show _ = _; rw [hs]; simp [List.count_cons, hx]
        clear hx hn
        go_wp2
        go_round
        case rel => exact ⟨k + 1, n, by omega, by go_num, rfl, hs.out, by omega⟩
        case measure => simp [intOf]; omega
    · obtain rfl : k = l.length := by omega
      rw [List.take_length] at hn
      have HN := Lib.hid hn
      clear hn
      go_wp2
      go_ret
      exact ⟨by rw [HN.out] <;> rfl, rfl⟩
set_option maxRecDepth 100000 in
theorem hasInt_any (A : Option Addr) (l : List Int) (c : Nat) (z : Int) (w : World) (hl : l.length ≤ 2097152) (hA : Rws w w.heap.size A (ints l)) :
    Calls Try.prog 33 #[.slice A l.length c, .int .i64 z] w fun e w' => e = .returned (.bool (decide (z ∈ l))) ∧ w = w' := by
  have C := Lib.hid (times_any A l c z w hl hA)
  have HD : Hid (decide ((0 : Int) < ((l.count z : Nat) : Int)) = decide (z ∈ l)) := by
    show _ = _
    have := @List.count_pos_iff Int _ _ z l
    by_cases h : z ∈ l
    · rw [decide_eq_true h, decide_eq_true (by have := this.2 h; omega)]
    · rw [decide_eq_false h, decide_eq_false (fun h2 => h (this.1 (by omega)))]
  generalize l.count z = n at *
  generalize decide (z ∈ l) = D at *
  have hd := HD.out
  go_enter Try.func33, Try.ntmps33
  go_wp2_with fail
  refine C.out.mono ?_
  rintro e w' ⟨rfl, rfl⟩
  clear hd
  go_wp2
  go_ret
  exact ⟨by first | rw [HD.out] | (rw [← HD.out]; simp), rfl⟩
theorem fitAt_cases (l : List En) (free : Int) (sk : List Int) : (fitAt l free sk = -1 ∧ ∀ j, j < l.length → fitP free sk (l.getD j en0) = false) ∨ ∃ k : Nat, fitAt l free sk = (k : Int) ∧ k < l.length ∧ fitP free sk (l.getD k en0) = true ∧ ∀ j, j < k → fitP free sk (l.getD j en0) = false := by
  unfold fitAt
  rcases h : l.findIdx? (fitP free sk) with _ | k
  · left
    refine ⟨rfl, fun j hj => ?_⟩
    rw [List.findIdx?_eq_none_iff] at h
    rw [List.getD_eq_getElem?_getD, List.getElem?_eq_getElem hj]
    exact h _ (List.getElem_mem hj)
  · right
    obtain ⟨hk, hp, hn⟩ := List.findIdx?_eq_some_iff_getElem.1 h
    refine ⟨k, rfl, hk, ?_, fun j hj => ?_⟩
    · rw [List.getD_eq_getElem?_getD, List.getElem?_eq_getElem hk]; exact hp
    · have := hn j hj
      rw [List.getD_eq_getElem?_getD, List.getElem?_eq_getElem (by omega)]
      simpa using this
/-- What DrawFirstFit hands out. -/
def GotFit (w : World) (e : Ending) (w' : World) : Prop :=
  ∃ (el : List En) (LA : Option Addr) (lc : Nat) (free : Int) (p : List Int) (PA : Option Addr) (pc : Nat), el.length ≤ 14 ∧ (∀ f ∈ el, f.fits) ∧ p.length ≤ 4 ∧ inI free ∧ e = .returned (.tuple #[.slice LA el.length lc, .int .i64 free, .slice PA p.length pc]) ∧ Rws w' w'.heap.size LA (el.flatMap enC) ∧ Rws w' w'.heap.size PA (ints p) ∧ Below w.heap.size w w'
set_option maxRecDepth 100000 in
set_option maxHeartbeats 1600000 in
theorem drawFirstFit_any (A : Option Addr) (l : List Nat) (c : Nat) (w : World) (hl : l.length ≤ 2097152) (hA : Bts w w.heap.size A l) (hb : AllB l) :
    Calls Try.prog 32 #[.slice A l.length c] w (GotFit w) := by
  have C0 := Lib.hid (l1New_any A l c w hl hA hb)
  unfold NewCur at C0
  go_enter Try.func32, Try.ntmps32
  go_wp2_with fail
  refine C0.out.mono ?_
  rintro e w1 ⟨rfl, hc1, b1⟩
  have lt1 := hc1.lt
  have HB1 := Lib.hid b1
  clear C0 b1
  obtain ⟨g, hg⟩ : ∃ g, w.heap.size = g := ⟨_, rfl⟩
  have HG := Lib.hid hg
  rw [hg] at hc1 lt1 ⊢
  clear hg
  go_wp2_with fail
  refine (l7Draw_any A l c g w1 hl hb hc1).mono ?_
  rintro e w2 ⟨el, v, hel1, hel, rfl, o2, hc2, gr2⟩
  obtain ⟨LA, lc, rfl, _⟩ := own_form o2
  have lt2 := hc2.lt
  have hx := ints_new w2 [0, 1, 2, 3, 4, 5, 6, 60, -1, 9223372036854775807]
  have CP := Lib.hid (l1PickInt_any A l c g [0, 1, 2, 3, 4, 5, 6, 60, -1, 9223372036854775807] w2.heap.size 10 10 _ hl hb (hc2.alloc _) rfl (by simp) (by simp) (by omega) hx)
  have o3 := World.ownsRow.alloc o2 (.cells (([0, 1, 2, 3, 4, 5, 6, 60, -1, 9223372036854775807] : List Int).map (Value.int .i64)).toArray 3)
  have g3 := gr2.trans (grown_made w2 (.cells (([0, 1, 2, 3, 4, 5, 6, 60, -1, 9223372036854775807] : List Int).map (Value.int .i64)).toArray 3) g)
  have HO := Lib.hid o3
  have HGR := Lib.hid g3
  clear hx o2 o3 gr2 g3 hc1 hc2
  go_wp2_with fail
  refine CP.out.mono ?_
  rintro e w3 ⟨free, hfr, rfl, hc3, gr3⟩
  have hfi : inI free := by simp at hfr; unfold inI; omega
  have o3 := own_cur HO.out gr3 (by omega)
  have g3 := HGR.out.trans gr3
  clear CP HO HGR gr3 hfr
  go_wp2_with fail
  refine (l7Skip_any A l c g w3 hl hb hc3).mono ?_
  rintro e w4 ⟨p, v, hp1, hp, rfl, o4, hc4, gr4⟩
  obtain ⟨PA, pc, rfl, _⟩ := own_form o4
  have o3 := own_cur o3 gr4 (by omega)
  have R : Hid (GotFit w (.returned (.tuple #[.slice LA el.length lc, .int .i64 free, .slice PA p.length pc])) w4) := ⟨el, LA, lc, free, p, PA, pc, hel1, hel, hp1, hfi, rfl, own_rws o3, own_rws o4, HB1.out.trans (below_grown (g3.trans gr4) (by have := HG.out; omega) (by have := HG.out; omega))⟩
  clear o3 o4 g3 gr4 hc3 hc4
  go_wp2
  simp [bodyPost, results, Try.results32, go_sem]
  exact R.out
end Go.Proofs.Ytjenpjpkgepceaa
