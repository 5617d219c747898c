/- A log of frames and what is read from a part of it. -/
import Derived.Test.YtohpegblbikbdaaRows
import Derived.Test.YtohpegblbikbdaaG3
namespace Go.Proofs.Ytohpegblbikbdaa
open Go.RowKit
set_option linter.unusedSimpArgs false
set_option linter.unusedVariables false
/-- The log L holds frames that end at E. -/
def Jn (L E : List Nat) : Prop := 1 ≤ E.length ∧ E.getD 0 0 = 0 ∧ E.getD (E.length - 1) 0 = L.length ∧ ∀ i, i + 1 < E.length → ∃ b r, FrOk (i + 1) b ∧ L.drop (E.getD i 0) = frameOf (i + 1) b ++ r ∧ E.getD (i + 1) 0 = E.getD i 0 + (frameOf (i + 1) b).length
theorem jn_nil : Jn [] [0] := ⟨by simp, rfl, rfl, fun i hi => by simp at hi⟩
theorem getD_app {l : List Nat} {x i : Nat} (h : i < l.length) : (l ++ [x]).getD i 0 = l.getD i 0 := by
  simp [List.getD_eq_getElem?_getD, List.getElem?_append_left h]
theorem getD_last {l : List Nat} {x : Nat} : (l ++ [x]).getD l.length 0 = x := by
  simp [List.getD_eq_getElem?_getD]
theorem Jn.mono {L E : List Nat} (h : Jn L E) {i j : Nat} (hij : i ≤ j) (hj : j < E.length) : E.getD i 0 ≤ E.getD j 0 := by
  induction j with
  | zero => have : i = 0 := by omega
            subst this; exact Nat.le_refl _
  | succ j ih =>
    rcases Nat.lt_or_ge i (j + 1) with h1 | h1
    · obtain ⟨b, r, _, _, e⟩ := h.2.2.2 j hj
      have := ih (by omega) (by omega)
      omega
    · have : i = j + 1 := by omega
      subst this; exact Nat.le_refl _
theorem Jn.le {L E : List Nat} (h : Jn L E) {i : Nat} (hi : i < E.length) : E.getD i 0 ≤ L.length := by
  have := h.mono (i := i) (j := E.length - 1) (by omega) (by omega)
  rw [h.2.2.1] at this
  exact this
theorem Jn.step {L E b : List Nat} (h : Jn L E) (ok : FrOk E.length b) : Jn (L ++ frameOf E.length b) (E ++ [(L ++ frameOf E.length b).length]) := by
  have h1 := h.1
  refine ⟨by simp, ?_, ?_, ?_⟩
  · rw [getD_app (by omega)]; exact h.2.1
  · generalize hN : (L ++ frameOf E.length b).length = N
    rw [List.length_append, List.length_singleton, Nat.add_sub_cancel, getD_last]
  · intro i hi
    rw [List.length_append, List.length_singleton] at hi
    rcases Nat.lt_or_ge (i + 1) E.length with h2 | h2
    · obtain ⟨c, r, okc, e1, e2⟩ := h.2.2.2 i h2
      refine ⟨c, r ++ frameOf E.length b, okc, ?_, ?_⟩
      · rw [getD_app (by omega), List.drop_append_of_le_length (h.le (by omega)), e1, List.append_assoc]
      · rw [getD_app h2, getD_app (by omega)]; exact e2
    · have he : i + 1 = E.length := by omega
      rw [getD_app (by omega), he, getD_last]
      have hi2 : i = E.length - 1 := by omega
      have hl := h.2.2.1
      rw [← hi2] at hl
      refine ⟨b, [], ok, ?_, ?_⟩
      · rw [hl, List.drop_left' rfl, List.append_nil]
      · rw [hl, List.length_append]
theorem Jn.seven {L E : List Nat} (h : Jn L E) (h1 : 1 < E.length) : 7 ≤ E.getD 1 0 := by
  obtain ⟨b, r, ok, _, e⟩ := h.2.2.2 0 h1
  have hl := frameOf_len ok
  have hp := encN_pos (0 + 1)
  have hb := ok.2.2.1
  rw [h.2.1, hl] at e
  have e2 : E.getD 1 0 = 0 + (5 + (encN (0 + 1)).length + b.length) := e
  omega
/-- What is read from the first bytes of a log. -/
def Read (E : List Nat) (m : Nat) (p : List Fr) : Prop := p.length = m ∧ ∀ j, j < m → (p.getD j fr0).seq = ((j : Int) + 1) ∧ (p.getD j fr0).next = (E.getD (j + 1) 0 : Nat)
theorem fAt_take {L b r : List Nat} {a cut seq : Nat} (ok : FrOk seq b) (e : L.drop a = frameOf seq b ++ r) (h1 : a + (frameOf seq b).length ≤ cut) (h2 : cut ≤ L.length) : fAt (L.take cut) (a : Int) = some (seq, b, (frameOf seq b).length) := by
  have hle := frameOf_le ok
  have hd : ((L.take cut).drop a).take 80 = frameOf seq b ++ ((r.take (cut - a - (frameOf seq b).length)).take (80 - (frameOf seq b).length)) := by
    rw [List.drop_take, e, List.take_append, List.take_of_length_le (by omega : (frameOf seq b).length ≤ cut - a), List.take_append, List.take_of_length_le (by omega : (frameOf seq b).length ≤ 80)]
  unfold fAt
  rw [if_pos (by rw [List.length_take]; omega), Int.toNat_natCast, hd]
  exact specF_complete ok _
theorem read_upto {L E : List Nat} (h : Jn L E) {cut m : Nat} (hc : cut ≤ L.length) (hm : m < E.length) (hme : E.getD m 0 ≤ cut) : ∀ i, i ≤ m → ∃ p, FrAtt (L.take cut) p (E.getD i 0) ∧ Read E i p := by
  intro i
  induction i with
  | zero => intro _; rw [h.2.1]; exact ⟨[], FrAtt.start _, rfl, fun j hj => by omega⟩
  | succ i ih =>
    intro hi
    obtain ⟨p, ha, hr⟩ := ih (by omega)
    obtain ⟨b, r, ok, e1, e2⟩ := h.2.2.2 i (by omega)
    have hmono := h.mono (i := i + 1) (j := m) hi hm
    have hf := fAt_take (cut := cut) ok e1 (by omega) hc
    have hs := ha.step hf
    rw [← e2] at hs
    refine ⟨_, hs, by rw [List.length_append, hr.1]; rfl, fun j hj => ?_⟩
    rcases Nat.lt_or_ge j i with h1 | h1
    · have e : (p ++ [(⟨((i + 1 : Nat) : Int), strB b, ((E.getD (i + 1) 0 : Nat) : Int)⟩ : Fr)]).getD j fr0 = p.getD j fr0 := by
        simp [List.getD_eq_getElem?_getD, List.getElem?_append_left (by rw [hr.1]; exact h1 : j < p.length)]
      rw [e]
      exact hr.2 j h1
    · have hj2 : j = p.length := by rw [hr.1]; omega
      have hj3 : j = i := by omega
      have e : (p ++ [(⟨((i + 1 : Nat) : Int), strB b, ((E.getD (i + 1) 0 : Nat) : Int)⟩ : Fr)]).getD j fr0 = ⟨((i + 1 : Nat) : Int), strB b, ((E.getD (i + 1) 0 : Nat) : Int)⟩ := by
        rw [hj2]; simp [List.getD_eq_getElem?_getD]
      rw [e, hj3]
      exact ⟨by simp, rfl⟩
theorem read_all {L E : List Nat} (h : Jn L E) {cut m : Nat} (hc : cut ≤ L.length) (hm : m < E.length) (hme : E.getD m 0 ≤ cut) (hn : m + 1 < E.length → cut < E.getD (m + 1) 0) : Read E m (framesOf (L.take cut)) := by
  obtain ⟨p, ha, hr⟩ := read_upto h hc hm hme m (Nat.le_refl _)
  have hf : fAt (L.take cut) ((E.getD m 0 : Nat) : Int) = none := by
    rcases hx : fAt (L.take cut) ((E.getD m 0 : Nat) : Int) with _ | ⟨seq, b, sz⟩
    · rfl
    · exfalso
      obtain ⟨ok, e, hsz, h0, hle⟩ := fAt_some hx
      rw [List.length_take] at hle
      rcases Nat.lt_or_ge (m + 1) E.length with h1 | h1
      · obtain ⟨b', r', ok', e1, e2⟩ := h.2.2.2 m h1
        have hlt := hn h1
        have e3 : L.drop (E.getD m 0) = frameOf seq b ++ (L.drop (E.getD m 0)).drop sz := by
          rw [List.drop_take, List.take_take, Nat.min_eq_left (by omega)] at e
          rw [e, List.take_append_drop]
        have s1 := specF_complete ok ((L.drop (E.getD m 0)).drop sz)
        rw [← e3, e1, specF_complete ok' r'] at s1
        injection s1 with s1
        injection s1 with _ s1
        injection s1 with _ s1
        omega
      · have hmm : m = E.length - 1 := by omega
        have := h.2.2.1
        rw [← hmm] at this
        omega
  rw [← ha.stop hf]
  exact hr
theorem whole_read {E : List Nat} {m : Nat} {T : List Nat} (h0 : E.getD 0 0 = 0) (h : Read E m (framesOf T)) : wholeOf T = (E.getD m 0 : Nat) := by
  unfold wholeOf
  rw [h.1]
  split
  · rename_i e; rw [e, h0]; rfl
  · rename_i e
    rw [(h.2 (m - 1) (by omega)).2, Nat.sub_add_cancel (by omega)]
set_option maxRecDepth 100000 in
set_option maxHeartbeats 800000 in
theorem whole_impl' (s : ByteArray) (w : World) (hs : s.size ≤ 2097152) :
    Calls Try.prog 12 #[.string s] w fun e w' => e = .returned (.int .i64 (wholeOf (strN s))) ∧ Below w.heap.size w w' := by
  have c : ∀ w, Calls Try.prog 11 #[.string s] w (NewR 38 3 w (framesOf (strN s)).length ((framesOf (strN s)).flatMap frC)) := fun w => frames_impl s w hs
  have hl := framesOf_len (strN s)
  rw [strN_length] at hl
  have HW : Hid (wholeOf (strN s) = if (framesOf (strN s)).length = 0 then 0 else ((framesOf (strN s)).getD ((framesOf (strN s)).length - 1) fr0).next) := rfl
  generalize wholeOf (strN s) = W at *
  generalize framesOf (strN s) = fs at *
  have C := Lib.hid c
  clear c
  by_cases h0 : fs.length = 0
  · have HW0 : Hid (W = 0) := by show W = 0; rw [HW.out, if_pos h0]
    rw [h0] at C
    clear h0 HW
    go_enter Try.func12, Try.ntmps12
    go_wp2_with fail
    refine (C.out _).mono ?_
    rintro e w1 ⟨A1, a1, rfl, o1, b1⟩
    go_wp2
    go_ret
    exact ⟨ret_int HW0.out.symm, b1⟩
  · obtain ⟨m, hm⟩ : ∃ m, fs.length = m + 1 := ⟨fs.length - 1, by omega⟩
    have HW0 : Hid (W = (fs.getD m fr0).next) := by show W = _; rw [HW.out, if_neg h0, hm]; rfl
    rw [hm] at C hl
    have HM := Lib.hid hm
    clear h0 HW hm
    have hn0 : (((m : Int) + 1) == 0) = false := by simp; omega
    go_enter Try.func12, Try.ntmps12
    go_wp2_with fail
    refine (C.out _).mono ?_
    rintro e w1 ⟨A1, a1, rfl, o1, b1⟩
    obtain ⟨b, off, rfl, hbB, c0, c1, c2⟩ := (own_rws o1).fr (i := m) (by rw [HM.out]; omega)
    generalize fs.getD m fr0 = x at *
    go_wp2
    go_ret
    exact ⟨ret_int HW0.out.symm, b1⟩
set_option maxRecDepth 100000 in
theorem torn_impl' (s : ByteArray) (w : World) (hs : s.size ≤ 2097152) : Calls Try.prog 13 #[.string s] w fun e w' => e = .returned (.bool (decide (wholeOf (strN s) < s.size))) ∧ Below w.heap.size w w' := by
  have C := Lib.hid (fun w => whole_impl' s w hs)
  generalize wholeOf (strN s) = W at *
  go_enter Try.func13, Try.ntmps13
  go_wp2_with fail
  refine (C.out _).mono ?_
  rintro e w1 ⟨rfl, b1⟩
  go_wp2
  go_ret
  exact ⟨rfl, b1⟩
end Go.Proofs.Ytohpegblbikbdaa
