/- ReqBytes of the model. -/
import Derived.Test.YtohpegblbikbdaaRows
import Derived.Test.YtohpegblbikbdaaHs29
namespace Go.Proofs.Ytohpegblbikbdaa
open Go.RowKit
set_option linter.unusedSimpArgs false
set_option linter.unusedVariables false
def GotRqB (w : World) (e : Ending) (w' : World) : Prop := ∃ s : ByteArray, e = .returned (.string s) ∧ s.size ≤ 30 ∧ Below w.heap.size w w'
set_option maxRecDepth 100000 in
set_option maxHeartbeats 6400000 in
theorem reqBytes_any (q : Rq) (w : World) : Calls Try.prog 8 #[rqA q] w (GotRqB w) := by
  have CO := Lib.hid (reqOk_any q (w.alloc (.cells #[.int .i64 q.kind, .int .i64 q.id, .int .i64 q.cabin, .int .i64 q.from_, .int .i64 q.size, .int .i64 q.tier] 30)))
  unfold rqA at CO
  unfold rqA
  go_enter Try.func8, Try.ntmps8
  go_wp2_with fail
  refine CO.out.mono ?_
  rintro e w1 ⟨⟨b, rfl, hin⟩, b1⟩
  have c0 := boxk w w1 _ _ b1 0 _ rfl
  have c1 := boxk w w1 _ _ b1 1 _ rfl
  have c2 := boxk w w1 _ _ b1 2 _ rfl
  have c3 := boxk w w1 _ _ b1 3 _ rfl
  have c4 := boxk w w1 _ _ b1 4 _ rfl
  have c5 := boxk w w1 _ _ b1 5 _ rfl
  have bW := Lib.hid (boxB w w1 _ b1)
  clear b1 CO
  cases b
  · clear hin
    go_wp2
    go_ret
    exact ⟨⟨#[]⟩, rfl, Nat.zero_le _, bW.out⟩
  have hin := hin rfl
  obtain ⟨kind, id, cabin, from_, size, tier⟩ := q
  unfold RqIn at hin
  simp only at hin c0 c1 c2 c3 c4 c5
  rcases hin with ⟨rfl, h1, h2, h3, h4, h5⟩ | ⟨hk, h1⟩ | ⟨rfl, h1, h2⟩ | rfl
  · skip
    have CN := l18Nums_spec (some ⟨w1.heap.size, 0, none⟩) [1, id, cabin, from_ + 1, size, tier] 6 (w1.alloc (.cells (ints [1, id, cabin, from_ + 1, size, tier]).toArray 3)) (by simp) (by simp) (by
      intro j hj
      simp at hj
      match j, hj with
      | 0, _ | 1, _ | 2, _ | 3, _ | 4, _ | 5, _ => simp <;> omega) (by
      have := Rws.new w1 (ints [1, id, cabin, from_ + 1, size, tier]) 3
      exact this.more (by simp))
    have hsz : (strB (encL [1, id, cabin, from_ + 1, size, tier])).size ≤ 30 := by rw [strB_size]; have := (encL_len [1, id, cabin, from_ + 1, size, tier]).2; simp at this; omega
    have CN := Lib.hid CN
    generalize strB (encL [1, id, cabin, from_ + 1, size, tier]) = T at *
    go_wp2_with fail
    refine CN.out.mono ?_
    rintro e w2 ⟨rfl, b2⟩
    have bF := Lib.hid ((bW.out.alloc bW.out.size _).trans (b2.mono (by have := bW.out.size; simp; omega)))
    clear b2 CN
    go_wp2
    go_ret
    exact ⟨T, rfl, hsz, bF.out⟩
  · have e1 : (kind == 1) = false := by simp; omega
    have e3 : (kind == 3) = false := by simp; omega
    have e6 : (kind == 6) = false := by simp; omega
    have CN := l18Nums_spec (some ⟨w1.heap.size, 0, none⟩) [kind, id] 2 (w1.alloc (.cells (ints [kind, id]).toArray 3)) (by simp) (by simp) (by
      intro j hj
      simp at hj
      match j, hj with
      | 0, _ | 1, _ => simp <;> omega) (by
      have := Rws.new w1 (ints [kind, id]) 3
      exact this.more (by simp))
    have hsz : (strB (encL [kind, id])).size ≤ 30 := by rw [strB_size]; have := (encL_len [kind, id]).2; simp at this; omega
    have CN := Lib.hid CN
    generalize strB (encL [kind, id]) = T at *
    go_wp2_with fail
    refine CN.out.mono ?_
    rintro e w2 ⟨rfl, b2⟩
    have bF := Lib.hid ((bW.out.alloc bW.out.size _).trans (b2.mono (by have := bW.out.size; simp; omega)))
    clear b2 CN
    go_wp2
    go_ret
    exact ⟨T, rfl, hsz, bF.out⟩
  · skip
    have CN := l18Nums_spec (some ⟨w1.heap.size, 0, none⟩) [3, cabin, size] 3 (w1.alloc (.cells (ints [3, cabin, size]).toArray 3)) (by simp) (by simp) (by
      intro j hj
      simp at hj
      match j, hj with
      | 0, _ | 1, _ | 2, _ => simp <;> omega) (by
      have := Rws.new w1 (ints [3, cabin, size]) 3
      exact this.more (by simp))
    have hsz : (strB (encL [3, cabin, size])).size ≤ 30 := by rw [strB_size]; have := (encL_len [3, cabin, size]).2; simp at this; omega
    have CN := Lib.hid CN
    generalize strB (encL [3, cabin, size]) = T at *
    go_wp2_with fail
    refine CN.out.mono ?_
    rintro e w2 ⟨rfl, b2⟩
    have bF := Lib.hid ((bW.out.alloc bW.out.size _).trans (b2.mono (by have := bW.out.size; simp; omega)))
    clear b2 CN
    go_wp2
    go_ret
    exact ⟨T, rfl, hsz, bF.out⟩
  · skip
    have CN := l18Nums_spec (some ⟨w1.heap.size, 0, none⟩) [6] 1 (w1.alloc (.cells (ints [6]).toArray 3)) (by simp) (by simp) (by
      intro j hj
      simp at hj
      match j, hj with
      | 0, _ => simp <;> omega) (by
      have := Rws.new w1 (ints [6]) 3
      exact this.more (by simp))
    have hsz : (strB (encL [6])).size ≤ 30 := by rw [strB_size]; have := (encL_len [6]).2; simp at this; omega
    have CN := Lib.hid CN
    generalize strB (encL [6]) = T at *
    go_wp2_with fail
    refine CN.out.mono ?_
    rintro e w2 ⟨rfl, b2⟩
    have bF := Lib.hid ((bW.out.alloc bW.out.size _).trans (b2.mono (by have := bW.out.size; simp; omega)))
    clear b2 CN
    go_wp2
    go_ret
    exact ⟨T, rfl, hsz, bF.out⟩
end Go.Proofs.Ytohpegblbikbdaa
