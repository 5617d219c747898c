/- The walk of the law FnAreas. -/
import Derived.Test.YthkfbgamkffjeaaRows
import Derived.Test.YthkfbgamkffjeaaArF
namespace Go.Proofs.Ythkfbgamkffjeaa
open Go.RowKit
set_option linter.unusedSimpArgs false
set_option linter.unusedVariables false
theorem blk_call {w w' : World} {r : Nat} {o : Obj} (h : w.heap[r]? = some o) (b : Below w.heap.size w w') : w'.heap[r]? = some o := by
  rw [b.block r (Array.getElem?_eq_some_iff.1 h).1, h]
theorem blk_alloc {w : World} {r : Nat} {o : Obj} (h : w.heap[r]? = some o) (x : Obj) : (w.alloc x).heap[r]? = some o := by
  rw [Go.heap_alloc_old _ _ (Array.getElem?_eq_some_iff.1 h).1, h]
theorem blk_lt {w : World} {r : Nat} {o : Obj} (h : w.heap[r]? = some o) : r < w.heap.size := (Array.getElem?_eq_some_iff.1 h).1
theorem blk2 {w : World} {r : Nat} {u v : Value} {t : TypeId} (h : w.heap[r]? = some (.cells #[u, v] t)) : w.cell? ⟨r, 0, none⟩ = some u ∧ w.cell? ⟨r, 1, none⟩ = some v :=
  ⟨cell_of_row _ _ 0 _ _ _ h, cell_of_row _ _ 1 _ _ _ h⟩
theorem ext_left (x y : ByteArray) : (x ++ y).extract 0 x.size = x := by
  rw [← strB_strN ((x ++ y).extract 0 x.size), strN_extract]
  have e : strN (x ++ y) = strN x ++ strN y := by unfold strN; simp
  rw [e, List.drop_zero, Nat.sub_zero, ← strN_length x, List.take_left, strB_strN]
theorem ext_right (x y : ByteArray) : (x ++ y).extract x.size (x ++ y).size = y := by
  rw [← strB_strN ((x ++ y).extract x.size (x ++ y).size), strN_extract]
  have e : strN (x ++ y) = strN x ++ strN y := by unfold strN; simp
  rw [e, ← strN_length x, List.drop_left, List.take_of_length_le (by rw [strN_length, ByteArray.size_append, strN_length]; omega), strB_strN]
set_option maxRecDepth 100000 in
set_option maxHeartbeats 3200000 in
theorem FnAreas_walk (A : Option Addr) (l : List Nat) (cap : Nat) (w : World) (hA : Bts w w.heap.size A l) (hb : AllB l) (hm : l.length ≤ maxLen) :
    Calls Try.prog 3 #[.slice A l.length cap] w fun e w' => e = .returned (.bool true) ∧ Below w.heap.size w w' := by
  unfold maxLen at hm
  by_cases hbig : 1048576 < l.length
  · go_enter Try.func3, Try.ntmps3
    go_wp2_with (go_at_call 14; refine (big_yes _ _ _ _ hbig).mono ?_; rintro e w' ⟨rfl, rfl⟩)
    go_ret
    exact ⟨rfl, Below.refl _ _⟩
  have hle : l.length ≤ 1048576 := by omega
  go_enter Try.func3, Try.ntmps3
  go_wp2_with (go_at_call 14; refine (big_no _ _ _ _ hle).mono ?_; rintro e w' ⟨rfl, rfl⟩)
  refine (drawAppend_any A l cap w (by omega) hA hb).mono ?_
  rintro e w1 ⟨a, s, ⟨hg, hz, hs⟩, rfl, b1⟩
  have C1 := Lib.hid (fun w => append_impl a s w hg (by omega))
  have C2 := Lib.hid (fun w => append_spec a s w hg (by omega))
  have hl1 : (a.data.toList == a.data.toList) = true := by simp
  have hl2 : (s.toList == s.toList) = true := by simp
  have hl3 : (a.safe == a.safe) = true := by simp
  clear hA hb hbig hle hm
  by_cases hok : a.fine ∧ a.data.size + s.size ≤ 20000
  · have e1 : appA a s = (⟨a.data ++ s, a.safe⟩, true) := by unfold appA; rw [if_pos hok]
    rw [e1] at C1 C2
    obtain ⟨⟨_, hf2, hf3⟩, hfit⟩ := hok
    have hTs : (a.data ++ s).size = a.data.size + s.size := ByteArray.size_append
    have gb : (⟨a.data ++ s, a.safe⟩ : Ar).go := ⟨by show (a.data ++ s).size ≤ _; omega, hg.2⟩
    have fb : (⟨a.data ++ s, a.safe⟩ : Ar).fine := ⟨by show (a.data ++ s).size ≤ _; omega, hf2, by show a.safe ≤ ((a.data ++ s).size : Int); omega⟩
    have e2 : trimA ⟨a.data ++ s, a.safe⟩ a.data.size = (a, true) := by
      unfold trimA
      rw [if_pos ⟨fb, by omega, by show _ ≤ ((a.data ++ s).size : Int); omega⟩]
      show ((⟨(a.data ++ s).extract 0 (a.data.size : Int).toNat, min a.safe a.data.size⟩ : Ar), true) = (a, true)
      rw [Int.toNat_natCast, ext_left, show min a.safe (a.data.size : Int) = a.safe by omega]
    have e3 : syncA ⟨a.data ++ s, a.safe⟩ = ⟨a.data ++ s, ((a.data ++ s).size : Int)⟩ := by unfold syncA; rw [if_pos fb]
    have gd : (⟨a.data ++ s, ((a.data ++ s).size : Int)⟩ : Ar).go := ⟨by show (a.data ++ s).size ≤ _; omega, by show _ ≤ ((a.data ++ s).size : Int); omega, by show ((a.data ++ s).size : Int) ≤ _; omega⟩
    have e4 : shedA ⟨a.data ++ s, ((a.data ++ s).size : Int)⟩ a.data.size = (⟨s, (s.size : Int)⟩, true) := by
      unfold shedA
      rw [if_pos ⟨⟨by show (a.data ++ s).size ≤ _; omega, by show _ ≤ ((a.data ++ s).size : Int); omega, Int.le_refl _⟩, ⟨by omega, by show _ ≤ ((a.data ++ s).size : Int); omega⟩, rfl⟩]
      show ((⟨(a.data ++ s).extract (a.data.size : Int).toNat (a.data ++ s).size, ((a.data ++ s).size : Int) - a.data.size⟩ : Ar), true) = _
      rw [Int.toNat_natCast, ext_right, show ((a.data ++ s).size : Int) - a.data.size = s.size by omega]
    have C3 := Lib.hid (fun w => trim_impl ⟨a.data ++ s, a.safe⟩ a.data.size w gb)
    have C4 := Lib.hid (fun w => sync_impl ⟨a.data ++ s, a.safe⟩ w gb)
    have C5 := Lib.hid (fun w => shed_impl ⟨a.data ++ s, ((a.data ++ s).size : Int)⟩ a.data.size w gd)
    rw [e2] at C3
    rw [e3] at C4
    rw [e4] at C5
    clear e1 e2 e3 e4 gb gd fb hf2 hf3 hg
    obtain ⟨T, hT⟩ : ∃ T, a.data ++ s = T := ⟨_, rfl⟩
    simp only [hT] at C1 C2 C3 C4 C5 hTs
    have hl4 : (T.toList == T.toList) = true := by simp
    have hadd : a.data.size + s.size ≤ 9223372036854775807 := by omega
    obtain ⟨n, hn⟩ : ∃ n : Nat, T.size = n := ⟨_, rfl⟩
    simp only [abV, arA, hn] at C1 C2 C3 C4 C5 ⊢
    have ha := heap_new w1 (.cells #[.string a.data, .int .i64 a.safe] 25)
    go_wp2_with fail
    refine (C1.out _).mono ?_
    rintro e w2 ⟨rfl, b2⟩
    have ha := blk_call ha b2
    have b2 : Hid (Below w.heap.size w w2) := (Below.alloc b1 b1.size _).trans (b2.mono (by have := b1.size; simp; omega))
    have b2 := b2.out
    obtain ⟨ca0, ca1⟩ := blk2 ha
    have la := blk_lt ha
    have hb := heap_new w2 (.cells #[.string T, .int .i64 a.safe] 25)
    go_wp2_with fail
    refine (C2.out _).mono ?_
    rintro e w3 ⟨rfl, b3⟩
    have ha := blk_call (blk_alloc ha _) b3
    have hb := blk_call hb b3
    have b3 : Hid (Below w.heap.size w w3) := (Below.alloc b2 b2.size _).trans (b3.mono (by have := b2.size; simp; omega))
    have b3 := b3.out
    clear ca0 ca1 la
    obtain ⟨ca0, ca1⟩ := blk2 ha
    have la := blk_lt ha
    obtain ⟨cb0, cb1⟩ := blk2 hb
    have lb := blk_lt hb
    have hp := heap_new w3 (.cells #[.string T, .int .i64 a.safe] 25)
    go_wp2_with fail
    refine (C3.out _).mono ?_
    rintro e w4 ⟨rfl, b4⟩
    have ha := blk_call (blk_alloc ha _) b4
    have hb := blk_call (blk_alloc hb _) b4
    have hp := blk_call hp b4
    have b4 : Hid (Below w.heap.size w w4) := (Below.alloc b3 b3.size _).trans (b4.mono (by have := b3.size; simp; omega))
    have b4 := b4.out
    clear ca0 ca1 la cb0 cb1 lb
    obtain ⟨ca0, ca1⟩ := blk2 ha
    have la := blk_lt ha
    obtain ⟨cb0, cb1⟩ := blk2 hb
    have lb := blk_lt hb
    have hc := heap_new w4 (.cells #[.string a.data, .int .i64 a.safe] 25)
    go_wp2_with fail
    refine (C4.out _).mono ?_
    rintro e w5 ⟨rfl, b5⟩
    have ha := blk_call (blk_alloc ha _) b5
    have hb := blk_call (blk_alloc hb _) b5
    have hc := blk_call hc b5
    have b5 : Hid (Below w.heap.size w w5) := (Below.alloc b4 b4.size _).trans (b5.mono (by have := b4.size; simp; omega))
    have b5 := b5.out
    clear ca0 ca1 la cb0 cb1 lb
    obtain ⟨ca0, ca1⟩ := blk2 ha
    have la := blk_lt ha
    obtain ⟨cb0, cb1⟩ := blk2 hb
    have lb := blk_lt hb
    obtain ⟨cc0, cc1⟩ := blk2 hc
    have lc := blk_lt hc
    have hd := heap_new w5 (.cells #[.string T, .int .i64 (n : Int)] 25)
    go_wp2_with fail
    refine (C5.out _).mono ?_
    rintro e w6 ⟨rfl, b6⟩
    have ha := blk_call (blk_alloc ha _) b6
    have hb := blk_call (blk_alloc hb _) b6
    have hc := blk_call (blk_alloc hc _) b6
    have hd := blk_call hd b6
    have b6 : Hid (Below w.heap.size w w6) := (Below.alloc b5 b5.size _).trans (b6.mono (by have := b5.size; simp; omega))
    have b6 := b6.out
    clear ca0 ca1 la cb0 cb1 lb cc0 cc1 lc
    obtain ⟨ca0, ca1⟩ := blk2 ha
    have la := blk_lt ha
    obtain ⟨cb0, cb1⟩ := blk2 hb
    have lb := blk_lt hb
    obtain ⟨cc0, cc1⟩ := blk2 hc
    have lc := blk_lt hc
    obtain ⟨cd0, cd1⟩ := blk2 hd
    have ld := blk_lt hd
    have hl5 : ((n : Int) == (n : Int)) = true := by simp
    have hl6 : ((s.size : Int) == (s.size : Int)) = true := by simp
    clear C1 C2 C3 C4 C5 ha hb hc hd hp
    go_wp2
    go_ret
    exact ⟨rfl, b6.alloc b6.size _⟩
  · have e1 : appA a s = (a, false) := by unfold appA; rw [if_neg hok]
    rw [e1] at C1 C2
    clear e1 hok hg
    simp only [abV, arA] at C1 C2 ⊢
    have ha := heap_new w1 (.cells #[.string a.data, .int .i64 a.safe] 25)
    go_wp2_with fail
    refine (C1.out _).mono ?_
    rintro e w2 ⟨rfl, b2⟩
    have ha := blk_call ha b2
    have b2 : Hid (Below w.heap.size w w2) := (Below.alloc b1 b1.size _).trans (b2.mono (by have := b1.size; simp; omega))
    have b2 := b2.out
    obtain ⟨ca0, ca1⟩ := blk2 ha
    have la := blk_lt ha
    have hb := heap_new w2 (.cells #[.string a.data, .int .i64 a.safe] 25)
    go_wp2_with fail
    refine (C2.out _).mono ?_
    rintro e w3 ⟨rfl, b3⟩
    have ha := blk_call (blk_alloc ha _) b3
    have hb := blk_call hb b3
    have b3 : Hid (Below w.heap.size w w3) := (Below.alloc b2 b2.size _).trans (b3.mono (by have := b2.size; simp; omega))
    have b3 := b3.out
    clear ca0 ca1 la
    obtain ⟨ca0, ca1⟩ := blk2 ha
    have la := blk_lt ha
    obtain ⟨cb0, cb1⟩ := blk2 hb
    have lb := blk_lt hb
    clear C1 C2 ha hb
    go_wp2
    go_ret
    exact ⟨rfl, b3.alloc b3.size _⟩
end Go.Proofs.Ythkfbgamkffjeaa
