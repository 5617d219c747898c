/- Areas; copy of a string into new bytes; durable, Sync. -/
import Derived.Test.YtcapioiigfldoaaRows
import Derived.Test.YtcapioiigfldoaaL2
import Derived.Lib.BufferWrite
import Derived.Laws.CopyOwn
namespace Go.Proofs.Ytcapioiigfldoaa
open Go.RowKit
set_option linter.unusedSimpArgs false
set_option linter.unusedVariables false
/-- An area, as Go holds it. -/
structure Ar where
  data : ByteArray
  safe : Int
def arA (a : Ar) : Value := .agg #[.string a.data, .int .i64 a.safe]
/-- Its fields are values of Go. -/
def Ar.go (a : Ar) : Prop := a.data.size ≤ 9223372036854775807 ∧ -9223372036854775808 ≤ a.safe ∧ a.safe ≤ 9223372036854775807
/-- What AreaOk tells. -/
def Ar.fine (a : Ar) : Prop := a.data.size ≤ 20000 ∧ 0 ≤ a.safe ∧ a.safe ≤ a.data.size
instance (a : Ar) : Decidable a.fine := by unfold Ar.fine; infer_instance
set_option maxRecDepth 100000 in
theorem areaOk_impl (a : Ar) (w : World) (hg : a.go) : Calls Try.prog 44 #[arA a] w fun e w' => e = .returned (.bool (decide a.fine)) ∧ Below w.heap.size w w' := by
  obtain ⟨g1, g2, g3⟩ := hg
  unfold arA Ar.fine
  by_cases h1 : a.data.size ≤ 20000
  · by_cases h2 : 0 ≤ a.safe
    · by_cases h3 : a.safe ≤ a.data.size
      · go_enter Try.func44, Try.ntmps44
        go_wp2
        go_ret
        exact ⟨by simp [h1, h2, h3], (Below.refl _ _).alloc (Nat.le_refl _) _⟩
      · go_enter Try.func44, Try.ntmps44
        go_wp2
        go_ret
        exact ⟨by simp [h1, h2, h3], (Below.refl _ _).alloc (Nat.le_refl _) _⟩
    · go_enter Try.func44, Try.ntmps44
      go_wp2
      go_ret
      exact ⟨by simp; omega, (Below.refl _ _).alloc (Nat.le_refl _) _⟩
  · go_enter Try.func44, Try.ntmps44
    go_wp2
    go_ret
    exact ⟨by simp [h1], (Below.refl _ _).alloc (Nat.le_refl _) _⟩
set_option maxRecDepth 100000 in
theorem areaOk_spec (a : Ar) (w : World) (hg : a.go) : Calls Try.prog 22 #[arA a] w fun e w' => e = .returned (.bool (decide a.fine)) ∧ Below w.heap.size w w' := by
  obtain ⟨g1, g2, g3⟩ := hg
  unfold arA Ar.fine
  by_cases h1 : a.data.size ≤ 20000
  · go_enter Try.func22, Try.ntmps22
    go_wp2_with fail
    refine (l1In_any a.safe 0 a.data.size _).mono ?_
    rintro e w1 ⟨rfl, rfl⟩
    go_wp2
    go_ret
    exact ⟨by simp [h1], (Below.refl _ _).alloc (Nat.le_refl _) _⟩
  · go_enter Try.func22, Try.ntmps22
    go_wp2
    go_ret
    exact ⟨by simp [h1], (Below.refl _ _).alloc (Nat.le_refl _) _⟩
set_option maxRecDepth 100000 in
theorem szArea_any (a : Ar) (q : Int) (w : World) (hg : a.go) (hq : 0 ≤ q) (hq2 : q ≤ 1048576) :
    Calls Try.prog 23 #[arA a, .int .i64 q] w fun e w' => (∃ r : Int, e = .returned (.int .i64 r) ∧ (0 ≤ r → r = q - a.data.size)) ∧ Below w.heap.size w w' := by
  obtain ⟨g1, g2, g3⟩ := hg
  unfold arA
  by_cases h : q - a.data.size < 0
  · go_enter Try.func23, Try.ntmps23
    go_wp2
    go_ret
    exact ⟨⟨_, rfl, by omega⟩, (Below.refl _ _).alloc (Nat.le_refl _) _⟩
  · go_enter Try.func23, Try.ntmps23
    go_wp2
    go_ret
    exact ⟨⟨_, rfl, by omega⟩, (Below.refl _ _).alloc (Nat.le_refl _) _⟩
set_option maxRecDepth 100000 in
theorem toArea_any (a : Ar) (w : World) : Calls Try.prog 25 #[arA a] w fun e w' => e = .returned (arA a) ∧ Below w.heap.size w w' := by
  unfold arA
  go_enter Try.func25, Try.ntmps25
  go_wp2
  simp [bodyPost, results, Try.results25, go_sem]
  exact (((Below.refl _ _).alloc (Nat.le_refl _) _).alloc (by simp) _).alloc (by simp; omega) _
set_option maxRecDepth 100000 in
theorem eqArea_same (a : Ar) (w : World) : Calls Try.prog 26 #[arA a, arA a] w fun e w' => e = .returned (.bool true) ∧ Below w.heap.size w w' := by
  unfold arA
  have h2 : (a.safe != a.safe) = false := by simp
  have h3 : (a.data.toList == a.data.toList) = true := by simp
  go_enter Try.func26, Try.ntmps26
  go_wp2
  go_ret
  exact ⟨rfl, ((Below.refl _ _).alloc (Nat.le_refl _) _).alloc (by simp) _⟩
theorem byteCells_strN (s : ByteArray) : Go.Lib.byteCells s.data.toList = bcells (strN s) := by
  unfold Go.Lib.byteCells bcells strN
  rw [List.map_map]; rfl
set_option maxRecDepth 100000 in
theorem size5 : (Try.prog.info? 5).map (·.size) = some 1 := by kernel_rfl
set_option maxRecDepth 100000 in
/-- copy of a string into a row of bytes that it fits in. -/
theorem copyS_run (w : World) (ty g off n c : Nat) (T : ByteArray) (cur : List Value) (hg : w.heap[g]? = some (.cells cur.toArray 5 (0, 0))) (hle : T.size ≤ n) (hfit : off + T.size ≤ cur.length) (B : Nat) (w0 : World) (hb : Below B w0 w) (hBg : B ≤ g) :
    ∃ w', (Builtin.copy_ #[22, 9] ty #[.slice (some ⟨g, off, none⟩) n c, .string T]).run Try.prog w = .ok (.int .i64 (T.size : Int)) w' ∧ w'.heap[g]? = some (.cells (splice cur off (bcells (strN T))).toArray 5 (0, 0)) ∧ Below B w0 w' := by
  have hrun := Go.Lib.run_copy_row_string (P := Try.prog) w 22 9 ty 5 g off n c T cur.toArray 5 Try.underlying22 size5 hg hle (by simpa using hfit)
  rw [byteCells_strN] at hrun
  have hlen : (bcells (strN T)).length = T.size := by rw [bcells_length, strN_length]
  refine ⟨_, hrun, ?_, below_setRow hb hBg _⟩
  rw [setRow_heap w g _ _ 5 (0, 0) hg]
  simp [splice, hlen]
set_option maxRecDepth 100000 in
/-- A row of bytes made new. -/
theorem make_bytes (n : Nat) (hn : n ≤ 2097152) (w : World) : ∃ Z : List Value, Z.length = n ∧ (Instr.makeSlice 22 (.int .i64 (n : Int)) (.int .i64 (n : Int))).run Try.prog w = .ok (.slice (some ⟨w.heap.size, 0, none⟩) n n) (w.alloc (.cells Z.toArray 5)) := by
  obtain ⟨i0, hi, hz0, hz1, hz2⟩ := info_parts info5
  refine ⟨(madeCells #[Value.int .u8 0] n).toList, ?_, ?_⟩
  · rw [toList_madeCells_one]; simp
  · have h := run_make (P := Try.prog) w 22 5 i0 (.int .u8 0) Try.underlying22 hi hz0 .i64 .i64 n n (by omega) (by omega) (by rw [hz2]; omega) (by omega)
    rw [h, hz1, Int.toNat_natCast, Nat.mul_one, Array.toArray_toList]
    rfl
theorem heap_new (w : World) (o : Obj) : (w.alloc o).heap[w.heap.size]? = some o := by
  show (w.heap.push o)[w.heap.size]? = some o
  exact Array.getElem?_push_size
theorem splice_all {Z X : List Value} (h : Z.length = X.length) : splice Z 0 X = X := by simp [splice, h]
theorem splice_two {Z X Y : List Value} (h : Z.length = X.length + Y.length) : splice (splice Z 0 X) X.length Y = X ++ Y := by
  simp [splice, h]
set_option maxRecDepth 100000 in
/-- The string that a row of bytes, or a part of it, turns to. -/
theorem conv_at (w : World) (g y n c : Nat) (l : List Nat) (hg : w.heap[g]? = some (.cells (bcells l).toArray 5 (0, 0))) (hy : y + n ≤ l.length) :
    (convert 22 9 (.slice (some ⟨g, y, none⟩) n c)).run Try.prog w = .ok (.string (strB ((l.drop y).take n))) w := by
  have h := conv_part w g 0 l y n c n rfl hy (fun k hk => by
    have := bcells_get l k hk
    simp only [World.cell?, hg, Nat.zero_add]
    simpa using this)
  rwa [Nat.zero_add] at h
theorem strB_cut (s : ByteArray) (y n : Nat) : strB (((strN s).drop y).take n) = s.extract y (y + n) := by
  rw [← strB_strN (s.extract y (y + n)), strN_extract, Nat.add_sub_cancel_left]
set_option maxRecDepth 100000 in
theorem size5' : ((Try.prog.info? 5).map (·.size)).isSome = true := by kernel_rfl
theorem strB_all (s : ByteArray) : strB (((strN s).drop 0).take s.size) = s := by
  rw [List.drop_zero, List.take_of_length_le (by simp [strN_length]), strB_strN]
/-- What divided hands out: two slices that turn to the two parts. -/
def Parted (w : World) (s : ByteArray) (n : Nat) (e : Ending) (w' : World) : Prop :=
  ∃ (A B : Option Addr) (a b c d : Nat), e = .returned (.tuple #[.slice A a c, .slice B b d]) ∧ (convert 22 9 (.slice A a c)).run Try.prog w' = .ok (.string (s.extract 0 n)) w' ∧
    (convert 22 9 (.slice B b d)).run Try.prog w' = .ok (.string (s.extract n s.size)) w' ∧ Below w.heap.size w w'
set_option maxRecDepth 100000 in
theorem parted {w w' : World} {s : ByteArray} {n k : Nat} {A B : Option Addr} {a b c d : Nat} (h1 : (convert 22 9 (.slice A a c)).run Try.prog (w'.drewN k) = .ok (.string (s.extract 0 n)) (w'.drewN k))
    (h2 : (convert 22 9 (.slice B b d)).run Try.prog (w'.drewN k) = .ok (.string (s.extract n s.size)) (w'.drewN k)) (hb : Below w.heap.size w w') : Parted w s n (.returned (.tuple #[.slice A a c, .slice B b d])) (w'.drewN k) :=
  ⟨A, B, a, b, c, d, rfl, h1, h2, below_drawn hb k⟩
set_option maxRecDepth 100000 in
set_option maxHeartbeats 400000 in
theorem divided_any (s : ByteArray) (n : Nat) (w : World) (h : s.size ≤ 2097152) (hn : n ≤ s.size) : Calls Try.prog 58 #[.string s, .int .i64 (n : Int)] w (Parted w s n) := by
  obtain ⟨Z, hZ, hmk⟩ := make_bytes s.size h w
  have hs : (bcells (strN s)).length = s.size := by rw [bcells_length, strN_length]
  obtain ⟨w2, hc1, hg1, hb1⟩ := copyS_run (w.alloc (.cells Z.toArray 5)) 3 w.heap.size 0 s.size s.size s Z (heap_new _ _) (by omega) (by omega) w.heap.size w ((Below.refl _ _).alloc (Nat.le_refl _) _) (Nat.le_refl _)
  rw [splice_all (by omega)] at hg1
  have HG := Lib.hid hg1
  have HB := Lib.hid hb1
  clear hb1 hg1 hs
  have hn' : (n : Int) ≤ s.size := by omega
  by_cases he : n = s.size
  · subst he
    have E1 := strB_cut s 0 s.size
    rw [Nat.zero_add] at E1
    have E2 : strB (((strN s).drop 0).take 0) = s.extract s.size s.size := by rw [strB_cut, ByteArray.size_eq_zero_iff.1 (show (s.extract 0 (0 + 0)).size = 0 by rw [ByteArray.size_extract]; omega)]; exact (ByteArray.size_eq_zero_iff.1 (by rw [ByteArray.size_extract]; omega)).symm
    go_enter Try.func58, Try.ntmps58
    go_wp2_with fail
    go_quiet (fail)
    go_wp2
    go_ret2
    refine parted ?_ ?_ HB.out
    · rw [← E1]; exact conv_at (w2.drewN _) w.heap.size 0 _ _ _ HG.out (by rw [strN_length]; omega)
    · rw [← E2]; exact conv_at (w2.drewN _) w.heap.size 0 0 _ _ HG.out (by rw [strN_length]; omega)
  · have E1 := strB_cut s 0 n
    rw [Nat.zero_add] at E1
    have E2 := strB_cut s n (s.size - n)
    rw [Nat.add_sub_cancel' hn] at E2
    have he' : ¬ s.size - n = 0 := by omega
    go_enter Try.func58, Try.ntmps58
    go_wp2_with fail
    go_quiet (fail)
    go_wp2
    go_ret2
    refine parted ?_ ?_ HB.out
    · rw [← E1]; exact conv_at (w2.drewN _) w.heap.size 0 _ _ _ HG.out (by rw [strN_length]; omega)
    · rw [← E2]; exact conv_at (w2.drewN _) w.heap.size n _ _ _ HG.out (by rw [strN_length]; omega)
def abV (x : Ar × Bool) : Value := .tuple #[arA x.1, .bool x.2]
/-- What Append returns. -/
def appA (a : Ar) (s : ByteArray) : Ar × Bool := if a.fine ∧ a.data.size + s.size ≤ 20000 then (⟨a.data ++ s, a.safe⟩, true) else (a, false)
/-- What Sync returns. -/
def syncA (a : Ar) : Ar := if a.fine then ⟨a.data, a.data.size⟩ else a
/-- What Trim returns. -/
def trimA (a : Ar) (n : Int) : Ar × Bool := if a.fine ∧ 0 ≤ n ∧ n ≤ a.data.size then (⟨a.data.extract 0 n.toNat, min a.safe n⟩, true) else (a, false)
/-- What Shed returns. -/
def shedA (a : Ar) (n : Int) : Ar × Bool := if a.fine ∧ (0 ≤ n ∧ n ≤ a.data.size) ∧ a.safe = a.data.size then (⟨a.data.extract n.toNat a.data.size, a.data.size - n⟩, true) else (a, false)
/-- Two blocks of two cells lie as they were made. -/
theorem bx2 (w w2 : World) (v0 v1 u0 u1 : Value) (t s : TypeId) (b : Below ((w.alloc (.cells #[v0, v1] t)).alloc (.cells #[u0, u1] s)).heap.size ((w.alloc (.cells #[v0, v1] t)).alloc (.cells #[u0, u1] s)) w2) :
    (w2.cell? ⟨w.heap.size, 0, none⟩ = some v0 ∧ w2.cell? ⟨w.heap.size, 1, none⟩ = some v1 ∧ w2.cell? ⟨w.heap.size + 1, 0, none⟩ = some u0 ∧ w2.cell? ⟨w.heap.size + 1, 1, none⟩ = some u1) ∧
    (w2.frozen? ⟨w.heap.size, 0, none⟩ = false ∧ w2.frozen? ⟨w.heap.size, 1, none⟩ = false ∧ w2.frozen? ⟨w.heap.size + 1, 0, none⟩ = false ∧ w2.frozen? ⟨w.heap.size + 1, 1, none⟩ = false) ∧ Below w.heap.size w w2 :=
  ⟨⟨(b.cell (by simp; omega)).trans (by simp [go_sem]), (b.cell (by simp; omega)).trans (by simp [go_sem]), (b.cell (by simp)).trans (by simp [go_sem]), (b.cell (by simp)).trans (by simp [go_sem])⟩,
   ⟨(b.frozen (by simp; omega)).trans (by simp [go_sem]), (b.frozen (by simp; omega)).trans (by simp [go_sem]), (b.frozen (by simp)).trans (by simp [go_sem]), (b.frozen (by simp)).trans (by simp [go_sem])⟩,
   (((Below.refl _ _).alloc (Nat.le_refl _) _).alloc (by simp) _).trans (b.mono (by simp; omega))⟩
set_option maxRecDepth 100000 in
theorem durable_any (s : ByteArray) (w : World) : Calls Try.prog 59 #[.string s] w fun e w' => e = .returned (arA ⟨s, s.size⟩) ∧ Below w.heap.size w w' := by
  unfold arA
  go_enter Try.func59, Try.ntmps59
  go_wp2
  simp [bodyPost, results, Try.results59, go_sem]
  exact (Below.refl _ _).alloc (Nat.le_refl _) _
set_option maxRecDepth 100000 in
set_option maxHeartbeats 400000 in
theorem sync_impl (a : Ar) (w : World) (hg : a.go) : Calls Try.prog 47 #[arA a] w fun e w' => e = .returned (arA (syncA a)) ∧ Below w.heap.size w w' := by
  have C := Lib.hid (fun w => areaOk_impl a w hg)
  have D := Lib.hid (fun w => durable_any a.data w)
  unfold syncA
  unfold arA at *
  by_cases hf : a.fine
  · simp only [hf, if_true, decide_true] at *
    go_enter Try.func47, Try.ntmps47
    go_wp2_with fail
    refine (C.out _).mono ?_
    rintro e w2 ⟨rfl, b2⟩
    obtain ⟨⟨q0, q1, r0, r1⟩, ⟨z0, z1, y0, y1⟩, bW⟩ := bx2 w w2 _ _ _ _ _ _ b2
    go_wp2_with fail
    refine (D.out _).mono ?_
    rintro e w3 ⟨rfl, b3⟩
    have b23 := b2.trans (b3.mono b2.size)
    clear q0 q1 r0 r1 z0 z1 y0 y1 bW b2 b3
    obtain ⟨⟨q0, q1, r0, r1⟩, ⟨z0, z1, y0, y1⟩, bW⟩ := bx2 w w3 _ _ _ _ _ _ b23
    clear b23
    go_wp2
    simp [bodyPost, results, Try.results47, go_sem, q0, q1, r0, r1]
    exact ((bW.setCell (by simp) _).setCell (by simp) _)
  · simp only [hf, if_false, decide_false] at *
    go_enter Try.func47, Try.ntmps47
    go_wp2_with fail
    refine (C.out _).mono ?_
    rintro e w2 ⟨rfl, b2⟩
    obtain ⟨⟨q0, q1, r0, r1⟩, ⟨z0, z1, y0, y1⟩, bW⟩ := bx2 w w2 _ _ _ _ _ _ b2
    clear b2
    go_wp2
    simp [bodyPost, results, Try.results47, go_sem, q0, q1, r0, r1]
    exact ((bW.setCell (by simp) _).setCell (by simp) _)
end Go.Proofs.Ytcapioiigfldoaa
