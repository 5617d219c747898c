/- Texts laid together: Ar, ArT, ArS, St, StL, ArW, PutS, ArD, ArE, ArF, AreasW, SlotsW. -/
import Derived.Test.YtlflgflmlfileaaGreatRows
import Derived.Test.YtlflgflmlfileaaGreatG3
import Derived.Lib.BufferWrite
import Derived.Laws.CopyOwn
import Derived.Deep.DeepCutAuto
namespace Go.Proofs.YtlflgflmlfileaaGreat
open Go.RowKit
set_option linter.unusedSimpArgs false
set_option linter.unusedVariables false
/-- An area, as Go holds it. -/
structure Ar where
  data : ByteArray
  safe : Int
def arA (a : Ar) : Value := .agg #[.string a.data, .int .i64 a.safe]
/-- Its fields are values of Go. -/
def Ar.go (a : Ar) : Prop := a.data.size ≤ 9223372036854775807 ∧ -9223372036854775808 ≤ a.safe ∧ a.safe ≤ 9223372036854775807
/-- What AreaOk tells. -/
def Ar.fine (a : Ar) : Prop := a.data.size ≤ 20000 ∧ 0 ≤ a.safe ∧ a.safe ≤ a.data.size
instance (a : Ar) : Decidable a.fine := by unfold Ar.fine; infer_instance
theorem byteCells_strN (s : ByteArray) : Go.Lib.byteCells s.data.toList = bcells (strN s) := by
  unfold Go.Lib.byteCells bcells strN
  rw [List.map_map]; rfl
set_option maxRecDepth 100000 in
theorem size5 : (Tryz.prog.info? 5).map (·.size) = some 1 := by kernel_rfl
set_option maxRecDepth 100000 in
/-- copy of a string into a row of bytes that it fits in. -/
theorem copyS_run (w : World) (ty g off n c : Nat) (T : ByteArray) (cur : List Value) (hg : w.heap[g]? = some (.cells cur.toArray 5 (0, 0))) (hle : T.size ≤ n) (hfit : off + T.size ≤ cur.length) (B : Nat) (w0 : World) (hb : Below B w0 w) (hBg : B ≤ g) :
    ∃ w', (Builtin.copy_ #[22, 9] ty #[.slice (some ⟨g, off, none⟩) n c, .string T]).run Tryz.prog w = .ok (.int .i64 (T.size : Int)) w' ∧ w'.heap[g]? = some (.cells (splice cur off (bcells (strN T))).toArray 5 (0, 0)) ∧ Below B w0 w' := by
  have hrun := Go.Lib.run_copy_row_string (P := Tryz.prog) w 22 9 ty 5 g off n c T cur.toArray 5 Tryz.underlying22 size5 hg hle (by simpa using hfit)
  rw [byteCells_strN] at hrun
  have hlen : (bcells (strN T)).length = T.size := by rw [bcells_length, strN_length]
  refine ⟨_, hrun, ?_, below_setRow hb hBg _⟩
  rw [setRow_heap w g _ _ 5 (0, 0) hg]
  simp [splice, hlen]
set_option maxRecDepth 100000 in
/-- A row of bytes made new. -/
theorem make_bytes (n : Nat) (hn : n ≤ 2097152) (w : World) : ∃ Z : List Value, Z.length = n ∧ (Instr.makeSlice 22 (.int .i64 (n : Int)) (.int .i64 (n : Int))).run Tryz.prog w = .ok (.slice (some ⟨w.heap.size, 0, none⟩) n n) (w.alloc (.cells Z.toArray 5)) := by
  obtain ⟨i0, hi, hz0, hz1, hz2⟩ := info_parts info5
  refine ⟨(madeCells #[Value.int .u8 0] n).toList, ?_, ?_⟩
  · rw [toList_madeCells_one]; simp
  · have h := run_make (P := Tryz.prog) w 22 5 i0 (.int .u8 0) Tryz.underlying22 hi hz0 .i64 .i64 n n (by omega) (by omega) (by rw [hz2]; omega) (by omega)
    rw [h, hz1, Int.toNat_natCast, Nat.mul_one, Array.toArray_toList]
    rfl
theorem heap_new (w : World) (o : Obj) : (w.alloc o).heap[w.heap.size]? = some o := by
  show (w.heap.push o)[w.heap.size]? = some o
  exact Array.getElem?_push_size
theorem splice_all {Z X : List Value} (h : Z.length = X.length) : splice Z 0 X = X := by simp [splice, h]
theorem splice_two {Z X Y : List Value} (h : Z.length = X.length + Y.length) : splice (splice Z 0 X) X.length Y = X ++ Y := by
  simp [splice, h]
set_option maxRecDepth 100000 in
/-- The string that a row of bytes, or a part of it, turns to. -/
theorem conv_at (w : World) (g y n c : Nat) (l : List Nat) (hg : w.heap[g]? = some (.cells (bcells l).toArray 5 (0, 0))) (hy : y + n ≤ l.length) :
    (convert 22 9 (.slice (some ⟨g, y, none⟩) n c)).run Tryz.prog w = .ok (.string (strB ((l.drop y).take n))) w := by
  have h := conv_part w g 0 l y n c n rfl hy (fun k hk => by
    have := bcells_get l k hk
    simp only [World.cell?, hg, Nat.zero_add]
    simpa using this)
  rwa [Nat.zero_add] at h
theorem strB_cut (s : ByteArray) (y n : Nat) : strB (((strN s).drop y).take n) = s.extract y (y + n) := by
  rw [← strB_strN (s.extract y (y + n)), strN_extract, Nat.add_sub_cancel_left]
set_option maxRecDepth 100000 in
theorem size5' : ((Tryz.prog.info? 5).map (·.size)).isSome = true := by kernel_rfl
theorem strB_all (s : ByteArray) : strB (((strN s).drop 0).take s.size) = s := by
  rw [List.drop_zero, List.take_of_length_le (by simp [strN_length]), strB_strN]
/-- What divided hands out: two slices that turn to the two parts. -/
def Parted (w : World) (s : ByteArray) (n : Nat) (e : Ending) (w' : World) : Prop :=
  ∃ (A B : Option Addr) (a b c d : Nat), e = .returned (.tuple #[.slice A a c, .slice B b d]) ∧ (convert 22 9 (.slice A a c)).run Tryz.prog w' = .ok (.string (s.extract 0 n)) w' ∧
    (convert 22 9 (.slice B b d)).run Tryz.prog w' = .ok (.string (s.extract n s.size)) w' ∧ Below w.heap.size w w'
set_option maxRecDepth 100000 in
theorem parted {w w' : World} {s : ByteArray} {n k : Nat} {A B : Option Addr} {a b c d : Nat} (h1 : (convert 22 9 (.slice A a c)).run Tryz.prog (w'.drewN k) = .ok (.string (s.extract 0 n)) (w'.drewN k))
    (h2 : (convert 22 9 (.slice B b d)).run Tryz.prog (w'.drewN k) = .ok (.string (s.extract n s.size)) (w'.drewN k)) (hb : Below w.heap.size w w') : Parted w s n (.returned (.tuple #[.slice A a c, .slice B b d])) (w'.drewN k) :=
  ⟨A, B, a, b, c, d, rfl, h1, h2, below_drawn hb k⟩
def abV (x : Ar × Bool) : Value := .tuple #[arA x.1, .bool x.2]
/-- What Append returns. -/
def appA (a : Ar) (s : ByteArray) : Ar × Bool := if a.fine ∧ a.data.size + s.size ≤ 20000 then (⟨a.data ++ s, a.safe⟩, true) else (a, false)
/-- What Sync returns. -/
def syncA (a : Ar) : Ar := if a.fine then ⟨a.data, a.data.size⟩ else a
/-- What Trim returns. -/
def trimA (a : Ar) (n : Int) : Ar × Bool := if a.fine ∧ 0 ≤ n ∧ n ≤ a.data.size then (⟨a.data.extract 0 n.toNat, min a.safe n⟩, true) else (a, false)
/-- What Shed returns. -/
def shedA (a : Ar) (n : Int) : Ar × Bool := if a.fine ∧ (0 ≤ n ∧ n ≤ a.data.size) ∧ a.safe = a.data.size then (⟨a.data.extract n.toNat a.data.size, a.data.size - n⟩, true) else (a, false)
/-- Two blocks of two cells lie as they were made. -/
theorem bx2 (w w2 : World) (v0 v1 u0 u1 : Value) (t s : TypeId) (b : Below ((w.alloc (.cells #[v0, v1] t)).alloc (.cells #[u0, u1] s)).heap.size ((w.alloc (.cells #[v0, v1] t)).alloc (.cells #[u0, u1] s)) w2) :
    (w2.cell? ⟨w.heap.size, 0, none⟩ = some v0 ∧ w2.cell? ⟨w.heap.size, 1, none⟩ = some v1 ∧ w2.cell? ⟨w.heap.size + 1, 0, none⟩ = some u0 ∧ w2.cell? ⟨w.heap.size + 1, 1, none⟩ = some u1) ∧
    (w2.frozen? ⟨w.heap.size, 0, none⟩ = false ∧ w2.frozen? ⟨w.heap.size, 1, none⟩ = false ∧ w2.frozen? ⟨w.heap.size + 1, 0, none⟩ = false ∧ w2.frozen? ⟨w.heap.size + 1, 1, none⟩ = false) ∧ Below w.heap.size w w2 :=
  ⟨⟨(b.cell (by simp; omega)).trans (by simp [go_sem]), (b.cell (by simp; omega)).trans (by simp [go_sem]), (b.cell (by simp)).trans (by simp [go_sem]), (b.cell (by simp)).trans (by simp [go_sem])⟩,
   ⟨(b.frozen (by simp; omega)).trans (by simp [go_sem]), (b.frozen (by simp; omega)).trans (by simp [go_sem]), (b.frozen (by simp)).trans (by simp [go_sem]), (b.frozen (by simp)).trans (by simp [go_sem])⟩,
   (((Below.refl _ _).alloc (Nat.le_refl _) _).alloc (by simp) _).trans (b.mono (by simp; omega))⟩
theorem far2 {w : World} {b c : Nat} {u v : Value} {p q : Option Value} (h : b ≠ c) (h0 : w.cell? ⟨b, 0, none⟩ = p) (h1 : w.cell? ⟨b, 1, none⟩ = q) :
    Hid (((w.setCell ⟨c, 0, none⟩ u).setCell ⟨c, 1, none⟩ v).cell? ⟨b, 0, none⟩ = p ∧ ((w.setCell ⟨c, 0, none⟩ u).setCell ⟨c, 1, none⟩ v).cell? ⟨b, 1, none⟩ = q) := by
  refine ⟨?_, ?_⟩
  · rw [World.cell?_setCell_other _ _ _ _ (by simp <;> omega), World.cell?_setCell_other _ _ _ _ (by simp <;> omega), h0]
  · rw [World.cell?_setCell_other _ _ _ _ (by simp <;> omega), World.cell?_setCell_other _ _ _ _ (by simp <;> omega), h1]
/-- What canDivide tells. -/
def Ar.cut (a : Ar) (n : Int) : Prop := a.fine ∧ 0 ≤ n ∧ n ≤ a.data.size
instance (a : Ar) (n : Int) : Decidable (a.cut n) := by unfold Ar.cut; infer_instance
theorem bx1 (w w2 : World) (v0 v1 : Value) (t : TypeId) (b : Below (w.alloc (.cells #[v0, v1] t)).heap.size (w.alloc (.cells #[v0, v1] t)) w2) :
    w2.cell? ⟨w.heap.size, 0, none⟩ = some v0 ∧ w2.cell? ⟨w.heap.size, 1, none⟩ = some v1 ∧ Below w.heap.size w w2 :=
  ⟨(b.cell (by simp)).trans (by simp [go_sem]), (b.cell (by simp)).trans (by simp [go_sem]), ((Below.refl _ _).alloc (Nat.le_refl _) _).trans (b.mono (by simp))⟩
theorem min_if (x y : Int) : (if x < y then x else y) = min x y := by
  split <;> omega
set_option maxRecDepth 100000 in
theorem exec_subI {ρ : Operand → Value} {o : Oper} {x y : Operand} (X Y Z : Int) (w : World) (h : X - Y = Z) (h1 : -9223372036854775808 ≤ Z) (h2 : Z ≤ 9223372036854775807) (ho : o.op = .binOp .sub 3 x y 3 := by rfl) (hx : ρ x = .int .i64 X := by rfl) (hy : ρ y = .int .i64 Y := by rfl) :
    (execOp ρ o).run Tryz.prog w = .ok (.value (.int .i64 Z)) w := by
  have hw : IntKind.i64.wrap Z = Z := by rw [IntKind.wrap_i64]; omega
  unfold execOp
  rw [ho]
  simp [go_sem, hx, hy, h, hw]
set_option maxRecDepth 100000 in
theorem exec_lenS {ρ : Operand → Value} {o : Oper} {x : Operand} (X : ByteArray) (w : World) (ho : o.op = .call { callee := .builtin .len, args := #[x], argTypes := #[9] } := by rfl) (hx : ρ x = .string X := by rfl) :
    (execOp ρ o).run Tryz.prog w = .ok (.value (.int .i64 (X.size : Int))) w := by
  unfold execOp
  rw [ho]
  simp [go_sem, hx]
/-- A store, as Go holds it. -/
structure St where
  log : Ar
  even : Ar
  odd : Ar
def stA (s : St) : Value := .agg #[.string s.log.data, .int .i64 s.log.safe, .string s.even.data, .int .i64 s.even.safe, .string s.odd.data, .int .i64 s.odd.safe]
def St.go (s : St) : Prop := s.log.go ∧ s.even.go ∧ s.odd.go
def St.fine (s : St) : Prop := s.log.fine ∧ s.even.fine ∧ s.odd.fine
instance (s : St) : Decidable s.fine := by unfold St.fine; infer_instance
/-- What a call from here on leaves of a block that was made just before. -/
theorem boxk (w w2 : World) (cs : Array Value) (t : TypeId) (b : Below (w.alloc (.cells cs t)).heap.size (w.alloc (.cells cs t)) w2) (k : Nat) (v : Value) (h : cs[k]? = some v) : w2.cell? ⟨w.heap.size, k, none⟩ = some v := by
  refine (b.cell (by simp)).trans ?_
  rw [World.cell?_alloc_at _ _ _ _ rfl, h]
theorem boxB (w w2 : World) (o : Obj) (b : Below (w.alloc o).heap.size (w.alloc o) w2) : Below w.heap.size w w2 := ((Below.refl _ _).alloc (Nat.le_refl _) _).trans (b.mono (by simp))
/-- The area of a slot. -/
def slotS (s : St) (n : Int) : Ar := if n.tmod 2 = 0 then s.even else s.odd
def putS (s : St) (n : Int) (a : Ar) : St := if n.tmod 2 = 0 then { s with even := a } else { s with odd := a }
/-- Three blocks that the call made first hold these. -/
def Three (w w1 : World) (A B C : Obj) : Prop := w1.heap[w.heap.size]? = some A ∧ w1.heap[w.heap.size + 1]? = some B ∧ w1.heap[w.heap.size + 2]? = some C ∧ Below w.heap.size w w1
theorem Three.make (w : World) (A B C : Obj) : Three w (((w.alloc A).alloc B).alloc C) A B C := by
  have e0 : (w.alloc A).heap.size = w.heap.size + 1 := by simp
  have e1 : ((w.alloc A).alloc B).heap.size = w.heap.size + 2 := by simp
  refine ⟨?_, ?_, ?_, (((Below.refl _ _).alloc (Nat.le_refl _) _).alloc (by simp) _).alloc (by simp; omega) _⟩
  · rw [Go.heap_alloc_old _ _ (by omega), Go.heap_alloc_old _ _ (by omega), heap_new]
  · rw [Go.heap_alloc_old _ _ (by omega), ← e0, heap_new]
  · rw [← e1, heap_new]
theorem Three.call {w w1 w2 : World} {A B C : Obj} (h : Three w w1 A B C) (b : Below w1.heap.size w1 w2) : Three w w2 A B C := by
  obtain ⟨h0, h1, h2, hb⟩ := h
  exact ⟨(b.block _ (Array.getElem?_eq_some_iff.1 h0).1).trans h0, (b.block _ (Array.getElem?_eq_some_iff.1 h1).1).trans h1, (b.block _ (Array.getElem?_eq_some_iff.1 h2).1).trans h2, hb.trans (b.mono hb.size)⟩
theorem Three.put2 {w w1 : World} {A B : Obj} {cs : Array Value} {t : TypeId} (h : Three w w1 A B (.cells cs t (0, 0))) (k : Nat) (u v : Value) :
    Three w ((w1.setCell ⟨w.heap.size + 2, k, none⟩ u).setCell ⟨w.heap.size + 2, k + 1, none⟩ v) A B (.cells ((cs.setIfInBounds k u).setIfInBounds (k + 1) v) t (0, 0)) := by
  obtain ⟨h0, h1, h2, hb⟩ := h
  refine ⟨?_, ?_, ?_, (hb.setCell (by simp) _).setCell (by simp) _⟩
  · rw [Below.heap_setCell _ _ _ _ (by simp), Below.heap_setCell _ _ _ _ (by simp), h0]
  · rw [Below.heap_setCell _ _ _ _ (by simp), Below.heap_setCell _ _ _ _ (by simp), h1]
  · exact Go.heap_setCell_same _ _ _ _ _ _ (Go.heap_setCell_same _ _ _ _ _ _ h2)
/-- A store laid into a block of six cells. -/
def put6 (w : World) (g : Nat) (s : St) : World :=
  (((((w.setCell ⟨g, 0, none⟩ (.string s.log.data)).setCell ⟨g, 1, none⟩ (.int .i64 s.log.safe)).setCell ⟨g, 2, none⟩ (.string s.even.data)).setCell ⟨g, 3, none⟩ (.int .i64 s.even.safe)).setCell ⟨g, 4, none⟩ (.string s.odd.data)).setCell ⟨g, 5, none⟩ (.int .i64 s.odd.safe)
theorem put6_heap {w : World} {g : Nat} {s : St} {t : TypeId} (h : w.heap[g]? = some (.cells #[.string ⟨#[]⟩, .int .i64 0, .string ⟨#[]⟩, .int .i64 0, .string ⟨#[]⟩, .int .i64 0] t (0, 0))) : (put6 w g s).heap[g]? = some (.cells #[.string s.log.data, .int .i64 s.log.safe, .string s.even.data, .int .i64 s.even.safe, .string s.odd.data, .int .i64 s.odd.safe] t (0, 0)) := by
  unfold put6
  exact Go.heap_setCell_same _ _ _ _ _ _ (Go.heap_setCell_same _ _ _ _ _ _ (Go.heap_setCell_same _ _ _ _ _ _ (Go.heap_setCell_same _ _ _ _ _ _ (Go.heap_setCell_same _ _ _ _ _ _ (Go.heap_setCell_same _ _ _ _ _ _ h)))))
theorem put6_below {B : Nat} {w0 w : World} {g : Nat} {s : St} (h : Below B w0 w) (hg : B ≤ g) : Below B w0 (put6 w g s) := by
  unfold put6
  repeat refine Below.setCell ?_ hg _
  exact h
/-- The draw hands out an area. -/
def GotArea (w : World) (g : Nat) (A : Option Addr) (l : List Nat) (c : Nat) (e : Ending) (w' : World) : Prop :=
  ∃ a : Ar, (a.go ∧ a.data.size ≤ 20000) ∧ e = .returned (arA a) ∧ Cur w' g A l c ∧ w.grownBy w' (some g)
theorem grown_made (w : World) (o : Obj) (g : Nat) : w.grownBy (w.alloc o) (some g) := World.grownBy_alloc w o (some g)
/-- A block that was made lies as it was made. -/
theorem grown_at {w w2 : World} {o : Obj} {g : Nat} (h : (w.alloc o).grownBy w2 (some g)) (hg : g < w.heap.size) : w2.heap[w.heap.size]? = some o := by
  rw [h.block w.heap.size (by simp) (by simp; omega), heap_new]
theorem got_area {w w2 : World} {g r : Nat} {A : Option Addr} {l : List Nat} {c : Nat} {u v : Value} {d : ByteArray} {z : Int} (hd : d.size ≤ 20000) (hz : -9223372036854775808 ≤ z ∧ z ≤ 9223372036854775807) (hc : Cur w2 g A l c) (gr : w.grownBy w2 (some g)) (hg : g < w.heap.size) (hr : r = w.heap.size) :
    GotArea w g A l c (.returned (.agg #[.string d, .int .i64 z])) ((w2.setCell ⟨r, 0, none⟩ u).setCell ⟨r, 1, none⟩ v) := by
  subst hr
  have k1 := Go.Lib.grownBy_setCell w2 w.heap.size 0 u
  have k2 := Go.Lib.grownBy_setCell (w2.setCell ⟨w.heap.size, 0, none⟩ u) w.heap.size 1 v
  refine ⟨⟨d, z⟩, ⟨⟨by show d.size ≤ _; omega, hz⟩, hd⟩, rfl, ?_, ?_⟩
  · exact (hc.grown k1 (fun k hk => by injection hk with hk; omega)).grown k2 (fun k hk => by injection hk with hk; omega)
  · exact grown_step (grown_step gr k1 (fun k hk => by injection hk with hk; omega)) k2 (fun k hk => by injection hk with hk; omega)
def areaTexts : List ByteArray := [⟨#[]⟩, ⟨#[97]⟩, ⟨#[115, 111, 109, 101, 32, 98, 121, 116, 101, 115]⟩, ⟨#[0, 1, 2, 3]⟩]
theorem cur_set {w : World} {g q i : Nat} {A : Option Addr} {l : List Nat} {c : Nat} (hc : Cur w g A l c) (hq : g < q) (v : Value) : Cur (w.setCell ⟨q, i, none⟩ v) g A l c :=
  hc.grown (Go.Lib.grownBy_setCell w q i v) (fun k hk => by injection hk with hk; omega)
theorem grown_set {w0 w : World} {g q i : Nat} (gr : w0.grownBy w (some g)) (hq : w0.heap.size ≤ q) (v : Value) : w0.grownBy (w.setCell ⟨q, i, none⟩ v) (some g) :=
  grown_step gr (Go.Lib.grownBy_setCell w q i v) (fun k hk => by injection hk with hk; omega)
/-- How far a string is from 40000 bytes. -/
def leftOf : Value → Nat
  | .string s => 40000 - s.size
  | _ => 0
/-- The draw hands out a store. -/
def GotStore (w : World) (g : Nat) (A : Option Addr) (l : List Nat) (c : Nat) (e : Ending) (w' : World) : Prop :=
  ∃ s : St, (s.go ∧ s.log.data.size ≤ 20000 ∧ s.even.data.size ≤ 20000 ∧ s.odd.data.size ≤ 20000) ∧ e = .returned (stA s) ∧ Cur w' g A l c ∧ w.grownBy w' (some g)
theorem grown_put6 {w0 w : World} {g q : Nat} {s : St} (gr : w0.grownBy w (some g)) (hq : w0.heap.size ≤ q) : w0.grownBy (put6 w q s) (some g) := by
  unfold put6
  repeat refine grown_set ?_ hq _
  exact gr
theorem cur_put6 {w : World} {g q : Nat} {A : Option Addr} {l : List Nat} {c : Nat} {s : St} (hc : Cur w g A l c) (hq : g < q) : Cur (put6 w q s) g A l c := by
  unfold put6
  repeat refine cur_set ?_ hq _
  exact hc
def moreTexts : List ByteArray := [⟨#[]⟩, ⟨#[120]⟩, ⟨#[109, 111, 114, 101, 32, 111, 102, 32, 105, 116]⟩]
theorem grown_keep {w w2 : World} {g r : Nat} {o : Obj} (h : w.grownBy w2 (some g)) (hr : w.heap[r]? = some o) (hne : r ≠ g) : w2.heap[r]? = some o := by
  rw [h.block r (Array.getElem?_eq_some_iff.1 hr).1 (by simpa using hne), hr]
/-- What DrawAppend hands out. -/
def GotApp (w : World) (e : Ending) (w' : World) : Prop :=
  ∃ (a : Ar) (s : ByteArray), (a.go ∧ a.data.size ≤ 20000 ∧ s.size ≤ 10) ∧ e = .returned (.tuple #[arA a, .string s]) ∧ Below w.heap.size w w'
theorem got_app {w w2 : World} {r : Nat} {u v : Value} {d s : ByteArray} {z : Int} (hd : d.size ≤ 20000) (hz : -9223372036854775808 ≤ z ∧ z ≤ 9223372036854775807) (hs : s.size ≤ 10) (hb : Below w.heap.size w w2) (hr : w.heap.size ≤ r) :
    GotApp w (.returned (.tuple #[.agg #[.string d, .int .i64 z], .string s])) ((w2.setCell ⟨r, 0, none⟩ u).setCell ⟨r, 1, none⟩ v) :=
  ⟨⟨d, z⟩, s, ⟨⟨by show d.size ≤ _; omega, hz⟩, hd, hs⟩, rfl, (hb.setCell hr _).setCell hr _⟩
/-- What DrawPutSlot hands out. -/
def GotPut (w : World) (e : Ending) (w' : World) : Prop :=
  ∃ (s : St) (n : Int) (a : Ar), (s.go ∧ s.log.data.size ≤ 20000 ∧ s.even.data.size ≤ 20000 ∧ s.odd.data.size ≤ 20000) ∧ (-9223372036854775808 ≤ n ∧ n ≤ 9223372036854775807) ∧ (a.go ∧ a.data.size ≤ 20000) ∧ e = .returned (.tuple #[stA s, .int .i64 n, arA a]) ∧ Below w.heap.size w w'
theorem blk_call {w w' : World} {r : Nat} {o : Obj} (h : w.heap[r]? = some o) (b : Below w.heap.size w w') : w'.heap[r]? = some o := by
  rw [b.block r (Array.getElem?_eq_some_iff.1 h).1, h]
theorem blk_alloc {w : World} {r : Nat} {o : Obj} (h : w.heap[r]? = some o) (x : Obj) : (w.alloc x).heap[r]? = some o := by
  rw [Go.heap_alloc_old _ _ (Array.getElem?_eq_some_iff.1 h).1, h]
theorem blk_lt {w : World} {r : Nat} {o : Obj} (h : w.heap[r]? = some o) : r < w.heap.size := (Array.getElem?_eq_some_iff.1 h).1
theorem blk2 {w : World} {r : Nat} {u v : Value} {t : TypeId} (h : w.heap[r]? = some (.cells #[u, v] t)) : w.cell? ⟨r, 0, none⟩ = some u ∧ w.cell? ⟨r, 1, none⟩ = some v :=
  ⟨cell_of_row _ _ 0 _ _ _ h, cell_of_row _ _ 1 _ _ _ h⟩
theorem ext_left (x y : ByteArray) : (x ++ y).extract 0 x.size = x := by
  rw [← strB_strN ((x ++ y).extract 0 x.size), strN_extract]
  have e : strN (x ++ y) = strN x ++ strN y := by unfold strN; simp
  rw [e, List.drop_zero, Nat.sub_zero, ← strN_length x, List.take_left, strB_strN]
theorem ext_right (x y : ByteArray) : (x ++ y).extract x.size (x ++ y).size = y := by
  rw [← strB_strN ((x ++ y).extract x.size (x ++ y).size), strN_extract]
  have e : strN (x ++ y) = strN x ++ strN y := by unfold strN; simp
  rw [e, ← strN_length x, List.drop_left, List.take_of_length_le (by rw [strN_length, ByteArray.size_append, strN_length]; omega), strB_strN]
theorem slot_same (s : St) (n : Int) (a : Ar) : slotS (putS s n a) n = a := by
  unfold slotS putS
  by_cases h : n.tmod 2 = 0
  · simp [h]
  · simp [h]
theorem slot_even (s : St) (n : Int) (a : Ar) (h : n.tmod 2 = 0) : slotS (putS s n a) 1 = slotS s 1 := by
  unfold slotS putS
  simp [h]
theorem slot_odd (s : St) (n : Int) (a : Ar) (h : ¬ n.tmod 2 = 0) : slotS (putS s n a) 0 = slotS s 0 := by
  unfold slotS putS
  simp [h]
theorem put_log (s : St) (n : Int) (a : Ar) : (putS s n a).log = s.log := by
  unfold putS
  split <;> rfl
theorem put_len (s : St) (n : Int) (a : Ar) : ((s.log.data.size + s.even.data.size + s.odd.data.size : Nat) : Int) - (slotS s n).data.size + a.data.size = (((putS s n a).log.data.size + (putS s n a).even.data.size + (putS s n a).odd.data.size : Nat) : Int) := by
  unfold putS slotS
  split
  · simp only []; omega
  · simp only []; omega
theorem put_fits (s : St) (n : Int) (a : Ar) (h1 : s.log.data.size ≤ 20000) (h2 : s.even.data.size ≤ 20000) (h3 : s.odd.data.size ≤ 20000) (h4 : a.data.size ≤ 20000) : (putS s n a).log.data.size + (putS s n a).even.data.size + (putS s n a).odd.data.size ≤ 60000 := by
  unfold putS
  split
  · simp only []; omega
  · simp only []; omega
theorem slot_fits (s : St) (n : Int) (h2 : s.even.data.size ≤ 20000) (h3 : s.odd.data.size ≤ 20000) : (slotS s n).data.size ≤ 20000 := by
  unfold slotS
  split <;> omega
set_option maxRecDepth 100000 in
theorem exec_eqI {ρ : Operand → Value} {o : Oper} {x y : Operand} (X : Int) (w : World) (ho : o.op = .binOp .eql 3 x y 3 := by rfl) (hx : ρ x = .int .i64 X := by rfl) (hy : ρ y = .int .i64 X := by rfl) :
    (execOp ρ o).run Tryz.prog w = .ok (.value (.bool true)) w := by
  unfold execOp
  rw [ho]
  simp [go_sem, hx, hy]
set_option maxRecDepth 100000 in
theorem exec_pickT {ρ : Operand → Value} {o : Oper} {x y z : Operand} (v : Value) (w : World) (ho : o.op = .pick x y z := by rfl) (hx : ρ x = .bool true := by rfl) (hy : ρ y = v := by rfl) :
    (execOp ρ o).run Tryz.prog w = .ok (.value v) w := by
  unfold execOp
  rw [ho]
  simp [go_sem, hx, hy]
theorem st_cells {w : World} {b : Nat} {s : St} {t : TypeId} (h : w.heap[b]? = some (.cells #[.string s.log.data, .int .i64 s.log.safe, .string s.even.data, .int .i64 s.even.safe, .string s.odd.data, .int .i64 s.odd.safe] t (0, 0))) : w.cell? ⟨b, 0, none⟩ = some (.string s.log.data) ∧ w.cell? ⟨b, 1, none⟩ = some (.int .i64 s.log.safe) :=
  ⟨cell_of_row _ _ 0 _ _ _ h, cell_of_row _ _ 1 _ _ _ h⟩
end Go.Proofs.YtlflgflmlfileaaGreat
