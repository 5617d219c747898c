/- Texts laid together: Aft, AftL, AftW, Draw, L2, AftD, AftF. -/
import Derived.Test.YtlflgflmlfileaaGreatRows
import Derived.Test.YtlflgflmlfileaaGreatG2
import Derived.Deep.AppendLies
namespace Go.Proofs.YtlflgflmlfileaaGreat
open Go.RowKit
set_option linter.unusedSimpArgs false
set_option linter.unusedVariables false
/-- What After selects. -/
def afterOf : List Fr → Int → List Fr
  | [], _ => []
  | f :: r, q => if f.seq ≤ q then afterOf r q else if f.seq = q + 1 then f :: afterOf r f.seq else []
theorem afterOf_len (l : List Fr) (q : Int) : (afterOf l q).length ≤ l.length := by
  induction l generalizing q with
  | nil => simp [afterOf]
  | cons f r ih =>
    simp only [afterOf]
    split
    · have := ih q; simp only [List.length_cons]; omega
    · split
      · have := ih f.seq; simp only [List.length_cons]; omega
      · simp
theorem dropF (l : List Fr) (k : Nat) (h : k < l.length) : l.drop k = l.getD k fr0 :: l.drop (k + 1) := by
  rw [List.drop_eq_getElem_cons h, List.getD_eq_getElem?_getD, List.getElem?_eq_getElem h]; rfl
/-- Where the loop of After stands. -/
def AftAt (l : List Fr) (seq : Int) (k : Nat) (p : List Fr) (q : Int) : Prop := p ++ afterOf (l.drop k) q = afterOf l seq ∧ p.length ≤ k
theorem AftAt.skip {l : List Fr} {seq q : Int} {k : Nat} {p : List Fr} (h : AftAt l seq k p q) (hk : k < l.length) (hq : (l.getD k fr0).seq ≤ q) : AftAt l seq (k + 1) p q := by
  refine ⟨?_, by have := h.2; omega⟩
  rw [← h.1, dropF l k hk]
  simp only [afterOf]
  rw [if_pos hq]
theorem AftAt.take {l : List Fr} {seq q : Int} {k : Nat} {p : List Fr} (h : AftAt l seq k p q) (hk : k < l.length) (hq : (l.getD k fr0).seq = q + 1) : AftAt l seq (k + 1) (p ++ [l.getD k fr0]) (q + 1) := by
  refine ⟨?_, by have := h.2; simp; omega⟩
  rw [← h.1, dropF l k hk]
  simp only [afterOf]
  rw [if_neg (by omega), if_pos hq, List.append_assoc, hq]; rfl
theorem AftAt.stop {l : List Fr} {seq q : Int} {k : Nat} {p : List Fr} (h : AftAt l seq k p q) (hk : k < l.length) (hq : q < (l.getD k fr0).seq) (hn : (l.getD k fr0).seq ≠ q + 1) : p = afterOf l seq := by
  have h1 := h.1
  rw [dropF l k hk] at h1
  simp only [afterOf] at h1
  rw [if_neg (by omega), if_neg hn, List.append_nil] at h1
  exact h1
theorem AftAt.last {l : List Fr} {seq q : Int} {p : List Fr} (h : AftAt l seq l.length p q) : p = afterOf l seq := by
  have h1 := h.1
  rw [List.drop_length] at h1
  simpa [afterOf] using h1
/-- Every number of the list is an int. -/
def FrWf (l : List Fr) : Prop := ∀ f ∈ l, -9223372036854775808 ≤ f.seq ∧ f.seq ≤ 9223372036854775807
theorem FrWf.getD {l : List Fr} (h : FrWf l) {k : Nat} (hk : k < l.length) : -9223372036854775808 ≤ (l.getD k fr0).seq ∧ (l.getD k fr0).seq ≤ 9223372036854775807 := by
  rw [List.getD_eq_getElem?_getD, List.getElem?_eq_getElem hk]; exact h _ (List.getElem_mem hk)
/-- Every body of the list is a string. -/
def FrSz (l : List Fr) : Prop := ∀ f ∈ l, f.body.size ≤ 9223372036854775807
theorem FrSz.getD {l : List Fr} (h : FrSz l) {k : Nat} (hk : k < l.length) : (l.getD k fr0).body.size ≤ 9223372036854775807 := by
  rw [List.getD_eq_getElem?_getD, List.getElem?_eq_getElem hk]; exact h _ (List.getElem_mem hk)
/-- toFrameS halfway: k frames are copied over the cells Z. -/
def halfF (Z : List Value) (l : List Fr) (k : Nat) : List Value := (l.take k).flatMap frC ++ Z.drop (k * 3)
theorem halfF_zero (Z : List Value) (l : List Fr) : halfF Z l 0 = Z := by simp [halfF]
theorem halfF_all (Z : List Value) (l : List Fr) (hZ : Z.length = l.length * 3) : halfF Z l l.length = l.flatMap frC := by
  unfold halfF; rw [List.take_length, List.drop_of_length_le (by omega), List.append_nil]
theorem halfF_len (Z : List Value) (l : List Fr) (k : Nat) (hZ : Z.length = l.length * 3) (hk : k ≤ l.length) : (halfF Z l k).length = l.length * 3 := by
  unfold halfF
  rw [List.length_append, flat_len frC 3 frC_len, List.length_take, List.length_drop, hZ, Nat.min_eq_left hk]; omega
theorem halfF_set (Z : List Value) (l : List Fr) (k : Nat) (hZ : Z.length = l.length * 3) (hk : k < l.length) :
    (((halfF Z l k).set (k * 3) (.int .i64 (l.getD k fr0).seq)).set (k * 3 + 1) (.string (l.getD k fr0).body)).set (k * 3 + 2) (.int .i64 (l.getD k fr0).next) = halfF Z l (k + 1) := by
  have hlen : ((l.take k).flatMap frC).length = k * 3 := by rw [flat_len frC 3 frC_len, List.length_take, Nat.min_eq_left (by omega)]
  obtain ⟨x0, x1, x2, r, hd⟩ : ∃ x0 x1 x2 r, Z.drop (k * 3) = x0 :: x1 :: x2 :: r := by
    have : 3 ≤ (Z.drop (k * 3)).length := by rw [List.length_drop, hZ]; omega
    match h : Z.drop (k * 3), this with
    | x0 :: x1 :: x2 :: r, _ => exact ⟨x0, x1, x2, r, rfl⟩
  have hd3 : Z.drop ((k + 1) * 3) = r := by
    rw [show (k + 1) * 3 = 3 + k * 3 by omega, Nat.add_comm, ← List.drop_drop, hd]; rfl
  unfold halfF
  rw [hd, hd3, take_snoc l k fr0 hk, List.flatMap_append, List.append_assoc]
  rw [List.set_append_right _ _ (by omega), hlen, Nat.sub_self, List.set_cons_zero]
  rw [List.set_append_right _ _ (by omega), hlen, show k * 3 + 1 - k * 3 = 1 by omega]
  rw [List.set_append_right _ _ (by omega), hlen, show k * 3 + 2 - k * 3 = 2 by omega]
  rfl
/-- What is owned from B on stays where a row below B is written. -/
theorem own_apart {w w' : World} {e sz n B : Nat} {v : Value} {cs : List Value} {row : Option Nat} (h : w.ownsRow B e sz v n cs) (g : w.grownBy w' row) (hr : ∀ k, row = some k → k < B) : w'.ownsRow B e sz v n cs := by
  refine h.kept g ?_
  rcases hv : v.ownBlock with _ | k
  · exact .inl rfl
  · refine .inr fun e => ?_
    have h1 := (World.ownsRow.lt h k hv).1
    have h2 := hr k e.symm
    omega
theorem own_block_lt {w : World} {base e sz n : Nat} {v : Value} {cs : List Value} (h : w.ownsRow base e sz v n cs) : ∀ k, v.ownBlock = some k → k < w.heap.size := fun k hk => (World.ownsRow.lt h k hk).2
theorem Cur.grown {w w' : World} {g : Nat} {A : Option Addr} {l : List Nat} {c : Nat} {row : Option Nat} (h : Cur w g A l c) (gr : w.grownBy w' row) (hr : ∀ k, row = some k → g < k) : Cur w' g A l c :=
  h.below (B := g + 1) ((Below.refl _ _).grown gr (by have := h.lt; omega) (fun k hk => hr k hk)) (by omega)
theorem Cur.alloc {w : World} {g : Nat} {A : Option Addr} {l : List Nat} {c : Nat} (h : Cur w g A l c) (o : Obj) : Cur (w.alloc o) g A l c := h.grown (World.grownBy_alloc w o none) (fun k hk => by cases hk)
theorem Cur.mem {w w' : World} {g : Nat} {A : Option Addr} {l : List Nat} {c : Nat} (h : Cur w g A l c) (b : Below w.heap.size w w') : Cur w' g A l c := h.below b h.lt
/-- Behind the cursor's own writes what is owned above it stays. -/
theorem own_cur {w w' : World} {e sz n B g : Nat} {v : Value} {cs : List Value} (h : w.ownsRow B e sz v n cs) (gr : w.grownBy w' (some g)) (hg : g < B) : w'.ownsRow B e sz v n cs := by
  refine h.kept gr ?_
  rcases hv : v.ownBlock with _ | k
  · exact .inl rfl
  · refine .inr fun e => ?_
    have h1 := (World.ownsRow.lt h k hv).1
    injection e with e
    omega
theorem grown_step {a b c : World} {g : Nat} {row : Option Nat} (h : a.grownBy b (some g)) (k : b.grownBy c row) (hr : ∀ j, row = some j → a.heap.size ≤ j) : a.grownBy c (some g) :=
  h.andThen k (fun j hj => .inl (hr j hj))
theorem grown_below {a b c : World} {g : Nat} (h : a.grownBy b (some g)) (k : Below b.heap.size b c) : a.grownBy c (some g) := h.trans (grown_of_below k _)
theorem below_grown {w w' : World} {g B : Nat} (h : w.grownBy w' (some g)) (hB : B ≤ g) (hs : B ≤ w.heap.size) : Below B w w' := (Below.refl _ _).grown h hs (fun k hk => by injection hk with hk; omega)
def GotBool (w : World) (g : Nat) (A : Option Addr) (l : List Nat) (c : Nat) (e : Ending) (w' : World) : Prop :=
  ∃ b : Bool, e = .returned (.bool b) ∧ Cur w' g A l c ∧ w.grownBy w' (some g)
set_option maxRecDepth 100000 in
theorem l1Once_any (A : Option Addr) (l : List Nat) (c g n : Nat) (w : World) (hl : l.length ≤ 2097152) (hb : AllB l) (hn : 0 < n) (hn2 : n ≤ 2147483648) (hc : Cur w g A l c) :
    Calls Tryz.prog 25 #[.pointer (some ⟨g, 0, none⟩), .int .i64 n] w (GotBool w g A l c) := by
  go_enter Tryz.func25, Tryz.ntmps25
  go_wp2_with fail
  refine (l1Below_any A l c g n _ hl hb hn hn2 hc).mono ?_
  rintro e w1 ⟨x, hx, rfl, hc1, gr1⟩
  go_wp2
  go_ret
  exact ⟨_, rfl, hc1, gr1⟩
def GotBytes (w : World) (g : Nat) (A : Option Addr) (l : List Nat) (c n : Nat) (e : Ending) (w' : World) : Prop :=
  ∃ (bs : List Nat) (B : Option Addr) (cb : Nat), bs.length = n ∧ AllB bs ∧ e = .returned (.slice B n cb) ∧ OwnB w' w.heap.size (.slice B n cb) bs ∧ Cur w' g A l c ∧ w.grownBy w' (some g)
/-- One of those that may come up yields v. -/
theorem ready_op {P : Program} {md : Region.Mode} {ops : Array Oper} {Q : Exit → Act → World → Prop} {S : World → Prop} {fuel : Nat} {listed : Array Bool} {a : Act} {w w' : World} (i d : Nat) (v : Value) {oi : Oper} {rs : List Nat}
    (hi : ops[i]? = some oi) (hd : oi.dst = some d) (hw : Region.wanted oi (yielded ops a.tmps) = true)
    (he : (execOp a.eval oi).run P w = .ok (.value v) w') (hS : S w')
    (h : wpAnyH P md ops Q S fuel (listed.setIfInBounds i true) (a.put (some d) v) w') (hrs : AllReadyH P md ops Q S fuel listed a w rs) : AllReadyH P md ops Q S fuel listed a w (i :: rs) := by
  refine AllReadyH.cons hi (fun K hK => ?_) hrs
  rw [if_pos hw]
  unfold Oper.wp
  rw [he, Oper.upon_value, hd]
  exact hK.out _ _ hS (fun _ => h)
/-- One of those that may come up is a call. -/
theorem ready_call {P : Program} {md : Region.Mode} {ops : Array Oper} {Q : Exit → Act → World → Prop} {S : World → Prop} {fuel : Nat} {listed : Array Bool} {a : Act} {w : World} (i d : Nat) (f : FuncId) (args : Array Value) {oi : Oper} {rs : List Nat}
    (hi : ops[i]? = some oi) (hd : oi.dst = some d) (hw : Region.wanted oi (yielded ops a.tmps) = true)
    (he : (execOp a.eval oi).run P w = .ok (.enter f args) w)
    (h : Calls P f args w fun e w' => ∃ v, e = .returned v ∧ S w' ∧ wpAnyH P md ops Q S fuel (listed.setIfInBounds i true) (a.put (some d) v) w') (hrs : AllReadyH P md ops Q S fuel listed a w rs) : AllReadyH P md ops Q S fuel listed a w (i :: rs) := by
  refine AllReadyH.cons hi (fun K hK => ?_) hrs
  rw [if_pos hw]
  unfold Oper.wp
  rw [he, Oper.upon_enter]
  refine h.mono ?_
  rintro e w' ⟨v, rfl, hS, hh⟩
  rw [hd]
  exact hK.out _ _ hS (fun _ => hh)
/-- The one operation that may come up stores. -/
theorem held_store {P : Program} {md : Region.Mode} {ops : Array Oper} {Q : Exit → Act → World → Prop} {S : World → Prop} {fuel : Nat} {listed : Array Bool} {a : Act} {w w' : World} (i : Nat) {oi : Oper}
    (hi : ops[i]? = some oi) (hd : oi.dst = none) (hr : Region.ready md ops listed = [i]) (hw : Region.wanted oi (yielded ops a.tmps) = true)
    (he : (execOp a.eval oi).run P w = .ok .skip w') (hS : S w')
    (h : wpAnyH P md ops Q S fuel (listed.setIfInBounds i true) a w') : wpAnyH P md ops Q S (fuel + 1) listed a w := by
  refine wpAnyH_ready hr (by simp) (AllReadyH.cons hi (fun K hK => ?_) AllReadyH.nil)
  rw [if_pos hw]
  unfold Oper.wp
  rw [he, Oper.upon_skip, hd]
  exact hK.out _ _ hS (fun _ => h)
set_option maxRecDepth 100000 in
/-- []byte(s), with what a store into it wants. -/
theorem bytes_new (w : World) (s : ByteArray) : ∃ (c : Nat) (w' : World), (convert 9 22 (.string s)).run Tryz.prog w = .ok (.slice (some ⟨w.heap.size, 0, none⟩) s.size c) w' ∧
    (∀ k, k < (strN s).length → w'.cell? ⟨w.heap.size, 0 + k, none⟩ = some (.int .u8 (((strN s).getD k 0 : Nat) : Int))) ∧ (∀ k, k < s.size → w'.frozen? ⟨w.heap.size, k, none⟩ = false) ∧ s.size ≤ c ∧ w'.heap.size = w.heap.size + 1 ∧ Below w.heap.size w w' := by
  refine ⟨_, _, run_bytes_of_string (P := Tryz.prog) w 9 22 5 s Tryz.underlying9 Tryz.underlying22 Tryz.underlying5, row_cells w.drew s _ _, ?_, grownCap_ge _ _ _ _, by simp, ?_⟩
  · intro k hk
    have h1 : s.size ≤ (bytesRow s (grownCap w s.size 0 5)).size := by unfold bytesRow; simp
    have h2 := heap_alloc_new w.drew (.cells (bytesRow s (grownCap w s.size 0 5)) 5 ((bytesRow s (grownCap w s.size 0 5)).size, (bytesRow s (grownCap w s.size 0 5)).size + 1))
    unfold World.frozen?
    simp only
    rw [show w.heap.size = w.drew.heap.size from rfl, h2]
    simp only [Bool.and_eq_false_iff, decide_eq_false_iff_not]
    left
    omega
  · exact ((Below.refl _ _).drew).alloc (Nat.le_refl _) _
set_option maxRecDepth 100000 in
theorem exec_idxB {ρ : Operand → Value} {o : Oper} {x y : Operand} (b off n c k : Nat) (w : World) (h : k < n) (ho : o.op = .indexAddr 22 x y := by rfl) (hx : ρ x = .slice (some ⟨b, off, none⟩) n c := by rfl) (hy : ρ y = .int .i64 (k : Int) := by rfl) :
    (execOp ρ o).run Tryz.prog w = .ok (.value (.pointer (some ⟨b, off + k, none⟩))) w := by
  have h1 : (k : Int) < (n : Int) := by omega
  unfold execOp
  rw [ho]
  simp [go_sem, hx, hy, h]
set_option maxRecDepth 100000 in
theorem exec_load1 {ρ : Operand → Value} {o : Oper} {x : Operand} (t : TypeId) (b off : Nat) (v : Value) (w : World) (ht : t = 3 ∨ t = 4 ∨ t = 5 ∨ t = 9) (h : w.cell? ⟨b, off, none⟩ = some v) (ho : o.op = .load t x := by rfl) (hx : ρ x = .pointer (some ⟨b, off, none⟩) := by rfl) :
    (execOp ρ o).run Tryz.prog w = .ok (.value v) w := by
  unfold execOp
  rw [ho]
  rcases ht with rfl | rfl | rfl | rfl <;> simp [go_sem, hx, h]
set_option maxRecDepth 100000 in
theorem exec_u8 {ρ : Operand → Value} {o : Oper} {x : Operand} (z : Int) (w : World) (h1 : 0 ≤ z) (h2 : z < 256) (ho : o.op = .convert 3 5 x := by rfl) (hx : ρ x = .int .i64 z := by rfl) :
    (execOp ρ o).run Tryz.prog w = .ok (.value (.int .u8 z)) w := by
  unfold execOp
  rw [ho]
  have h3 : IntKind.u8.wrap z = z := by rw [IntKind.wrap_u8]; exact Int.emod_eq_of_lt h1 h2
  simp [go_sem, hx, h3]
set_option maxRecDepth 100000 in
theorem exec_xorU {ρ : Operand → Value} {o : Oper} {x y : Operand} (X Y : Int) (w : World) (ho : o.op = .binOp .xor 5 x y 5 := by rfl) (hx : ρ x = .int .u8 X := by rfl) (hy : ρ y = .int .u8 Y := by rfl) :
    (execOp ρ o).run Tryz.prog w = .ok (.value (.int .u8 (bits .xor .u8 X Y))) w := by
  unfold execOp
  rw [ho]
  simp [go_sem, hx, hy]
set_option maxRecDepth 100000 in
theorem exec_storeI {ρ : Operand → Value} {o : Oper} {x y : Operand} (t : TypeId) (b off : Nat) (k : IntKind) (z : Int) (u : Value) (w : World) (ht : t = 3 ∨ t = 5) (h : w.cell? ⟨b, off, none⟩ = some u) (hz : w.frozen? ⟨b, off, none⟩ = false) (ho : o.op = .store t x y := by rfl) (hx : ρ x = .pointer (some ⟨b, off, none⟩) := by rfl) (hy : ρ y = .int k z := by rfl) :
    (execOp ρ o).run Tryz.prog w = .ok .skip (w.setCell ⟨b, off, none⟩ (.int k z)) := by
  unfold execOp
  rw [ho]
  rcases ht with rfl | rfl <;> simp [go_sem, hx, hy, h, hz]
set_option maxRecDepth 100000 in
theorem exec_lssI {ρ : Operand → Value} {o : Oper} {x y : Operand} (X Y : Int) (d : Bool) (w : World) (hd : decide (X < Y) = d) (ho : o.op = .binOp .lss 3 x y 3 := by rfl) (hx : ρ x = .int .i64 X := by rfl) (hy : ρ y = .int .i64 Y := by rfl) :
    (execOp ρ o).run Tryz.prog w = .ok (.value (.bool d)) w := by
  subst hd
  unfold execOp
  rw [ho]
  simp [go_sem, hx, hy]
def GotStr (w : World) (g : Nat) (A : Option Addr) (l : List Nat) (c n : Nat) (e : Ending) (w' : World) : Prop :=
  ∃ s : ByteArray, s.size ≤ n ∧ e = .returned (.string s) ∧ Cur w' g A l c ∧ w.grownBy w' (some g)
theorem GotStr.more {w : World} {g : Nat} {A : Option Addr} {l : List Nat} {c n m : Nat} {e : Ending} {w' : World} (h : GotStr w g A l c n e w') (hm : n ≤ m) : GotStr w g A l c m e w' := by
  obtain ⟨s, hs, r⟩ := h; exact ⟨s, by omega, r⟩
set_option maxRecDepth 100000 in
/-- string(b) behind the store of one byte. -/
theorem spoil_conv (w : World) (b : Nat) (L : List Nat) (at_ nv n c : Nat) (hn : L.length = n) (hc : ∀ k, k < L.length → w.cell? ⟨b, k, none⟩ = some (.int .u8 ((L.getD k 0 : Nat) : Int))) :
    (convert 22 9 (.slice (some ⟨b, 0, none⟩) n c)).run Tryz.prog (w.setCell ⟨b, at_, none⟩ (.int .u8 (nv : Int))) = .ok (.string (strB (L.set at_ nv))) (w.setCell ⟨b, at_, none⟩ (.int .u8 (nv : Int))) := by
  refine conv_bytes _ b 0 n c (L.set at_ nv) (by rw [List.length_set]; exact hn) (fun k hk => ?_)
  rw [Nat.zero_add]
  rw [List.length_set] at hk
  by_cases he : k = at_
  · subst he
    rw [World.cell?_setCell_same _ _ _ (hc k hk)]
    simp [hk]
  · rw [World.cell?_setCell_other _ _ _ _ (by intro e; injection e with _ e2 _; exact he e2.symm), hc k hk]
    simp [List.getD_eq_getElem?_getD, List.getElem?_set_ne (Ne.symm he)]
set_option maxRecDepth 100000 in
theorem exec_idxB0 {ρ : Operand → Value} {o : Oper} {x y : Operand} (b n c k : Nat) (w : World) (h : k < n) (ho : o.op = .indexAddr 22 x y := by rfl) (hx : ρ x = .slice (some ⟨b, 0, none⟩) n c := by rfl) (hy : ρ y = .int .i64 (k : Int) := by rfl) :
    (execOp ρ o).run Tryz.prog w = .ok (.value (.pointer (some ⟨b, k, none⟩))) w := by
  have := exec_idxB b 0 n c k w h ho hx hy
  rw [Nat.zero_add] at this
  exact this
theorem spoil_got {w w1 w2 w3 : World} {g b off : Nat} {A : Option Addr} {l : List Nat} {c n : Nat} {v : Value} {S : ByteArray} (hcw : Cur w g A l c) (h1 : Below w.heap.size w w1) (g12 : w1.grownBy w2 (some g)) (g23 : w2.grownBy w3 (some g)) (hc : Cur w3 g A l c) (hS : S.size ≤ n) (hb : b = w.heap.size := by rfl) :
    GotStr w g A l c n (.returned (.string S)) (w3.setCell ⟨b, off, none⟩ v) := by
  have hlt := hcw.lt
  have gs : w3.grownBy (w3.setCell ⟨b, off, none⟩ v) (some b) := ⟨rfl, rfl, rfl, by simp [World.setCell], fun k _ hk => by
    unfold World.setCell
    simp
    rw [Array.getElem?_modify]
    rw [if_neg (by intro e; exact hk (by rw [← e]))]⟩
  refine ⟨S, hS, rfl, hc.grown gs (fun k hk => by injection hk with hk; omega), ?_⟩
  exact grown_step (((grown_of_below h1 _).trans g12).trans g23) gs (fun k hk => by injection hk with hk; omega)
theorem fOf_le (q : Int) (b : List Nat) : (fOf q b).length ≤ 68 := by
  unfold fOf
  split
  · rename_i h
    exact frameOf_le (by unfold FrOk; omega)
  · simp
theorem l2Log_go {w w1 : World} {g : Nat} {A : Option Addr} {l : List Nat} {c : Nat} {s : ByteArray} (hs : s.size ≤ 400) (hc : Cur w1 g A l c) (gr : w.grownBy w1 (some g)) : GotStr w g A l c 1000 (.returned (.string s)) w1 := ⟨s, by omega, rfl, hc, gr⟩
theorem frsF_wf (n : Nat) (l : List Nat) (a : Nat) : ∀ f ∈ frsF n l a, 0 ≤ f.seq ∧ f.seq ≤ 1000000 := by
  induction n generalizing a with
  | zero => intro f hf; cases hf
  | succ n ih =>
    rcases h : fAt l (a : Int) with _ | ⟨seq, b, sz⟩
    · rw [frsF_none h]; intro f hf; cases hf
    · rw [frsF_some h]
      intro f hf
      rcases List.mem_cons.1 hf with rfl | hf
      · have := (fAt_some h).1.2.1
        exact ⟨by show (0 : Int) ≤ (seq : Int); omega, by show (seq : Int) ≤ 1000000; omega⟩
      · exact ih _ f hf
def GotAfter (w : World) (e : Ending) (w' : World) : Prop :=
  ∃ (fl : List Fr) (q : Int) (A : Option Addr) (c : Nat), fl.length ≤ 2097152 ∧ FrWf fl ∧ (-9223372036854775808 ≤ q ∧ q ≤ 9223372036854775807) ∧ e = .returned (.tuple #[.slice A fl.length c, .int .i64 q]) ∧ Rws w' w'.heap.size A (fl.flatMap frC) ∧ Below w.heap.size w w'
theorem FrWf.snoc {l : List Fr} (h : FrWf l) {f : Fr} (hf : -9223372036854775808 ≤ f.seq ∧ f.seq ≤ 9223372036854775807) : FrWf (l ++ [f]) := by
  intro x hx
  rcases List.mem_append.1 hx with hx | hx
  · exact h x hx
  · simp at hx; subst hx; exact hf
theorem after_head {l : List Fr} {q : Int} {x : Fr} {r : List Fr} (h : afterOf l q = x :: r) : x.seq = q + 1 := by
  induction l with
  | nil => cases h
  | cons f t ih =>
    simp only [afterOf] at h
    split at h
    · exact ih h
    · split at h
      · rename_i h2; injection h with h1 _; rw [← h1]; exact h2
      · cases h
/-- One step of the search for the frame that After took. -/
theorem after_find {fl : List Fr} {q : Int} {x : Fr} {r : List Fr} {a : Nat} (h : afterOf (fl.drop a) q = x :: r) : a < fl.length ∧ ((fl.getD a fr0 = x ∧ afterOf (fl.drop (a + 1)) x.seq = r) ∨ (fl.getD a fr0 ≠ x ∧ afterOf (fl.drop (a + 1)) q = x :: r)) := by
  have hx := after_head h
  have hlt : a < fl.length := by
    rcases Nat.lt_or_ge a fl.length with h1 | h1
    · exact h1
    · rw [List.drop_of_length_le h1] at h; cases h
  refine ⟨hlt, ?_⟩
  rw [dropF fl a hlt] at h
  simp only [afterOf] at h
  split at h
  · rename_i h1
    exact .inr ⟨fun e => by rw [e] at h1; omega, h⟩
  · split at h
    · injection h with h1 h2
      exact .inl ⟨h1, by rw [← h1]; exact h2⟩
    · cases h
theorem after_none {fl : List Fr} {q : Int} {a : Nat} (h : afterOf (fl.drop a) q = []) (ha : a < fl.length) : ((fl.getD a fr0).seq ≤ q ∧ afterOf (fl.drop (a + 1)) q = []) ∨ (q < (fl.getD a fr0).seq ∧ (fl.getD a fr0).seq ≠ q + 1) := by
  rw [dropF fl a ha] at h
  simp only [afterOf] at h
  split at h
  · rename_i h1; exact .inl ⟨h1, h⟩
  · split at h
    · cases h
    · rename_i h1 h2; exact .inr ⟨by omega, h2⟩
theorem after_wf {l : List Fr} (h : FrWf l) (q : Int) : FrWf (afterOf l q) := by
  induction l generalizing q with
  | nil => exact h
  | cons f t ih =>
    have ht : FrWf t := fun x hx => h x (List.mem_cons_of_mem _ hx)
    simp only [afterOf]
    split
    · exact ih ht q
    · split
      · intro x hx
        rcases List.mem_cons.1 hx with rfl | hx
        · exact h _ (List.mem_cons_self ..)
        · exact ih ht _ x hx
      · intro x hx; cases hx
end Go.Proofs.YtlflgflmlfileaaGreat
