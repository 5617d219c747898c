/- What the drawing functions hand out. -/
import Derived.Test.YtcapioiigfldoaaRows
import Derived.Test.YtcapioiigfldoaaAftL
namespace Go.Proofs.Ytcapioiigfldoaa
open Go.RowKit
set_option linter.unusedSimpArgs false
set_option linter.unusedVariables false
theorem Cur.grown {w w' : World} {g : Nat} {A : Option Addr} {l : List Nat} {c : Nat} {row : Option Nat} (h : Cur w g A l c) (gr : w.grownBy w' row) (hr : ∀ k, row = some k → g < k) : Cur w' g A l c :=
  h.below (B := g + 1) ((Below.refl _ _).grown gr (by have := h.lt; omega) (fun k hk => hr k hk)) (by omega)
theorem Cur.alloc {w : World} {g : Nat} {A : Option Addr} {l : List Nat} {c : Nat} (h : Cur w g A l c) (o : Obj) : Cur (w.alloc o) g A l c := h.grown (World.grownBy_alloc w o none) (fun k hk => by cases hk)
theorem Cur.mem {w w' : World} {g : Nat} {A : Option Addr} {l : List Nat} {c : Nat} (h : Cur w g A l c) (b : Below w.heap.size w w') : Cur w' g A l c := h.below b h.lt
/-- Behind the cursor's own writes what is owned above it stays. -/
theorem own_cur {w w' : World} {e sz n B g : Nat} {v : Value} {cs : List Value} (h : w.ownsRow B e sz v n cs) (gr : w.grownBy w' (some g)) (hg : g < B) : w'.ownsRow B e sz v n cs := by
  refine h.kept gr ?_
  rcases hv : v.ownBlock with _ | k
  · exact .inl rfl
  · refine .inr fun e => ?_
    have h1 := (World.ownsRow.lt h k hv).1
    injection e with e
    omega
theorem grown_step {a b c : World} {g : Nat} {row : Option Nat} (h : a.grownBy b (some g)) (k : b.grownBy c row) (hr : ∀ j, row = some j → a.heap.size ≤ j) : a.grownBy c (some g) :=
  h.andThen k (fun j hj => .inl (hr j hj))
theorem grown_below {a b c : World} {g : Nat} (h : a.grownBy b (some g)) (k : Below b.heap.size b c) : a.grownBy c (some g) := h.trans (grown_of_below k _)
theorem below_grown {w w' : World} {g B : Nat} (h : w.grownBy w' (some g)) (hB : B ≤ g) (hs : B ≤ w.heap.size) : Below B w w' := (Below.refl _ _).grown h hs (fun k hk => by injection hk with hk; omega)
def GotBool (w : World) (g : Nat) (A : Option Addr) (l : List Nat) (c : Nat) (e : Ending) (w' : World) : Prop :=
  ∃ b : Bool, e = .returned (.bool b) ∧ Cur w' g A l c ∧ w.grownBy w' (some g)
set_option maxRecDepth 100000 in
theorem l1Once_any (A : Option Addr) (l : List Nat) (c g n : Nat) (w : World) (hl : l.length ≤ 2097152) (hb : AllB l) (hn : 0 < n) (hn2 : n ≤ 2147483648) (hc : Cur w g A l c) :
    Calls Try.prog 56 #[.pointer (some ⟨g, 0, none⟩), .int .i64 n] w (GotBool w g A l c) := by
  go_enter Try.func56, Try.ntmps56
  go_wp2_with fail
  refine (l1Below_any A l c g n _ hl hb hn hn2 hc).mono ?_
  rintro e w1 ⟨x, hx, rfl, hc1, gr1⟩
  go_wp2
  go_ret
  exact ⟨_, rfl, hc1, gr1⟩
def GotBytes (w : World) (g : Nat) (A : Option Addr) (l : List Nat) (c n : Nat) (e : Ending) (w' : World) : Prop :=
  ∃ (bs : List Nat) (B : Option Addr) (cb : Nat), bs.length = n ∧ AllB bs ∧ e = .returned (.slice B n cb) ∧ OwnB w' w.heap.size (.slice B n cb) bs ∧ Cur w' g A l c ∧ w.grownBy w' (some g)
set_option maxRecDepth 100000 in
set_option maxHeartbeats 400000 in
theorem l1Bytes_any (A : Option Addr) (l : List Nat) (c g n : Nat) (w : World) (hl : l.length ≤ 2097152) (hb : AllB l) (hn : n ≤ 2097152) (hc : Cur w g A l c) :
    Calls Try.prog 64 #[.pointer (some ⟨g, 0, none⟩), .int .i64 n] w (GotBytes w g A l c n) := by
  have hgw := hc.lt
  go_enter Try.func64, Try.ntmps64
  go_wp2
  go_loopw [5, 6] (fun v i wr => ∃ (k : Nat) (bs : List Nat), k ≤ n ∧ i = .int .i64 k ∧ bs.length = k ∧ AllB bs ∧ OwnB wr w.heap.size v bs ∧ Cur wr g A l c ∧ w.grownBy wr (some g)) (fun _ i _ => n - (intOf i).toNat)
  case atStart => exact ⟨0, [], by omega, rfl, rfl, (fun b hb => by cases hb), Own_new w _ [] (Nat.le_refl _) (by simp), hc.alloc _, World.grownBy_alloc _ _ _⟩
  case round =>
    obtain ⟨k, bs, hk, rfl, hbl, hba, hown, hcr, hgr⟩ := hrel
    have hgs := hgr.size
    by_cases hlt : k < n
    · go_wp2_with fail
      refine (l1Byte_any A l c g _ hl hb hcr).mono ?_
      rintro e w1 ⟨x, hx, rfl, hc1, gr1⟩
      have own1 : OwnB w1 w.heap.size u5 bs := own_cur hown gr1 hgw
      have hg1 := hgr.trans gr1
      have hs1 := hg1.size
      clear hown hcr hgr gr1
      go_wp2_with (at_builtin; refine wpList_appB _ rfl (.tmp 13) (.tmp 17) rfl w.heap.size _ bs rfl (own_alloc own1 _) w1.heap.size 0 1 [x] 1 rfl rfl (one_new _ _ _ rfl) (by simp; omega) (by simp; omega) ?_)
      intro v' w2 o2 g2 _
      have hr2 : ∀ j, Value.ownBlock u5 = some j → w.heap.size ≤ j := own_lo own1
      have R : Hid (AllB (bs ++ [x]) ∧ Cur w2 g A l c ∧ w.grownBy w2 (some g)) :=
        ⟨AllB.append hba (fun b hb => by simp at hb; omega), (hc1.alloc _).grown g2 (fun j hj => by have := hr2 j hj; omega), grown_step (grown_step hg1 (World.grownBy_alloc _ _ none) (fun j hj => by cases hj)) g2 hr2⟩
      clear own1 g2 hc1 hg1
      go_wp2
      go_roundw
      case rel => exact ⟨k + 1, bs ++ [x], by omega, by go_num, by simp; omega, R.out.1, o2, R.out.2.1, R.out.2.2⟩
      case measure => simp [intOf]; omega
    · obtain rfl : k = n := by omega
      obtain ⟨B, cb, hv, _, _⟩ := OwnB.form hown
      rw [hbl] at hv
      have R : Hid (GotBytes w g A l c k (.returned u5) wr) := ⟨bs, B, cb, hbl, hba, by rw [hv], by rw [← hv]; exact hown, hcr, hgr⟩
      clear hown hcr hgr hv
      go_wp2
      go_ret
      exact R.out
/-- One of those that may come up yields v. -/
theorem ready_op {P : Program} {md : Region.Mode} {ops : Array Oper} {Q : Exit → Act → World → Prop} {S : World → Prop} {fuel : Nat} {listed : Array Bool} {a : Act} {w w' : World} (i d : Nat) (v : Value) {oi : Oper} {rs : List Nat}
    (hi : ops[i]? = some oi) (hd : oi.dst = some d) (hw : Region.wanted oi (yielded ops a.tmps) = true)
    (he : (execOp a.eval oi).run P w = .ok (.value v) w') (hS : S w')
    (h : wpAnyH P md ops Q S fuel (listed.setIfInBounds i true) (a.put (some d) v) w') (hrs : AllReadyH P md ops Q S fuel listed a w rs) : AllReadyH P md ops Q S fuel listed a w (i :: rs) := by
  refine AllReadyH.cons hi (fun K hK => ?_) hrs
  rw [if_pos hw]
  unfold Oper.wp
  rw [he, Oper.upon_value, hd]
  exact hK.out _ _ hS (fun _ => h)
/-- One of those that may come up is a call. -/
theorem ready_call {P : Program} {md : Region.Mode} {ops : Array Oper} {Q : Exit → Act → World → Prop} {S : World → Prop} {fuel : Nat} {listed : Array Bool} {a : Act} {w : World} (i d : Nat) (f : FuncId) (args : Array Value) {oi : Oper} {rs : List Nat}
    (hi : ops[i]? = some oi) (hd : oi.dst = some d) (hw : Region.wanted oi (yielded ops a.tmps) = true)
    (he : (execOp a.eval oi).run P w = .ok (.enter f args) w)
    (h : Calls P f args w fun e w' => ∃ v, e = .returned v ∧ S w' ∧ wpAnyH P md ops Q S fuel (listed.setIfInBounds i true) (a.put (some d) v) w') (hrs : AllReadyH P md ops Q S fuel listed a w rs) : AllReadyH P md ops Q S fuel listed a w (i :: rs) := by
  refine AllReadyH.cons hi (fun K hK => ?_) hrs
  rw [if_pos hw]
  unfold Oper.wp
  rw [he, Oper.upon_enter]
  refine h.mono ?_
  rintro e w' ⟨v, rfl, hS, hh⟩
  rw [hd]
  exact hK.out _ _ hS (fun _ => hh)
/-- The one operation that may come up stores. -/
theorem held_store {P : Program} {md : Region.Mode} {ops : Array Oper} {Q : Exit → Act → World → Prop} {S : World → Prop} {fuel : Nat} {listed : Array Bool} {a : Act} {w w' : World} (i : Nat) {oi : Oper}
    (hi : ops[i]? = some oi) (hd : oi.dst = none) (hr : Region.ready md ops listed = [i]) (hw : Region.wanted oi (yielded ops a.tmps) = true)
    (he : (execOp a.eval oi).run P w = .ok .skip w') (hS : S w')
    (h : wpAnyH P md ops Q S fuel (listed.setIfInBounds i true) a w') : wpAnyH P md ops Q S (fuel + 1) listed a w := by
  refine wpAnyH_ready hr (by simp) (AllReadyH.cons hi (fun K hK => ?_) AllReadyH.nil)
  rw [if_pos hw]
  unfold Oper.wp
  rw [he, Oper.upon_skip, hd]
  exact hK.out _ _ hS (fun _ => h)
set_option maxRecDepth 100000 in
/-- []byte(s), with what a store into it wants. -/
theorem bytes_new (w : World) (s : ByteArray) : ∃ (c : Nat) (w' : World), (convert 9 22 (.string s)).run Try.prog w = .ok (.slice (some ⟨w.heap.size, 0, none⟩) s.size c) w' ∧
    (∀ k, k < (strN s).length → w'.cell? ⟨w.heap.size, 0 + k, none⟩ = some (.int .u8 (((strN s).getD k 0 : Nat) : Int))) ∧ (∀ k, k < s.size → w'.frozen? ⟨w.heap.size, k, none⟩ = false) ∧ s.size ≤ c ∧ w'.heap.size = w.heap.size + 1 ∧ Below w.heap.size w w' := by
  refine ⟨_, _, run_bytes_of_string (P := Try.prog) w 9 22 5 s Try.underlying9 Try.underlying22 Try.underlying5, row_cells w.drew s _ _, ?_, grownCap_ge _ _ _ _, by simp, ?_⟩
  · intro k hk
    have h1 : s.size ≤ (bytesRow s (grownCap w s.size 0 5)).size := by unfold bytesRow; simp
    have h2 := heap_alloc_new w.drew (.cells (bytesRow s (grownCap w s.size 0 5)) 5 ((bytesRow s (grownCap w s.size 0 5)).size, (bytesRow s (grownCap w s.size 0 5)).size + 1))
    unfold World.frozen?
    simp only
    rw [show w.heap.size = w.drew.heap.size from rfl, h2]
    simp only [Bool.and_eq_false_iff, decide_eq_false_iff_not]
    left
    omega
  · exact ((Below.refl _ _).drew).alloc (Nat.le_refl _) _
set_option maxRecDepth 100000 in
theorem exec_idxB {ρ : Operand → Value} {o : Oper} {x y : Operand} (b off n c k : Nat) (w : World) (h : k < n) (ho : o.op = .indexAddr 22 x y := by rfl) (hx : ρ x = .slice (some ⟨b, off, none⟩) n c := by rfl) (hy : ρ y = .int .i64 (k : Int) := by rfl) :
    (execOp ρ o).run Try.prog w = .ok (.value (.pointer (some ⟨b, off + k, none⟩))) w := by
  have h1 : (k : Int) < (n : Int) := by omega
  unfold execOp
  rw [ho]
  simp [go_sem, hx, hy, h]
set_option maxRecDepth 100000 in
theorem exec_load1 {ρ : Operand → Value} {o : Oper} {x : Operand} (t : TypeId) (b off : Nat) (v : Value) (w : World) (ht : t = 3 ∨ t = 4 ∨ t = 5 ∨ t = 9) (h : w.cell? ⟨b, off, none⟩ = some v) (ho : o.op = .load t x := by rfl) (hx : ρ x = .pointer (some ⟨b, off, none⟩) := by rfl) :
    (execOp ρ o).run Try.prog w = .ok (.value v) w := by
  unfold execOp
  rw [ho]
  rcases ht with rfl | rfl | rfl | rfl <;> simp [go_sem, hx, h]
set_option maxRecDepth 100000 in
theorem exec_u8 {ρ : Operand → Value} {o : Oper} {x : Operand} (z : Int) (w : World) (h1 : 0 ≤ z) (h2 : z < 256) (ho : o.op = .convert 3 5 x := by rfl) (hx : ρ x = .int .i64 z := by rfl) :
    (execOp ρ o).run Try.prog w = .ok (.value (.int .u8 z)) w := by
  unfold execOp
  rw [ho]
  have h3 : IntKind.u8.wrap z = z := by rw [IntKind.wrap_u8]; exact Int.emod_eq_of_lt h1 h2
  simp [go_sem, hx, h3]
set_option maxRecDepth 100000 in
theorem exec_xorU {ρ : Operand → Value} {o : Oper} {x y : Operand} (X Y : Int) (w : World) (ho : o.op = .binOp .xor 5 x y 5 := by rfl) (hx : ρ x = .int .u8 X := by rfl) (hy : ρ y = .int .u8 Y := by rfl) :
    (execOp ρ o).run Try.prog w = .ok (.value (.int .u8 (bits .xor .u8 X Y))) w := by
  unfold execOp
  rw [ho]
  simp [go_sem, hx, hy]
set_option maxRecDepth 100000 in
theorem exec_storeI {ρ : Operand → Value} {o : Oper} {x y : Operand} (t : TypeId) (b off : Nat) (k : IntKind) (z : Int) (u : Value) (w : World) (ht : t = 3 ∨ t = 5) (h : w.cell? ⟨b, off, none⟩ = some u) (hz : w.frozen? ⟨b, off, none⟩ = false) (ho : o.op = .store t x y := by rfl) (hx : ρ x = .pointer (some ⟨b, off, none⟩) := by rfl) (hy : ρ y = .int k z := by rfl) :
    (execOp ρ o).run Try.prog w = .ok .skip (w.setCell ⟨b, off, none⟩ (.int k z)) := by
  unfold execOp
  rw [ho]
  rcases ht with rfl | rfl <;> simp [go_sem, hx, hy, h, hz]
set_option maxRecDepth 100000 in
theorem exec_lssI {ρ : Operand → Value} {o : Oper} {x y : Operand} (X Y : Int) (d : Bool) (w : World) (hd : decide (X < Y) = d) (ho : o.op = .binOp .lss 3 x y 3 := by rfl) (hx : ρ x = .int .i64 X := by rfl) (hy : ρ y = .int .i64 Y := by rfl) :
    (execOp ρ o).run Try.prog w = .ok (.value (.bool d)) w := by
  subst hd
  unfold execOp
  rw [ho]
  simp [go_sem, hx, hy]
end Go.Proofs.Ytcapioiigfldoaa
