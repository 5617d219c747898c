/- Append, canDivide, Trim of both. -/
import Derived.Test.YtcapioiigfldoaaRows
import Derived.Test.YtcapioiigfldoaaAr
namespace Go.Proofs.Ytcapioiigfldoaa
open Go.RowKit
set_option linter.unusedSimpArgs false
set_option linter.unusedVariables false
set_option maxRecDepth 100000 in
theorem exec_fldA {ρ : Operand → Value} {o : Oper} {x : Operand} (b k : Nat) (w : World) (hk : k = 0 ∨ k = 1) (ho : o.op = .fieldAddr 25 x k := by rfl) (hx : ρ x = .pointer (some ⟨b, 0, none⟩) := by rfl) :
    (execOp ρ o).run Try.prog w = .ok (.value (.pointer (some ⟨b, k, none⟩))) w := by
  unfold execOp
  rw [ho]
  rcases hk with rfl | rfl <;> simp [go_sem, hx]
set_option maxRecDepth 100000 in
theorem exec_store2 {ρ : Operand → Value} {o : Oper} {x y : Operand} (b : Nat) (s : ByteArray) (z : Int) (u0 u1 : Value) (w : World) (h0 : w.cell? ⟨b, 0, none⟩ = some u0) (h1 : w.cell? ⟨b, 1, none⟩ = some u1) (z0 : w.frozen? ⟨b, 0, none⟩ = false) (z1 : w.frozen? ⟨b, 1, none⟩ = false)
    (ho : o.op = .store 25 x y := by rfl) (hx : ρ x = .pointer (some ⟨b, 0, none⟩) := by rfl) (hy : ρ y = .agg #[.string s, .int .i64 z] := by rfl) :
    (execOp ρ o).run Try.prog w = .ok .skip ((w.setCell ⟨b, 0, none⟩ (.string s)).setCell ⟨b, 1, none⟩ (.int .i64 z)) := by
  unfold execOp
  rw [ho]
  simp [go_sem, hx, hy, h0, h1, z0, z1]
set_option maxRecDepth 100000 in
theorem exec_build2 {ρ : Operand → Value} {o : Oper} {x y : Operand} (s : ByteArray) (z : Int) (w : World) (ho : o.op = .build 25 #[(0, x), (1, y)] := by rfl) (hx : ρ x = .string s := by rfl) (hy : ρ y = .int .i64 z := by rfl) :
    (execOp ρ o).run Try.prog w = .ok (.value (.agg #[.string s, .int .i64 z])) w := by
  unfold execOp
  rw [ho]
  simp [go_sem, hx, hy]
theorem far2 {w : World} {b c : Nat} {u v : Value} {p q : Option Value} (h : b ≠ c) (h0 : w.cell? ⟨b, 0, none⟩ = p) (h1 : w.cell? ⟨b, 1, none⟩ = q) :
    Hid (((w.setCell ⟨c, 0, none⟩ u).setCell ⟨c, 1, none⟩ v).cell? ⟨b, 0, none⟩ = p ∧ ((w.setCell ⟨c, 0, none⟩ u).setCell ⟨c, 1, none⟩ v).cell? ⟨b, 1, none⟩ = q) := by
  refine ⟨?_, ?_⟩
  · rw [World.cell?_setCell_other _ _ _ _ (by simp <;> omega), World.cell?_setCell_other _ _ _ _ (by simp <;> omega), h0]
  · rw [World.cell?_setCell_other _ _ _ _ (by simp <;> omega), World.cell?_setCell_other _ _ _ _ (by simp <;> omega), h1]
/-- What canDivide tells. -/
def Ar.cut (a : Ar) (n : Int) : Prop := a.fine ∧ 0 ≤ n ∧ n ≤ a.data.size
instance (a : Ar) (n : Int) : Decidable (a.cut n) := by unfold Ar.cut; infer_instance
theorem bx1 (w w2 : World) (v0 v1 : Value) (t : TypeId) (b : Below (w.alloc (.cells #[v0, v1] t)).heap.size (w.alloc (.cells #[v0, v1] t)) w2) :
    w2.cell? ⟨w.heap.size, 0, none⟩ = some v0 ∧ w2.cell? ⟨w.heap.size, 1, none⟩ = some v1 ∧ Below w.heap.size w w2 :=
  ⟨(b.cell (by simp)).trans (by simp [go_sem]), (b.cell (by simp)).trans (by simp [go_sem]), ((Below.refl _ _).alloc (Nat.le_refl _) _).trans (b.mono (by simp))⟩
set_option maxRecDepth 100000 in
theorem canDivide_any (a : Ar) (n : Int) (w : World) (hg : a.go) : Calls Try.prog 57 #[arA a, .int .i64 n] w fun e w' => e = .returned (.bool (decide (a.cut n))) ∧ Below w.heap.size w w' := by
  have C := Lib.hid (fun w => areaOk_impl a w hg)
  unfold arA at *
  by_cases hf : a.fine
  · have hcut : decide (a.cut n) = decide (0 ≤ n ∧ n ≤ a.data.size) := by simp [Ar.cut, hf]
    rw [hcut]
    clear hcut
    simp only [hf, decide_true] at *
    by_cases h1 : 0 ≤ n
    · by_cases h2 : n ≤ a.data.size
      · go_enter Try.func57, Try.ntmps57
        go_wp2_with fail
        refine (C.out _).mono ?_
        rintro e w2 ⟨rfl, b2⟩
        obtain ⟨q0, q1, bW⟩ := bx1 w w2 _ _ _ b2
        go_wp2
        go_ret
        exact ⟨by simp; omega, bW⟩
      · go_enter Try.func57, Try.ntmps57
        go_wp2_with fail
        refine (C.out _).mono ?_
        rintro e w2 ⟨rfl, b2⟩
        obtain ⟨q0, q1, bW⟩ := bx1 w w2 _ _ _ b2
        go_wp2
        go_ret
        exact ⟨by simp; omega, bW⟩
    · go_enter Try.func57, Try.ntmps57
      go_wp2_with fail
      refine (C.out _).mono ?_
      rintro e w2 ⟨rfl, b2⟩
      obtain ⟨q0, q1, bW⟩ := bx1 w w2 _ _ _ b2
      go_wp2
      go_ret
      exact ⟨by simp; omega, bW⟩
  · have hcut : decide (a.cut n) = false := by simp [Ar.cut, hf]
    rw [hcut]
    clear hcut
    simp only [hf, decide_false] at *
    go_enter Try.func57, Try.ntmps57
    go_wp2_with fail
    refine (C.out _).mono ?_
    rintro e w2 ⟨rfl, b2⟩
    obtain ⟨q0, q1, bW⟩ := bx1 w w2 _ _ _ b2
    go_wp2
    go_ret
    exact ⟨rfl, bW⟩
set_option maxRecDepth 100000 in
set_option maxHeartbeats 800000 in
theorem trim_impl (a : Ar) (n : Int) (w : World) (hg : a.go) : Calls Try.prog 45 #[arA a, .int .i64 n] w fun e w' => e = .returned (abV (trimA a n)) ∧ Below w.heap.size w w' := by
  have C := Lib.hid (fun w => canDivide_any a n w hg)
  unfold abV trimA
  change Calls _ _ _ _ fun e w' => e = .returned (.tuple #[arA (if a.cut n then (⟨a.data.extract 0 n.toNat, min a.safe n⟩, true) else (a, false)).1, .bool (if a.cut n then (⟨a.data.extract 0 n.toNat, min a.safe n⟩, true) else (a, false)).2]) ∧ _
  unfold arA at *
  by_cases hf : a.cut n
  · obtain ⟨⟨hl, _, _⟩, h1, h2⟩ := id hf
    simp only [hf, if_true, decide_true] at *
    obtain ⟨m, rfl⟩ : ∃ m : Nat, n = m := ⟨n.toNat, by omega⟩
    have D := Lib.hid (fun w => divided_any a.data m w (by omega) (by omega))
    go_enter Try.func45, Try.ntmps45
    go_wp2_with fail
    refine (C.out _).mono ?_
    rintro e w2 ⟨rfl, b2⟩
    obtain ⟨⟨q0, q1, r0, r1⟩, ⟨z0, z1, y0, y1⟩, bW⟩ := bx2 w w2 _ _ _ _ _ _ b2
    go_wp2_with fail
    refine (D.out _).mono ?_
    rintro e w3 ⟨A, B, x, y, c, d, rfl, k1, k2, b3⟩
    have b23 := b2.trans (b3.mono b2.size)
    clear q0 q1 r0 r1 z0 z1 y0 y1 bW
    obtain ⟨⟨q0, q1, r0, r1⟩, ⟨z0, z1, y0, y1⟩, bW⟩ := bx2 w w3 _ _ _ _ _ _ b23
    clear b2 b3 b23 k2
    obtain ⟨X, hX⟩ : ∃ X, a.data.extract 0 m = X := ⟨_, rfl⟩
    rw [hX] at k1
    have HX := Lib.hid hX
    clear hX
    go_wp2
    all_goals
      simp [bodyPost, results, Try.results45, go_sem, q0, q1, r0, r1]
      exact ⟨⟨HX.out.symm, by omega⟩, ((bW.setCell (by simp) _).setCell (by simp) _)⟩
  · simp only [hf, if_false, decide_false] at *
    go_enter Try.func45, Try.ntmps45
    go_wp2_with fail
    refine (C.out _).mono ?_
    rintro e w2 ⟨rfl, b2⟩
    obtain ⟨⟨q0, q1, r0, r1⟩, ⟨z0, z1, y0, y1⟩, bW⟩ := bx2 w w2 _ _ _ _ _ _ b2
    clear b2
    go_wp2
    simp [bodyPost, results, Try.results45, go_sem, q0, q1, r0, r1]
    exact ((bW.setCell (by simp) _).setCell (by simp) _)
end Go.Proofs.Ytcapioiigfldoaa
