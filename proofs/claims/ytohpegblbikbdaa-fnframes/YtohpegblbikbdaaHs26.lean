/- Cabins that are stored in l11Right of the model. -/
import Derived.Test.YtohpegblbikbdaaRows
import Derived.Test.YtohpegblbikbdaaHs24
namespace Go.Proofs.Ytohpegblbikbdaa
open Go.RowKit
set_option linter.unusedSimpArgs false
set_option linter.unusedVariables false
theorem Rt.cell {w u : World} {g : Nat} {A : Option Addr} {l : List Nat} {c top g3 g4 : Nat} {RB : Option Addr} {rc : Nat} {r : Ru} {x : Ho} {cs js : List Value} {ts : List Int} {pl : List Pt} (h : Rt w u g A l c top g3 g4 RB rc r x cs js ts pl) {b : Nat} (hb : x.c = some ⟨b, 0, none⟩) (j : Nat) (v : Value) : Rt w (u.setCell ⟨b, j, none⟩ v) g A l c top g3 g4 RB rc r x (cs.set j v) js ts pl := by
  have hob : (Value.slice x.c x.cn x.cc).ownBlock = some b := by rw [hb]; rfl
  obtain ⟨cur, hcur⟩ := own_typed2 h.oC b hob
  have hlo := own_low h.oC b hob
  have lg := h.lg
  obtain ⟨xra, xrc, xr, xnow, xturn, xp, xpn, xpc, xc, xcn, xcc, xt, xtn, xtc, xj, xjn, xjc⟩ := x
  simp only at hb
  subst hb
  exact ⟨(heap_set_ne u b j _ (fun e => by have h1 := h.Z; rw [e, hcur] at h1; injection h1 with h1; injection h1 with _ h2; revert h2; decide)).trans h.Z, (heap_set_ne u b j _ (fun e => by have h1 := h.R; rw [e, hcur] at h1; injection h1 with h1; injection h1 with _ h2; revert h2; decide)).trans h.R, (heap_set_ne u b j _ (fun e => by have h1 := h.H; rw [e, hcur] at h1; injection h1 with h1; injection h1 with _ h2; revert h2; decide)).trans h.H, h.oR.kept (Go.Lib.grownBy_setCell u b j _) (.inr (own_ne_type h.oR hcur (by decide))), h.oA.kept (Go.Lib.grownBy_setCell u b j _) (.inr (own_ne_type h.oA hcur (by decide))), (h.oC.stored j v).1, h.oJ.kept (Go.Lib.grownBy_setCell u b j _) (.inr (own_ne_type h.oJ hcur (by decide))), h.oT.kept (Go.Lib.grownBy_setCell u b j _) (.inr (own_ne_type h.oT hcur (by decide))), h.oP.kept (Go.Lib.grownBy_setCell u b j _) (.inr (own_ne_type h.oP hcur (by decide))), h.boR, h.boA, h.boC, h.boJ, h.boT, h.boP, h.xr, h.xp, h.xt, h.xc, h.cur.setCell b j _ (by omega), grown_setD h.gr b j _ (by omega), h.lg, h.l3, h.l4, h.l5, by rw [World.size_setCell]; exact h.l6⟩
def putCbAt (w : World) (b o : Nat) (y : Cb) : World := (((((((w.setCell ⟨b, o, none⟩ (.int .i64 y.le.total)).setCell ⟨b, o + 1, none⟩ (.int .i64 y.le.free)).setCell ⟨b, o + 2, none⟩ (.int .i64 y.le.held)).setCell ⟨b, o + 3, none⟩ (.int .i64 y.le.sold)).setCell ⟨b, o + 4, none⟩ (.int .i64 y.le.tied)).setCell ⟨b, o + 5, none⟩ (.slice y.q y.qn y.qc)).setCell ⟨b, o + 6, none⟩ (.slice y.p y.pn y.pc))
theorem Rt.cabin {w u : World} {g : Nat} {A : Option Addr} {l : List Nat} {c top g3 g4 : Nat} {RB : Option Addr} {rc : Nat} {r : Ru} {x : Ho} {cs js : List Value} {ts : List Int} {pl : List Pt} (h : Rt w u g A l c top g3 g4 RB rc r x cs js ts pl) {b : Nat} (hb : x.c = some ⟨b, 0, none⟩) (o : Nat) (y : Cb) : ∃ cs2, Rt w (putCbAt u b o y) g A l c top g3 g4 RB rc r x cs2 js ts pl := by
  unfold putCbAt
  exact ⟨_, (((((((h.cell hb (o) (.int .i64 y.le.total)).cell hb (o + 1) (.int .i64 y.le.free)).cell hb (o + 2) (.int .i64 y.le.held)).cell hb (o + 3) (.int .i64 y.le.sold)).cell hb (o + 4) (.int .i64 y.le.tied)).cell hb (o + 5) (.slice y.q y.qn y.qc)).cell hb (o + 6) (.slice y.p y.pn y.pc))⟩
set_option maxRecDepth 100000 in
theorem exec_store_cbAt {ρ : Operand → Value} {o : Oper} {x y : Operand} (b off : Nat) (c : Cb) (w : World) (h : ∀ j, j < 7 → ∃ u, w.cell? ⟨b, off + j, none⟩ = some u) (hz : ∀ j, w.frozen? ⟨b, j, none⟩ = false) (ho : o.op = .store 89 x y := by rfl) (hx : ρ x = .pointer (some ⟨b, off, none⟩) := by rfl) (hy : ρ y = cbA c := by rfl) :
    (execOp ρ o).run Try.prog w = .ok .skip (putCbAt w b off c) := by
  obtain ⟨u0, c0⟩ := h 0 (by omega)
  have z0 := hz (off + 0)
  obtain ⟨u1, c1⟩ := h 1 (by omega)
  have z1 := hz (off + 1)
  obtain ⟨u2, c2⟩ := h 2 (by omega)
  have z2 := hz (off + 2)
  obtain ⟨u3, c3⟩ := h 3 (by omega)
  have z3 := hz (off + 3)
  obtain ⟨u4, c4⟩ := h 4 (by omega)
  have z4 := hz (off + 4)
  obtain ⟨u5, c5⟩ := h 5 (by omega)
  have z5 := hz (off + 5)
  obtain ⟨u6, c6⟩ := h 6 (by omega)
  have z6 := hz (off + 6)
  simp at c0 z0
  unfold execOp
  rw [ho]
  simp [go_sem, hx, hy, cbA, c0, c1, c2, c3, c4, c5, c6, z0, z1, z2, z3, z4, z5, z6, putCbAt]
set_option maxRecDepth 100000 in
theorem exec_idxCab {ρ : Operand → Value} {o : Oper} {x y : Operand} (b off n c k : Nat) (w : World) (h : k < n) (ho : o.op = .indexAddr 50 x y := by rfl) (hx : ρ x = .slice (some ⟨b, off, none⟩) n c := by rfl) (hy : ρ y = .int .i64 (k : Int) := by rfl) :
    (execOp ρ o).run Try.prog w = .ok (.value (.pointer (some ⟨b, off + k * 7, none⟩))) w := by
  have h1 : (k : Int) < (n : Int) := by omega
  unfold execOp
  rw [ho]
  simp [go_sem, hx, hy, h]
end Go.Proofs.Ytohpegblbikbdaa
