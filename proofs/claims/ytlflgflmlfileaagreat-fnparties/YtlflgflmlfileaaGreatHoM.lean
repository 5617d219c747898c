/- Maps of parties by a number; byPlace of the program. -/
import Derived.Test.YtlflgflmlfileaaGreatRows
import Derived.Test.YtlflgflmlfileaaGreatHoC
import Derived.Maps.OwnSet
import Derived.Maps.OwnOps
import Derived.WalkArith
namespace Go.Proofs.YtlflgflmlfileaaGreat
open Go.RowKit
set_option linter.unusedSimpArgs false
set_option linter.unusedVariables false
/-- How a party in a map reads. -/
def ptR : Value → Option (DataW Pt × List MemPlace)
  | .agg ⟨[.int .i64 a0, .int .i64 a1, .int .i64 a2, .int .i64 a3, .int .i64 a4, .int .i64 a5, .int .i64 a6, .int .i64 a7, .int .i64 a8, .int .i64 a9]⟩ => some (.held ⟨a0, a1, a2, a3, a4, a5, a6, a7, a8, a9⟩, [])
  | _ => none
theorem ptR_mk (p : Pt) : ptR (ptA p) = some (.held p, []) := rfl
theorem ptR_inv {v : Value} {z : DataW Pt × List MemPlace} (h : ptR v = some z) : ∃ p, v = ptA p ∧ z = (.held p, []) := by
  unfold ptR at h
  split at h
  · injection h with h
    exact ⟨_, rfl, h.symm⟩
  · cases h
/-- A map holds the number x where S x, and there the party g x. -/
def MapF (D : DataW Pt) (S : Int → Prop) (g : Int → Pt) : Prop := (∀ x : Int, Maps.has D (.int .i64 x) = true ↔ S x) ∧ ∀ x : Int, S x → ∀ z, D.atKey (.int .i64 x) z = .held (g x)
theorem lit_ne {x y : Int} (h : x ≠ y) : (Lit.int .i64 x) ≠ .int .i64 y := fun e => h (by injection e)
theorem MapF.none : MapF (.map []) (fun _ => False) (fun _ => pt0) := ⟨fun x => by simp [Maps.has], fun x h => h.elim⟩
theorem MapF.put {D : DataW Pt} {S : Int → Prop} {g : Int → Pt} (h : MapF D S g) (hD : Maps.IsMap D) (x : Int) (p : Pt) : MapF (D.put (.int .i64 x) (.held p)) (fun y => y = x ∨ S y) (fun y => if y = x then p else g y) := by
  have hk : WideAt.IsKeyLit (.int .i64 x) := trivial
  refine ⟨fun y => ?_, fun y hy z => ?_⟩
  · by_cases e : y = x
    · subst e
      simp [Maps.has_put_same hD hk]
    · rw [Maps.has_put_other (lit_ne e), h.1 y]
      simp [e]
  · by_cases e : y = x
    · subst e
      rw [Maps.atKey_put_same hD hk]; simp
    · rw [Maps.atKey_put_other (lit_ne e), h.2 y (hy.resolve_left e)]; simp [e]
theorem MapF.del {D : DataW Pt} {S : Int → Prop} {g : Int → Pt} (h : MapF D S g) (x : Int) : MapF (D.del (.int .i64 x)) (fun y => y ≠ x ∧ S y) g := by
  refine ⟨fun y => ?_, fun y hy z => ?_⟩
  · by_cases e : y = x
    · subst e
      simp [Maps.has_del_same]
    · rw [Maps.has_del_other (lit_ne e), h.1 y]
      simp [e]
  · rw [Maps.atKey_del_other (lit_ne hy.1), h.2 y hy.2]
theorem MapF.iff {D : DataW Pt} {S T : Int → Prop} {g f : Int → Pt} (h : MapF D S g) (hS : ∀ x, S x ↔ T x) (hg : ∀ x, T x → g x = f x) : MapF D T f :=
  ⟨fun x => (h.1 x).trans (hS x), fun x hx z => by rw [h.2 x ((hS x).2 hx) z, hg x hx]⟩
set_option maxRecDepth 100000 in
theorem own_map_below {w w' : World} {b n : Nat} {D : DataW Pt} (h : w.ownsMap Tryz.prog 3 ptR b n D) (hb : Below w.heap.size w w') : w'.ownsMap Tryz.prog 3 ptR b n D := by
  obtain ⟨es, clock, h1, F, hs, hD⟩ := h
  exact ⟨es, clock, blk_call h1 hb, F, hs, hD⟩
set_option maxRecDepth 100000 in
theorem keysZ : Maps.Keyed Tryz.prog 3 := Maps.int_keyed Tryz.underlying3
set_option maxRecDepth 100000 in
theorem zeroPt (w : World) : (zeroValue 26).run Tryz.prog w = .ok (ptA pt0) w := by kernel_rfl
set_option maxRecDepth 100000 in
/-- What a map of parties gives at a number that it holds. -/
theorem look_pt {w : World} {b n : Nat} {D : DataW Pt} {S : Int → Prop} {g : Int → Pt} (h : w.ownsMap Tryz.prog 3 ptR b n D) (hF : MapF D S g) (x : Int) (hx : S x) (hw : inI x) :
    (Instr.lookup 45 (.map (some b)) (.int .i64 x) false).run Tryz.prog w = .ok (ptA (g x)) w := by
  obtain ⟨v, ps, hrun, hv⟩ := h.lookup keysZ (t := 45) (e := 26) Tryz.underlying45 (zeroPt w) (ptR_mk pt0) (Maps.keyOf_int_mk Tryz.underlying3 (a := x) (WalkArith.wf_i64 hw))
  rw [hF.2 x hx] at hv
  obtain ⟨p, rfl, hp⟩ := ptR_inv hv
  injection hp with h1 h2
  injection h1 with h1
  rw [hrun, h1]
/-- A new map of parties comes back. -/
def GotM (w : World) (n : Nat) (S : Int → Prop) (g : Int → Pt) (e : Ending) (w' : World) : Prop := ∃ b D, e = .returned (.map (some b)) ∧ w.heap.size ≤ b ∧ w'.ownsMap Tryz.prog 3 ptR b n D ∧ MapF D S g ∧ Below w.heap.size w w'
/-- The places of a list. -/
def isAt (n : Nat) (x : Int) : Prop := 0 ≤ x ∧ x < n
def atP (l : List Pt) (x : Int) : Pt := l.getD x.toNat pt0
set_option maxRecDepth 100000 in
set_option maxHeartbeats 1600000 in
theorem byPlace_im (A : Option Addr) (l : List Pt) (c : Nat) (w : World) (hl : l.length ≤ 2097152) (hA : Rws w w.heap.size A (l.flatMap ptC)) :
    Calls Tryz.prog 16 #[.slice A l.length c] w (GotM w l.length (isAt l.length) (atP l)) := by
  have hmm := @run_makeMap Tryz.prog
  go_enter Tryz.func16, Tryz.ntmps16
  go_wp2
  go_loopw [9] (fun i wr => ∃ k : Nat, k ≤ l.length ∧ i = .int .i64 k ∧ Hid (∃ D, wr.ownsMap Tryz.prog 3 ptR w.heap.size k D ∧ MapF D (isAt k) (atP l)) ∧ Hid (Below w.heap.size w wr)) (fun i _ => l.length - (intOf i).toNat)
  case atStart =>
    refine ⟨0, by omega, rfl, ⟨_, World.ownsMap_made _ _ _ _, ?_⟩, (Below.refl _ _).alloc (Nat.le_refl _) _⟩
    exact MapF.none.iff (fun x => ⟨False.elim, fun h => by unfold isAt at h; omega⟩) (fun x h => by unfold isAt at h; omega)
  case round =>
    obtain ⟨k, hk, rfl, hm, hb⟩ := hrel
    by_cases hlt : k < l.length
    · obtain ⟨D, hown, hF⟩ := hm.out
      have hR := rws_below hA hb.out
      obtain ⟨b, off, rfl, hbB, hx⟩ := hR.pt hlt
      clear hR hm
      have HG : Hid (MapF (D.put (.int .i64 k) (.held (l.getD k pt0))) (isAt (k + 1)) (atP l)) := by
        refine (hF.put hown.isMap k (l.getD k pt0)).iff (fun x => ?_) (fun x hx => ?_)
        · unfold isAt; omega
        · show (if x = (k : Int) then l.getD k pt0 else atP l x) = _
          split
          · next e => subst e; rfl
          · rfl
      clear hF
      generalize l.getD k pt0 = x at *
      obtain ⟨c0, c1, c2, c3, c4, c5, c6, c7, c8, c9⟩ := hx
      have hwf := WalkArith.wf_i64 (n := (k : Int)) (by omega)
      go_wp2_with (at_mapUpdate; refine wpList_mapUpdate_own _ rfl _ _ _ 45 rfl 3 26 keysZ Tryz.underlying45 ptR w.heap.size k D rfl (hown.alloc _) (by unfold maxLen; omega) _ _ (.int .i64 k) rfl rfl (Maps.keyOf_int_mk Tryz.underlying3 hwf) (.held x) [] rfl ?_; intro w1 hown1 hgrow1)
      have B1 := Lib.hid ((hb.out.alloc hb.out.size _).grown hgrow1 (hb.out.alloc hb.out.size _).size (fun j hj => by cases hj; exact Nat.le_refl _))
      have HM : Hid (∃ D, w1.ownsMap Tryz.prog 3 ptR w.heap.size (k + 1) D ∧ MapF D (isAt (k + 1)) (atP l)) := ⟨_, hown1, HG.out⟩
      clear hown1 hgrow1 HG hb hown
      go_wp2
      go_roundw
      case rel => exact ⟨k + 1, by omega, by go_num, HM, B1⟩
      case measure => simp [intOf]; omega
    · obtain rfl : k = l.length := by omega
      obtain ⟨D, hown, hF⟩ := hm.out
      have R : Hid (GotM w l.length (isAt l.length) (atP l) (.returned (.map (some w.heap.size))) wr) := ⟨_, D, rfl, Nat.le_refl _, hown, hF, hb.out⟩
      clear hown hF hm hb
      go_wp2
      go_ret
      exact R.out
end Go.Proofs.YtlflgflmlfileaaGreat
