/- Wheels in boxes. -/
import Derived.Test.YtflomkebgiemaaaRows
import Derived.Test.YtflomkebgiemaaaWh4
import Derived.Test.YtflomkebgiemaaaWh3
namespace Go.Proofs.Ytflomkebgiemaaa
open Go.RowKit
set_option linter.unusedSimpArgs false
set_option linter.unusedVariables false
/-- A wheel of the call's own and the box that holds it: all their blocks lie from lo to hi. -/
structure Bx (u : World) (g lo hi : Nat) (A : Option Addr) (c : Nat) (sp : List Sp) : Prop where
  H : u.heap[g]? = some (.cells #[.slice A sp.length c] 26)
  O : OwnW u lo A c sp
  rng : ∀ q, (q = g ∨ InW A sp q) → lo ≤ q ∧ q < hi
theorem Bx.call {u u' : World} {g lo hi : Nat} {A : Option Addr} {c : Nat} {sp : List Sp} (h : Bx u g lo hi A c sp) (b : Below u.heap.size u u') : Bx u' g lo hi A c sp :=
  ⟨blk_call h.H b, h.O.below b, h.rng⟩
theorem Bx.tch {P : Nat → Prop} {u u' : World} {g lo hi : Nat} {A : Option Addr} {c : Nat} {sp : List Sp} (h : Bx u g lo hi A c sp) (t : Tch P u u') (hd : ∀ q, lo ≤ q → q < hi → ¬ P q) : Bx u' g lo hi A c sp :=
  ⟨t.blk h.H (by have := h.rng g (.inl rfl); exact hd g this.1 this.2), t.wheel h.O (fun q hq => by have := h.rng q (.inr hq); exact hd q this.1 this.2), h.rng⟩
theorem Bx.top {u : World} {g lo hi : Nat} {A : Option Addr} {c : Nat} {sp : List Sp} (h : Bx u g lo hi A c sp) : g < u.heap.size := blk_lt h.H
theorem Bx.cell {u : World} {g lo hi : Nat} {A : Option Addr} {c : Nat} {sp : List Sp} (h : Bx u g lo hi A c sp) : u.cell? ⟨g, 0, none⟩ = some (.slice A sp.length c) := cell_of_one h.H
/-- A wheel just returned and laid in a box. -/
theorem Bx.new {u : World} {lo : Nat} {A : Option Addr} {c : Nat} {sp : List Sp} (h : OwnW u lo A c sp) (hl : lo ≤ u.heap.size) : Bx (u.alloc (.cells #[.slice A sp.length c] 26)) u.heap.size lo (u.heap.size + 1) A c sp :=
  ⟨heap_new _ _, h.alloc _, fun q hq => by
    rcases hq with rfl | hq
    · omega
    · have := h.lo q hq; omega⟩
/-- The box does not lie among the wheel's rows. -/
theorem Bx.out {u : World} {g lo hi : Nat} {A : Option Addr} {c : Nat} {sp : List Sp} (h : Bx u g lo hi A c sp) : ¬ InW A sp g := by
  rintro (hg | ⟨s, hs, hg⟩)
  · exact own_ne_type h.O.row h.H (by decide) (by rw [ownBlock_eq]; exact hg)
  · exact own_ne_type (h.O.sp s hs) h.H (by decide) (by rw [ownBlock_eq]; exact hg)
/-- The wheel is marked. -/
theorem Bx.mark {u u' : World} {g lo hi k : Nat} {A : Option Addr} {c : Nat} {sp : List Sp} (h : Bx u g lo hi A c sp) (o : OwnW u' lo A c (marksW k sp)) (t : Tch (InW A sp) u u') : Bx u' g lo hi A c (marksW k sp) :=
  ⟨by rw [marksW_length]; exact t.blk h.H h.out, o, fun q hq => h.rng q (hq.imp id (fun h => (marksW_in A k sp q).1 h))⟩
/-- A store into the box. -/
theorem Bx.put {u : World} {g lo hi : Nat} {A : Option Addr} {c : Nat} {sp : List Sp} {z : Value} (hO : OwnW u lo A c sp) (hg : u.heap[g]? = some (.cells #[z] 26)) (hr : ∀ q, (q = g ∨ InW A sp q) → lo ≤ q ∧ q < hi) : Bx (u.setCell ⟨g, 0, none⟩ (.slice A sp.length c)) g lo hi A c sp := by
  refine ⟨?_, hO.put hg (by decide) (by decide) 0 _, hr⟩
  have := heap_setCell_same u g 0 #[z] 26 (.slice A sp.length c) hg
  simpa using this
set_option maxRecDepth 100000 in
theorem exec_load_lW {ρ : Operand → Value} {o : Oper} {x : Operand} (b : Nat) (B : Option Addr) (n c : Nat) (w : World) (h : w.cell? ⟨b, 0, none⟩ = some (.slice B n c)) (ho : o.op = .load 46 x := by rfl) (hx : ρ x = .pointer (some ⟨b, 0, none⟩) := by rfl) :
    (execOp ρ o).run Try.prog w = .ok (.value (.agg #[.slice B n c])) w := by
  unfold execOp
  rw [ho]
  simp [go_sem, hx, h]
set_option maxRecDepth 100000 in
theorem exec_load_lP {ρ : Operand → Value} {o : Oper} {x : Operand} (b off : Nat) (p : Pn) (w : World) (h : Pn.here w b off p) (ho : o.op = .load 51 x := by rfl) (hx : ρ x = .pointer (some ⟨b, off, none⟩) := by rfl) :
    (execOp ρ o).run Try.prog w = .ok (.value (pnA p)) w := by
  obtain ⟨h0, h1⟩ := h
  unfold execOp
  rw [ho]
  simp [go_sem, hx, h0, h1, pnA]
/-- A wheel in new memory, its spokes apart, and a bool. -/
def NewXB (w : World) (x : List (List Pn) × Bool) (e : Ending) (w' : World) : Prop :=
  ∃ A c sp, e = .returned (.tuple #[.agg #[.slice A sp.length c], .bool x.2]) ∧ sp.map (·.l) = x.1 ∧ OwnW w' w.heap.size A c sp ∧ ApartW sp ∧ Below w.heap.size w w'
/-- The numbers of a wheel are ints. -/
def FitL (ls : List (List Pn)) : Prop := ∀ l ∈ ls, ∀ x ∈ l, x.fits
/-- A wheel is not larger than the law allows. -/
def SzW (ls : List (List Pn)) : Prop := ls.length ≤ 1048577 ∧ ls.flatten.length ≤ 1048575
theorem SzW.of {sp : List Sp} {ls : List (List Pn)} (h : SzW ls) (e : sp.map (fun s => s.l) = ls) : sp.length ≤ 1048577 ∧ (allPn sp).length ≤ 1048575 := by
  have h1 := congrArg List.length e
  simp at h1
  refine ⟨by have := h.1; omega, ?_⟩
  rw [← ls_flat, e]; exact h.2
theorem szV_okq {sp : List Sp} {q : Int} (hq : q ≤ 1048576) (h : 0 ≤ szV q sp) : SzW (sp.map (fun s => s.l)) := by
  unfold szV at h
  by_cases h2 : q - sp.length - (allPn sp).length < 0
  · rw [if_pos h2] at h; omega
  · refine ⟨by simp; omega, ?_⟩
    rw [ls_flat]
    by_cases h0 : sp.length = 0
    · have : sp = [] := List.eq_nil_of_length_eq_zero h0
      subst this; simp [allPn]
    · omega
theorem szV_ok {sp : List Sp} (h : 0 ≤ szV 1048576 sp) : SzW (sp.map (fun s => s.l)) := szV_okq (by omega) h
theorem szV_le {sp : List Sp} {q : Int} (hq : 0 ≤ q) : szV q sp ≤ q := by
  unfold szV; split <;> omega
theorem nine_sz : SzW nineW := by constructor <;> simp [nineW]
theorem dueV_len (ls : List (List Pn)) (now : Int) : (dueV ls now).length ≤ 10 := Nat.le_trans (List.length_filter_le _ _) (pinsW_len ls)
theorem wheelB_sz {ls : List (List Pn)} (h : wheelB ls = true) : SzW ls := by have h2 := wheelB_iff h; exact ⟨by have := h2.1; omega, by have := h2.2.1; omega⟩
theorem putV_sz {ls : List (List Pn)} (p : Pn) (h : SzW ls) : SzW (wheelPutV ls p).1 := by
  unfold wheelPutV
  split
  · split
    · rename_i h2; exact wheelB_sz h2
    · exact h
  · exact h
theorem flat_set_le (ls : List (List Pn)) (k : Nat) (l : List Pn) : (ls.set k l).flatten.length ≤ ls.flatten.length + l.length := by
  induction ls generalizing k with
  | nil => simp
  | cons x r ih =>
    cases k with
    | zero => simp; omega
    | succ k => have := ih k; simp at this ⊢; omega
theorem cutV_sz {ls : List (List Pn)} (p : Pn) (h : SzW ls) : SzW (wheelCutV ls p).1 := by
  unfold wheelCutV
  split
  · rename_i h1
    have h2 := wheelB_iff h1.1
    unfold cutPn
    cases hi : (ls.getD (p.at_.tmod 9).toNat []).findIdx? fun x => decide (x = p) with
    | none => exact h
    | some i =>
      refine ⟨by simp; have := h2.1; omega, ?_⟩
      have h3 := flat_set_le ls (p.at_.tmod 9).toNat ((ls.getD (p.at_.tmod 9).toNat []).take i ++ (ls.getD (p.at_.tmod 9).toNat []).drop (i + 1))
      have h4 : (ls.getD (p.at_.tmod 9).toNat []).length ≤ 10 := by
        rcases Nat.lt_or_ge (p.at_.tmod 9).toNat ls.length with hl | hl
        · have := (List.sublist_flatten_of_mem (getD_mem ls _ [] hl)).length_le
          have := h2.2.1; omega
        · rw [List.getD_eq_getElem?_getD, List.getElem?_eq_none hl]; simp
      have h5 : ((ls.getD (p.at_.tmod 9).toNat []).take i ++ (ls.getD (p.at_.tmod 9).toNat []).drop (i + 1)).length ≤ 10 := by
        rw [List.length_append, List.length_take, List.length_drop]; omega
      have h6 := h2.2.1
      simp only [Option.map_some, Option.getD_some]
      omega
  · exact h
theorem go_sz : ∀ (l : List Pn) (ls : List (List Pn)), SzW ls → SzW (wheelGo l ls).1
  | [], ls, h => h
  | p :: r, ls, h => by
    unfold wheelGo
    split
    · exact go_sz r _ (putV_sz p h)
    · exact ⟨by simp, by simp⟩
theorem ofV_sz (l : List Pn) : SzW (wheelOfV l).1 := go_sz l _ nine_sz
end Go.Proofs.Ytflomkebgiemaaa
