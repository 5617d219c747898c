/- Rows of cells; rows of frames. -/
import Derived.Test.YtcapioiigfldoaaRows
import Derived.Test.YtcapioiigfldoaaFrLaw
namespace Go.Proofs.Ytcapioiigfldoaa
open Go.RowKit
set_option linter.unusedSimpArgs false
set_option linter.unusedVariables false
/-- The slice at A reads as the cells cs, and lies below block B. -/
def Rws (w : World) (B : Nat) (A : Option Addr) (cs : List Value) : Prop :=
  cs = [] ∨ ∃ b off, A = some ⟨b, off, none⟩ ∧ b < B ∧ ∀ k, k < cs.length → w.cell? ⟨b, off + k, none⟩ = cs[k]?
theorem Rws.below {w w' : World} {B : Nat} {A : Option Addr} {cs : List Value} (h : Rws w B A cs) (hb : Below B w w') : Rws w' B A cs := by
  rcases h with h | ⟨b, off, e, hlt, hc⟩
  · exact .inl h
  · exact .inr ⟨b, off, e, hlt, fun k hk => (hb.cell (by exact hlt)).trans (hc k hk)⟩
theorem Rws.more {w : World} {B B' : Nat} {A : Option Addr} {cs : List Value} (h : Rws w B A cs) (hB : B ≤ B') : Rws w B' A cs := by
  rcases h with h | ⟨b, off, e, hlt, hc⟩
  · exact .inl h
  · exact .inr ⟨b, off, e, by omega, hc⟩
theorem Rws.drewN {w : World} {B : Nat} {A : Option Addr} {cs : List Value} (h : Rws w B A cs) (n : Nat) : Rws (w.drewN n) B A cs := h
theorem own_rws {w : World} {base e sz n m c : Nat} {A : Option Addr} {cs : List Value} (h : w.ownsRow base e sz (.slice A n c) m cs) : Rws w w.heap.size A cs := by
  rcases h.2 with ⟨_, hn⟩ | ⟨g, cap, cur, hv, hb, hg, hnc, hm, hs, ht⟩
  · left
    have := h.1
    rw [hn, Nat.zero_mul] at this
    exact List.eq_nil_of_length_eq_zero this
  · injection hv with h1 h2 h3
    subst h1 h2 h3
    refine .inr ⟨g, 0, rfl, (Array.getElem?_eq_some_iff.1 hg).1, fun k hk => ?_⟩
    rw [Nat.zero_add]
    exact World.ownsRow.cellAt (g := g) (cap := c) h k (by have := h.1; omega)
theorem own_form {w : World} {base e sz n : Nat} {v : Value} {cs : List Value} (h : w.ownsRow base e sz v n cs) :
    ∃ A cap, v = .slice A n cap ∧ n ≤ cap ∧ (A = none → cap = 0) ∧ (0 < n → ∃ g, A = some ⟨g, 0, none⟩ ∧ base ≤ g) := by
  rcases h.2 with ⟨hv, hn⟩ | ⟨g, cap, cur, hv, hb, hg, hnc, hm, hs, ht⟩
  · exact ⟨none, 0, by rw [hv, hn], by omega, fun _ => rfl, fun h => by omega⟩
  · exact ⟨some ⟨g, 0, none⟩, cap, hv, hnc, (fun h => by cases h), (fun _ => ⟨g, rfl, hb⟩)⟩
theorem own_below {w w' : World} {base e sz n : Nat} {v : Value} {cs : List Value} (h : w.ownsRow base e sz v n cs) (hb : Below w.heap.size w w') : w'.ownsRow base e sz v n cs := by
  refine ⟨h.1, ?_⟩
  rcases h.2 with h2 | ⟨g, cap, cur, hv, hg, hh, r⟩
  · exact .inl h2
  · exact .inr ⟨g, cap, cur, hv, hg, by rw [hb.block g (Array.getElem?_eq_some_iff.1 hh).1]; exact hh, r⟩
theorem own_low {w : World} {base e sz n : Nat} {v : Value} {cs : List Value} (h : w.ownsRow base e sz v n cs) : ∀ k, v.ownBlock = some k → base ≤ k := fun k hk => (World.ownsRow.lt h k hk).1
/-- What a new slice is, as a function returns it. -/
def NewR (e sz : Nat) (w : World) (n : Nat) (cs : List Value) (en : Ending) (w' : World) : Prop :=
  ∃ A c, en = .returned (.slice A n c) ∧ w'.ownsRow w.heap.size e sz (.slice A n c) n cs ∧ Below w.heap.size w w'
theorem NewR.of_own {e sz : Nat} {w w' : World} {n : Nat} {cs : List Value} {v : Value} (h : w'.ownsRow w.heap.size e sz v n cs) (hb : Below w.heap.size w w') : NewR e sz w n cs (.returned v) w' := by
  obtain ⟨A, c, rfl, _, _⟩ := own_form h
  exact ⟨A, c, rfl, h, hb⟩
theorem own_empty (w : World) (base e sz : Nat) (h : base ≤ w.heap.size) : (w.alloc (.cells #[] e)).ownsRow base e sz (.slice (some ⟨w.heap.size, 0, none⟩) 0 0) 0 [] :=
  ⟨by simp, .inr ⟨_, _, _, rfl, h, heap_alloc_new _ _, Nat.le_refl _, by simp, by simp, by simp⟩⟩
theorem flat_len {α : Type} (enc : α → List Value) (sz : Nat) (h : ∀ x, (enc x).length = sz) (l : List α) : (l.flatMap enc).length = l.length * sz := by
  induction l with
  | nil => simp
  | cons x l ih => rw [List.flatMap_cons, List.length_append, h, ih, List.length_cons, Nat.succ_mul]; omega
theorem flat_get {α : Type} (enc : α → List Value) (sz : Nat) (h : ∀ x, (enc x).length = sz) (l : List α) (i f : Nat) (d : α) (hi : i < l.length) (hf : f < sz) : (l.flatMap enc)[i * sz + f]? = (enc (l.getD i d))[f]? := by
  induction l generalizing i with
  | nil => simp at hi
  | cons x l ih =>
    rw [List.flatMap_cons]
    cases i with
    | zero => rw [Nat.zero_mul, Nat.zero_add, List.getElem?_append_left (by rw [h]; exact hf)]; rfl
    | succ i =>
      rw [List.getElem?_append_right (by rw [h, Nat.succ_mul]; omega), h, show (i + 1) * sz + f - sz = i * sz + f by rw [Nat.succ_mul]; omega]
      rw [ih i (by simpa using hi)]
      rfl
/-- The cells of element i. -/
theorem Rws.el {α : Type} {enc : α → List Value} {sz : Nat} (h1 : ∀ x, (enc x).length = sz) {w : World} {B : Nat} {A : Option Addr} {l : List α} (h : Rws w B A (l.flatMap enc)) (hs : 0 < sz) {i : Nat} (d : α) (hi : i < l.length) :
    ∃ b off, A = some ⟨b, off, none⟩ ∧ b < B ∧ ∀ f, f < sz → w.cell? ⟨b, off + i * sz + f, none⟩ = (enc (l.getD i d))[f]? := by
  have hl := flat_len enc sz h1 l
  have hm : i * sz + sz ≤ l.length * sz := by rw [← Nat.succ_mul]; exact Nat.mul_le_mul_right _ hi
  rcases h with h | ⟨b, off, e, hb, hc⟩
  · rw [h] at hl; simp only [List.length_nil] at hl; omega
  · refine ⟨b, off, e, hb, fun f hf => ?_⟩
    rw [Nat.add_assoc, hc _ (by rw [hl]; omega), flat_get enc sz h1 l i f d hi hf]
/-- A frame, as Go holds it. -/
structure Fr where
  seq : Int
  body : ByteArray
  next : Int
/-- Its cells. -/
def frC (f : Fr) : List Value := [.int .i64 f.seq, .string f.body, .int .i64 f.next]
def frA (f : Fr) : Value := .agg #[.int .i64 f.seq, .string f.body, .int .i64 f.next]
def fr0 : Fr := ⟨0, ⟨#[]⟩, 0⟩
theorem frC_len (f : Fr) : (frC f).length = 3 := rfl
theorem Rws.fr {w : World} {B : Nat} {A : Option Addr} {l : List Fr} (h : Rws w B A (l.flatMap frC)) {i : Nat} (hi : i < l.length) :
    ∃ b off, A = some ⟨b, off, none⟩ ∧ b < B ∧ w.cell? ⟨b, off + i * 3, none⟩ = some (.int .i64 (l.getD i fr0).seq) ∧ w.cell? ⟨b, off + i * 3 + 1, none⟩ = some (.string (l.getD i fr0).body) ∧ w.cell? ⟨b, off + i * 3 + 2, none⟩ = some (.int .i64 (l.getD i fr0).next) := by
  obtain ⟨b, off, e, hb, hc⟩ := Rws.el frC_len h (by omega) fr0 hi
  exact ⟨b, off, e, hb, hc 0 (by omega), hc 1 (by omega), hc 2 (by omega)⟩
theorem keep3 {w w' : World} {b off : Nat} {p q r : Option Value} (hb : Below w.heap.size w w') (h : b < w.heap.size) (c : w.cell? ⟨b, off, none⟩ = p ∧ w.cell? ⟨b, off + 1, none⟩ = q ∧ w.cell? ⟨b, off + 2, none⟩ = r) :
    w'.cell? ⟨b, off, none⟩ = p ∧ w'.cell? ⟨b, off + 1, none⟩ = q ∧ w'.cell? ⟨b, off + 2, none⟩ = r :=
  ⟨(hb.cell (by exact h)).trans c.1, (hb.cell (by exact h)).trans c.2.1, (hb.cell (by exact h)).trans c.2.2⟩
theorem keep6 {w w' : World} {b off b' off' : Nat} {p q r p' q' r' : Option Value} (hb : Below w.heap.size w w') (h : b < w.heap.size) (h' : b' < w.heap.size) (c : w.cell? ⟨b, off, none⟩ = p ∧ w.cell? ⟨b, off + 1, none⟩ = q ∧ w.cell? ⟨b, off + 2, none⟩ = r)
    (c' : w.cell? ⟨b', off', none⟩ = p' ∧ w.cell? ⟨b', off' + 1, none⟩ = q' ∧ w.cell? ⟨b', off' + 2, none⟩ = r') :
    (w'.cell? ⟨b, off, none⟩ = p ∧ w'.cell? ⟨b, off + 1, none⟩ = q ∧ w'.cell? ⟨b, off + 2, none⟩ = r) ∧ (w'.cell? ⟨b', off', none⟩ = p' ∧ w'.cell? ⟨b', off' + 1, none⟩ = q' ∧ w'.cell? ⟨b', off' + 2, none⟩ = r') :=
  ⟨keep3 hb h c, keep3 hb h' c'⟩
end Go.Proofs.Ytcapioiigfldoaa
