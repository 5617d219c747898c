/- Mathematics of wheels. -/
import Derived.Test.YtlflgflmlfileaaGreatRows
import Derived.Test.YtlflgflmlfileaaGreatG9
namespace Go.Proofs.YtlflgflmlfileaaGreat
open Go.RowKit
set_option linter.unusedSimpArgs false
set_option linter.unusedVariables false
theorem pnPut_mem {l : List Pn} {x f : Pn} (h : f ∈ pnPut l x) : f ∈ l ∨ f = x := by
  unfold pnPut insP at h
  rcases List.mem_append.1 h with h | h
  · exact .inl ((List.takeWhile_sublist _).mem h)
  · rcases List.mem_cons.1 h with h | h
    · exact .inr h
    · exact .inl ((List.dropWhile_sublist _).mem h)
theorem putV_fits {ls : List (List Pn)} {p : Pn} (h : FitL ls) (hp : p.fits) : FitL (wheelPutV ls p).1 := by
  unfold wheelPutV
  split
  · split
    · intro l hl x hx
      rcases List.mem_or_eq_of_mem_set hl with hm | rfl
      · exact h l hm x hx
      · rcases pnPut_mem hx with hm | rfl
        · rcases Nat.lt_or_ge (p.at_.tmod 9).toNat ls.length with hk | hk
          · exact h _ (getD_mem ls _ [] hk) x hm
          · rw [List.getD_eq_getElem?_getD, List.getElem?_eq_none hk] at hm; simp at hm
        · exact hp
    · exact h
  · exact h
theorem flat_set_eq (ls : List (List Pn)) (k : Nat) (m : List Pn) (h : k < ls.length) : (ls.set k m).flatten.length + (ls.getD k []).length = ls.flatten.length + m.length := by
  induction ls generalizing k with
  | nil => simp at h
  | cons x r ih =>
    cases k with
    | zero => simp; omega
    | succ k =>
      have := ih k (by simpa using h)
      simp at this ⊢
      omega
theorem set_back (ls : List (List Pn)) (k : Nat) (m : List Pn) (h : k < ls.length) : (ls.set k m).set k (ls.getD k []) = ls := by
  rw [List.set_set]
  apply List.ext_getElem
  · simp
  · intro i h1 h2
    rw [List.getElem_set]
    by_cases e : k = i
    · subst e; simp [List.getD_eq_getElem?_getD, h]
    · simp [e]
theorem set_getD (ls : List (List Pn)) (k : Nat) (m : List Pn) (h : k < ls.length) : (ls.set k m).getD k [] = m := by
  simp [List.getD_eq_getElem?_getD, h]
/-- No two pins of a wheel bear one number. -/
def Distinct (l : List Pn) : Prop := l.Pairwise (fun a b => a.id ≠ b.id)
theorem pnsOk_iff (q : List Pn) : pnsOk q q.length ↔ (∀ x ∈ q, x.inn) ∧ Distinct q := by
  unfold pnsOk Distinct
  rw [List.pairwise_iff_getElem]
  constructor
  · intro h
    refine ⟨fun x hx => ?_, fun i j hi hj hij => ?_⟩
    · obtain ⟨i, hi, rfl⟩ := List.getElem_of_mem hx
      have := (h i hi).1
      simpa [List.getD_eq_getElem?_getD, hi] using this
    · have := (h j hj).2 i hij
      simpa [List.getD_eq_getElem?_getD, hi, hj] using this
  · rintro ⟨h1, h2⟩ i hi
    refine ⟨?_, fun k hk => ?_⟩
    · have := h1 _ (List.getElem_mem hi)
      simpa [List.getD_eq_getElem?_getD, hi] using this
    · have := h2 k i (by omega) hi hk
      simpa [List.getD_eq_getElem?_getD, hi, show k < q.length by omega] using this
theorem pnPut_perm (l : List Pn) (x : Pn) : (pnPut l x).Perm (x :: l) := by
  unfold pnPut insP
  refine List.perm_middle.trans ?_
  rw [List.takeWhile_append_dropWhile]
theorem Distinct.perm {a b : List Pn} (h : Distinct a) (p : a.Perm b) : Distinct b := p.pairwise h (fun h => fun e => h e.symm)
theorem cut_put (l : List Pn) (x : Pn) (h : x ∉ l) : cutPn (pnPut l x) x = some l := by
  unfold cutPn pnPut insP
  have hi : (l.takeWhile (fun y => decide (Pn.less y x)) ++ x :: l.dropWhile (fun y => decide (Pn.less y x))).findIdx? (fun y => decide (y = x)) = some (l.takeWhile (fun y => decide (Pn.less y x))).length := by
    refine findIdx_at _ _ pn0 _ (by simp) (fun j hj => ?_) ?_
    · have : (l.takeWhile (fun y => decide (Pn.less y x)) ++ x :: l.dropWhile (fun y => decide (Pn.less y x))).getD j pn0 = (l.takeWhile (fun y => decide (Pn.less y x)))[j] := by
        rw [List.getD_eq_getElem?_getD, List.getElem?_append_left hj, List.getElem?_eq_getElem hj]; rfl
      rw [this]
      refine decide_eq_false (fun e => h ?_)
      rw [← e]
      exact (List.takeWhile_sublist _).mem (List.getElem_mem hj)
    · rw [List.getD_eq_getElem?_getD, List.getElem?_append_right (Nat.le_refl _), Nat.sub_self]
      simp
  rw [hi]
  simp only [Option.map_some]
  congr 1
  have ht := List.takeWhile_append_dropWhile (p := fun y => decide (Pn.less y x)) (l := l)
  generalize l.takeWhile (fun y => decide (Pn.less y x)) = T at *
  generalize l.dropWhile (fun y => decide (Pn.less y x)) = D at *
  rw [← ht]
  simp
theorem tmod_lt (z : Int) (h : 1 ≤ z) : (z.tmod 9).toNat < 9 := by
  have h1 := Int.tmod_nonneg 9 (a := z) (by omega)
  have h2 := Int.tmod_lt_of_pos z (b := 9) (by omega)
  omega
/-- What was put is cut again. -/
theorem put_cut {ls ls' : List (List Pn)} {x : Pn} (h : wheelPutV ls x = (ls', true)) : wheelB ls = true ∧ wheelCutV ls' x = (ls, true) ∧ (pinsW ls').length = (pinsW ls).length + 1 := by
  unfold wheelPutV at h
  by_cases h1 : wheelB ls = true ∧ 1 ≤ x.at_
  · rw [if_pos h1] at h
    by_cases h2 : wheelB (ls.set (x.at_.tmod 9).toNat (pnPut (ls.getD (x.at_.tmod 9).toNat []) x)) = true
    · rw [if_pos h2] at h
      injection h with h3 _
      subst h3
      have hk : (x.at_.tmod 9).toNat < ls.length := by have := tmod_lt x.at_ h1.2; have := (wheelB_iff h1.1).1; omega
      obtain ⟨k, ek⟩ : ∃ k, (x.at_.tmod 9).toNat = k := ⟨_, rfl⟩
      rw [ek] at h2 hk ⊢
      have hf := (wheelB_iff h2).2.2.1
      have hd := ((pnsOk_iff _).1 hf).2
      have hsub : Distinct (pnPut (ls.getD k []) x) := by
        have hm := getD_mem (ls.set k (pnPut (ls.getD k []) x)) k [] (by rw [List.length_set]; exact hk)
        rw [set_getD ls k _ hk] at hm
        exact hd.sublist (List.sublist_flatten_of_mem hm)
      have hx : x ∉ ls.getD k [] := fun hm => by
        have := hsub.perm (pnPut_perm _ _)
        exact (List.pairwise_cons.1 this).1 x hm rfl
      refine ⟨h1.1, ?_, ?_⟩
      · unfold wheelCutV
        rw [if_pos ⟨h2, h1.2⟩, ek, set_getD ls k _ hk, cut_put _ _ hx]
        simp only [Option.map_some, Option.getD_some]
        rw [set_back ls k _ hk]
      · unfold pinsW
        rw [if_pos h1.1, if_pos h2, sort_len, sort_len]
        have := flat_set_eq ls k (pnPut (ls.getD k []) x) hk
        rw [pnPut_len] at this
        omega
    · rw [if_neg h2] at h; injection h with _ h; cases h
  · rw [if_neg h1] at h; injection h with _ h; cases h
theorem sameW_self {ls : List (List Pn)} (h : wheelB ls = true) : sameW ls ls = true := by unfold sameW; rw [h]; simp
theorem less_trans {a b c : Pn} (h1 : Pn.less a b) (h2 : Pn.less b c) : Pn.less a c := by unfold Pn.less at *; omega
theorem less_irrefl {a : Pn} (h : Pn.less a a) : False := by unfold Pn.less at h; omega
theorem less_other {a b : Pn} (h : ¬ Pn.less a b) (hn : a.id ≠ b.id) : Pn.less b a := by unfold Pn.less at *; omega
theorem adj_pairwise (l : List Pn) : (∀ k, 0 < k → k < l.length → Pn.less (l.getD (k - 1) pn0) (l.getD k pn0)) ↔ l.Pairwise Pn.less := by
  rw [List.pairwise_iff_getElem]
  constructor
  · intro h
    have key : ∀ d i, i + (d + 1) < l.length → Pn.less (l.getD i pn0) (l.getD (i + (d + 1)) pn0) := by
      intro d
      induction d with
      | zero => intro i hi; exact h (i + 1) (by omega) hi
      | succ d ih =>
        intro i hi
        exact less_trans (ih i (by omega)) (h (i + (d + 1 + 1)) (by omega) hi)
    intro i j hi hj hij
    have := key (j - i - 1) i (by omega)
    rw [show i + (j - i - 1 + 1) = j by omega] at this
    simpa [List.getD_eq_getElem?_getD, hi, hj] using this
  · intro h k hk hl
    have := h (k - 1) k (by omega) hl (by omega)
    simpa [List.getD_eq_getElem?_getD, hl, show k - 1 < l.length by omega] using this
theorem spokeOk_iff (i : Nat) (l : List Pn) : spokeOk i l l.length ↔ (∀ x ∈ l, x.at_.tmod 9 = (i : Int)) ∧ l.Pairwise Pn.less := by
  rw [← adj_pairwise]
  unfold spokeOk
  constructor
  · intro h
    refine ⟨fun x hx => ?_, fun k hk hl => (h k hl).2 hk⟩
    obtain ⟨j, hj, rfl⟩ := List.getElem_of_mem hx
    have := (h j hj).1
    simpa [List.getD_eq_getElem?_getD, hj] using this
  · rintro ⟨h1, h2⟩ k hk
    exact ⟨h1 _ (getD_mem l k pn0 hk), fun h0 => h2 k h0 hk⟩
theorem put_sorted {l : List Pn} {p : Pn} (h : l.Pairwise Pn.less) (hn : ∀ x ∈ l, x.id ≠ p.id) : (pnPut l p).Pairwise Pn.less := by
  unfold pnPut insP
  have e := List.takeWhile_append_dropWhile (p := fun y => decide (Pn.less y p)) (l := l)
  have hT : ∀ t ∈ l.takeWhile (fun y => decide (Pn.less y p)), Pn.less t p := fun t ht => by
    have h1 := List.all_takeWhile (p := fun y => decide (Pn.less y p)) (l := l)
    have := List.all_eq_true.1 h1 t ht
    simpa using this
  have hD : ∀ d r, l.dropWhile (fun y => decide (Pn.less y p)) = d :: r → ¬ Pn.less d p := fun d r hd => by
    have := List.head?_dropWhile_not (fun y => decide (Pn.less y p)) l
    rw [hd] at this; simpa using this
  generalize l.takeWhile (fun y => decide (Pn.less y p)) = T at *
  generalize l.dropWhile (fun y => decide (Pn.less y p)) = D at *
  rw [← e] at h hn
  obtain ⟨h1, h2, h3⟩ := List.pairwise_append.1 h
  refine List.pairwise_append.2 ⟨h1, List.pairwise_cons.2 ⟨fun y hy => ?_, h2⟩, fun t ht y hy => ?_⟩
  · cases D with
    | nil => cases hy
    | cons d r =>
      have hd := less_other (hD d r rfl) (hn d (by simp))
      rcases List.mem_cons.1 hy with rfl | hy
      · exact hd
      · exact less_trans hd ((List.pairwise_cons.1 h2).1 y hy)
  · rcases List.mem_cons.1 hy with rfl | hy
    · exact hT t ht
    · exact h3 t ht y hy
theorem fold_sorted (l : List Pn) : ∀ a : List Pn, a.Pairwise Pn.less → Distinct (a ++ l) → (l.foldl pnPut a).Pairwise Pn.less ∧ (l.foldl pnPut a).Perm (a ++ l) := by
  induction l with
  | nil => intro a h _; exact ⟨h, by simp⟩
  | cons x l ih =>
    intro a h hd
    have hn : ∀ y ∈ a, y.id ≠ x.id := fun y hy => (List.pairwise_append.1 hd).2.2 y hy x (by simp)
    have hp : (pnPut a x ++ l).Perm (a ++ x :: l) := ((pnPut_perm a x).append_right l).trans List.perm_middle.symm
    obtain ⟨h1, h2⟩ := ih (pnPut a x) (put_sorted h hn) (hd.perm hp.symm)
    exact ⟨h1, h2.trans hp⟩
theorem sort_ok {l : List Pn} (h : Distinct l) : (sortPn l).Pairwise Pn.less ∧ (sortPn l).Perm l := by
  have := fold_sorted l [] List.Pairwise.nil (by simpa using h)
  simpa [sortPn] using this
theorem sort_eq {a b : List Pn} (ha : Distinct a) (p : a.Perm b) : sortPn a = sortPn b := by
  obtain ⟨h1, h2⟩ := sort_ok ha
  obtain ⟨h3, h4⟩ := sort_ok (ha.perm p)
  exact List.Perm.eq_of_pairwise (fun x y _ _ hx hy => absurd (less_trans hx hy) (fun h => less_irrefl h)) h1 h3 ((h2.trans p).trans h4.symm)
theorem flat_put_perm (ls : List (List Pn)) (k : Nat) (p : Pn) (h : k < ls.length) : (ls.set k (pnPut (ls.getD k []) p)).flatten.Perm (p :: ls.flatten) := by
  induction ls generalizing k with
  | nil => simp at h
  | cons x r ih =>
    cases k with
    | zero =>
      simp only [List.set_cons_zero, List.flatten_cons, List.getD_cons_zero]
      exact (pnPut_perm x p).append_right _
    | succ k =>
      have := ih k (by simpa using h)
      simp only [List.set_cons_succ, List.flatten_cons, List.getD_cons_succ]
      exact (this.append_left x).trans List.perm_middle
/-- What may be put into a wheel. -/
def MayPut (ls : List (List Pn)) (p : Pn) : Prop := p.inn ∧ (∀ x ∈ ls.flatten, x.id ≠ p.id) ∧ ls.flatten.length + 1 ≤ 10
theorem put_yes {ls : List (List Pn)} {p : Pn} (h : wheelB ls = true) (hp : MayPut ls p) : (wheelPutV ls p).2 = true ∧ wheelB (wheelPutV ls p).1 = true ∧ (wheelPutV ls p).1.flatten.Perm (p :: ls.flatten) := by
  obtain ⟨f1, f2, f3, f4⟩ := wheelB_iff h
  obtain ⟨h1, h2, h3⟩ := hp
  have hat : 1 ≤ p.at_ := h1.1.1
  have hk := tmod_lt p.at_ hat
  have hkm : ((p.at_.tmod 9).toNat : Int) = p.at_.tmod 9 := by have := Int.tmod_nonneg 9 (a := p.at_) (by omega); omega
  obtain ⟨k, ek⟩ : ∃ k, (p.at_.tmod 9).toNat = k := ⟨_, rfl⟩
  rw [ek] at hk hkm
  have hkl : k < ls.length := by omega
  have hperm := flat_put_perm ls k p hkl
  have hw : wheelB (ls.set k (pnPut (ls.getD k []) p)) = true := by
    refine wheelB_yes ⟨by rw [List.length_set]; exact f1, ?_, ?_, ?_⟩
    · rw [hperm.length_eq, List.length_cons]; exact h3
    · rw [pnsOk_iff]
      obtain ⟨g1, g2⟩ := (pnsOk_iff _).1 f3
      have hd : Distinct (p :: ls.flatten) := List.pairwise_cons.2 ⟨fun x hx e => h2 x hx e.symm, g2⟩
      refine ⟨fun x hx => ?_, hd.perm hperm.symm⟩
      rcases List.mem_cons.1 (hperm.mem_iff.1 hx) with rfl | hx
      · exact h1
      · exact g1 x hx
    · intro i hi
      rw [List.length_set] at hi
      by_cases e : k = i
      · subst e
        rw [set_getD ls k _ hkl, spokeOk_iff]
        obtain ⟨g1, g2⟩ := (spokeOk_iff k _).1 (f4 k hkl)
        refine ⟨fun x hx => ?_, put_sorted g2 (fun x hx => h2 x ?_)⟩
        · rcases pnPut_mem hx with hx | rfl
          · exact g1 x hx
          · exact hkm.symm
        · exact (List.sublist_flatten_of_mem (getD_mem ls k [] hkl)).mem hx
      · have : (ls.set k (pnPut (ls.getD k []) p)).getD i [] = ls.getD i [] := by
          simp [List.getD_eq_getElem?_getD, List.getElem?_set, e]
        rw [this]
        exact f4 i hi
  unfold wheelPutV
  rw [if_pos ⟨h, hat⟩, ek, if_pos hw]
  exact ⟨rfl, hw, hperm⟩
theorem put_no {ls : List (List Pn)} {p : Pn} (h : (wheelPutV ls p).2 = true) : MayPut ls p := by
  have hw := wheelPutV_ok h
  unfold wheelPutV at h hw
  by_cases h1 : wheelB ls = true ∧ 1 ≤ p.at_
  · rw [if_pos h1] at h hw
    by_cases h2 : wheelB (ls.set (p.at_.tmod 9).toNat (pnPut (ls.getD (p.at_.tmod 9).toNat []) p)) = true
    · have hk := tmod_lt p.at_ h1.2
      have hkl : (p.at_.tmod 9).toNat < ls.length := by have := (wheelB_iff h1.1).1; omega
      have hperm := flat_put_perm ls (p.at_.tmod 9).toNat p hkl
      obtain ⟨f1, f2, f3, f4⟩ := wheelB_iff h2
      obtain ⟨g1, g2⟩ := (pnsOk_iff _).1 f3
      refine ⟨g1 p (hperm.mem_iff.2 (by simp)), fun x hx e => ?_, ?_⟩
      · exact (List.pairwise_cons.1 (g2.perm hperm)).1 x hx e.symm
      · rw [hperm.length_eq, List.length_cons] at f2; exact f2
    · rw [if_neg h2] at h; cases h
  · rw [if_neg h1] at h; cases h
/-- A list of which a wheel can be made, beside what it holds. -/
def GoodL (q l : List Pn) : Prop := (∀ x ∈ l, x.inn) ∧ Distinct (q ++ l) ∧ (q ++ l).length ≤ 10
theorem go_yes : ∀ (l : List Pn) (ls : List (List Pn)), wheelB ls = true → GoodL ls.flatten l → (wheelGo l ls).2 = true ∧ wheelB (wheelGo l ls).1 = true ∧ (wheelGo l ls).1.flatten.Perm (ls.flatten ++ l)
  | [], ls, h, _ => ⟨rfl, h, by simp [wheelGo]⟩
  | p :: r, ls, h, hg => by
    obtain ⟨g1, g2, g3⟩ := hg
    have hm : MayPut ls p := ⟨g1 p (by simp), fun x hx => (List.pairwise_append.1 g2).2.2 x hx p (by simp), by simp at g3 ⊢; omega⟩
    obtain ⟨a1, a2, a3⟩ := put_yes h hm
    have hp : ((wheelPutV ls p).1.flatten ++ r).Perm (ls.flatten ++ p :: r) := (a3.append_right r).trans List.perm_middle.symm
    obtain ⟨b1, b2, b3⟩ := go_yes r (wheelPutV ls p).1 a2 ⟨fun x hx => g1 x (by simp [hx]), g2.perm hp.symm, by rw [hp.length_eq]; exact g3⟩
    unfold wheelGo
    rw [if_pos a1]
    exact ⟨b1, b2, b3.trans hp⟩
theorem go_no : ∀ (l : List Pn) (ls : List (List Pn)), wheelB ls = true → (wheelGo l ls).2 = true → GoodL ls.flatten l
  | [], ls, h, _ => ⟨fun x hx => (by cases hx), by have := (wheelB_iff h).2.2.1; simpa using ((pnsOk_iff _).1 this).2, by have := (wheelB_iff h).2.1; simpa using this⟩
  | p :: r, ls, h, hg => by
    unfold wheelGo at hg
    by_cases a1 : (wheelPutV ls p).2 = true
    · rw [if_pos a1] at hg
      have hm := put_no a1
      obtain ⟨_, a2, a3⟩ := put_yes h hm
      obtain ⟨b1, b2, b3⟩ := go_no r (wheelPutV ls p).1 a2 hg
      have hp : ((wheelPutV ls p).1.flatten ++ r).Perm (ls.flatten ++ p :: r) := (a3.append_right r).trans List.perm_middle.symm
      refine ⟨fun x hx => ?_, b2.perm hp, by rw [← hp.length_eq]; exact b3⟩
      rcases List.mem_cons.1 hx with rfl | hx
      · exact hm.1
      · exact b1 x hx
    · rw [if_neg a1] at hg; cases hg
theorem nine_ok : wheelB nineW = true := by
  refine wheelB_yes ⟨by simp [nineW], by simp [nineW], ?_, ?_⟩
  · rw [pnsOk_iff]; simp [nineW, Distinct]
  · intro i hi
    have : nineW.getD i [] = [] := List.eq_of_mem_replicate (getD_mem nineW i [] hi)
    rw [this]; intro k hk; cases hk
theorem nine_flat : nineW.flatten = [] := by simp [nineW]
theorem go_fits : ∀ (l : List Pn) (ls : List (List Pn)), FitL ls → (∀ x ∈ l, x.fits) → FitL (wheelGo l ls).1
  | [], _, h, _ => h
  | p :: r, ls, h, hl => by
    unfold wheelGo
    by_cases a1 : (wheelPutV ls p).2 = true
    · rw [if_pos a1]; exact go_fits r _ (putV_fits h (hl p (by simp))) (fun x hx => hl x (by simp [hx]))
    · rw [if_neg a1]; intro a ha; cases ha
theorem ofV_fits {l : List Pn} (h : ∀ x ∈ l, x.fits) : FitL (wheelOfV l).1 := go_fits l _ (fun a ha x hx => by have := List.eq_of_mem_replicate ha; subst this; cases hx) h
theorem go_fail : ∀ (l : List Pn) (ls : List (List Pn)), (wheelGo l ls).2 = false → (wheelGo l ls).1 = []
  | [], _, h => by cases h
  | p :: r, ls, h => by
    unfold wheelGo at h ⊢
    by_cases a1 : (wheelPutV ls p).2 = true
    · rw [if_pos a1] at h ⊢; exact go_fail r _ h
    · rw [if_neg a1]
/-- WheelOf of a list and of the list turned round. -/
theorem of_rev (l : List Pn) : (wheelOfV l.reverse).2 = (wheelOfV l).2 ∧ ((wheelOfV l).2 = true → sameW (wheelOfV l).1 (wheelOfV l.reverse).1 = true ∧ (pinsW (wheelOfV l).1).length = l.length) ∧ ((wheelOfV l).2 = false → (wheelOfV l).1 = []) := by
  have hg : ∀ m : List Pn, (wheelOfV m).2 = true ↔ GoodL [] m := fun m => by
    unfold wheelOfV
    rw [← nine_flat]
    exact ⟨fun h => go_no m nineW nine_ok h, fun h => (go_yes m nineW nine_ok h).1⟩
  have hr : ∀ m : List Pn, GoodL [] m → GoodL [] m.reverse := fun m h => ⟨fun x hx => h.1 x (by simpa using hx), by have := h.2.1; simp only [List.nil_append] at this ⊢; exact this.perm (List.reverse_perm m).symm, by have := h.2.2; simpa using this⟩
  have hrev : (wheelOfV l.reverse).2 = (wheelOfV l).2 := by
    rw [Bool.eq_iff_iff, hg, hg]
    exact ⟨fun h => by have := hr _ h; rwa [List.reverse_reverse] at this, hr l⟩
  refine ⟨hrev, fun h => ?_, fun h => ?_⟩
  · have g1 := (hg l).1 h
    have g2 := hr l g1
    have y1 := go_yes l nineW nine_ok (by rw [nine_flat]; exact g1)
    have y2 := go_yes l.reverse nineW nine_ok (by rw [nine_flat]; exact g2)
    rw [nine_flat, List.nil_append] at y1 y2
    have hd : Distinct (wheelOfV l).1.flatten := by have := g1.2.1; rw [List.nil_append] at this; exact this.perm y1.2.2.symm
    have hp : (wheelOfV l).1.flatten.Perm (wheelOfV l.reverse).1.flatten := (y1.2.2.trans (List.reverse_perm l).symm).trans y2.2.2.symm
    have e1 : pinsW (wheelOfV l).1 = sortPn (wheelOfV l).1.flatten := if_pos y1.2.1
    have e2 : pinsW (wheelOfV l.reverse).1 = sortPn (wheelOfV l.reverse).1.flatten := if_pos y2.2.1
    refine ⟨?_, ?_⟩
    · unfold sameW
      have w1 : wheelB (wheelOfV l).1 = true := y1.2.1
      have w2 : wheelB (wheelOfV l.reverse).1 = true := y2.2.1
      rw [w1, w2, e1, e2, sort_eq hd hp]; simp
    · rw [e1, sort_len]; exact y1.2.2.length_eq
  · unfold wheelOfV at h ⊢
    exact go_fail l nineW h
end Go.Proofs.YtlflgflmlfileaaGreat
