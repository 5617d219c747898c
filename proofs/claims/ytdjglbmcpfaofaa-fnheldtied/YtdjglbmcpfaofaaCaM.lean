/- The pins of the offered parties, sorted: mathematics. -/
import Derived.Test.YtdjglbmcpfaofaaRows
import Derived.Test.YtdjglbmcpfaofaaHs10
namespace Go.Proofs.Ytdjglbmcpfaofaa
open Go.RowKit
set_option linter.unusedSimpArgs false
set_option linter.unusedVariables false
/-- The pins of the offered parties, as they come. -/
def offPn (l : List Pt) (cabin : Int) : List Pn := l.filterMap fun x => if x.state = 2 ∧ x.cabin = cabin then some ⟨x.until_, x.id⟩ else none
theorem offPn_take (l : List Pt) (cabin : Int) (k : Nat) (h : k < l.length) :
    offPn (l.take (k + 1)) cabin = offPn (l.take k) cabin ++ (if (l.getD k pt0).state = 2 ∧ (l.getD k pt0).cabin = cabin then [⟨(l.getD k pt0).until_, (l.getD k pt0).id⟩] else []) := by
  unfold offPn
  rw [take_succ_getD l k pt0 h, List.filterMap_append]
  congr 1
  by_cases g : (l.getD k pt0).state = 2 ∧ (l.getD k pt0).cabin = cabin
  · rw [if_pos g]; simp only [List.filterMap_cons, List.filterMap_nil, if_pos g]
  · rw [if_neg g]; simp only [List.filterMap_cons, List.filterMap_nil, if_neg g]
theorem offPn_len (l : List Pt) (cabin : Int) : (offPn l cabin).length ≤ l.length := List.length_filterMap_le _ _
theorem pinsV_fold (l : List Pt) (cabin : Int) (a : List Pn) : l.foldl (fun acc x => if x.state = 2 ∧ x.cabin = cabin then pnPut acc ⟨x.until_, x.id⟩ else acc) a = (offPn l cabin).foldl pnPut a := by
  induction l generalizing a with
  | nil => rfl
  | cons x l ih =>
    rw [List.foldl_cons, ih]
    unfold offPn
    by_cases g : x.state = 2 ∧ x.cabin = cabin
    · rw [List.filterMap_cons, if_pos g, if_pos g]; rfl
    · rw [List.filterMap_cons, if_neg g, if_neg g]
def lePn (a b : Pn) : Prop := ¬ Pn.less b a
theorem lePn_trans {a b c : Pn} (h1 : lePn a b) (h2 : lePn b c) : lePn a c := by unfold lePn Pn.less at *; omega
theorem lePn_anti {a b : Pn} (h1 : lePn a b) (h2 : lePn b a) : a = b := by
  obtain ⟨a1, a2⟩ := a
  obtain ⟨b1, b2⟩ := b
  unfold lePn Pn.less at *
  simp only [Pn.mk.injEq]
  simp only [] at h1 h2
  omega
theorem lePn_of_less {a b : Pn} (h : Pn.less a b) : lePn a b := by unfold lePn Pn.less at *; omega
theorem put_le {l : List Pn} {p : Pn} (h : l.Pairwise lePn) : (pnPut l p).Pairwise lePn := by
  unfold pnPut insP
  have e := List.takeWhile_append_dropWhile (p := fun y => decide (Pn.less y p)) (l := l)
  have hT : ∀ t ∈ l.takeWhile (fun y => decide (Pn.less y p)), Pn.less t p := fun t ht => by
    have h1 := List.all_takeWhile (p := fun y => decide (Pn.less y p)) (l := l)
    have := List.all_eq_true.1 h1 t ht
    simpa using this
  have hD : ∀ d r, l.dropWhile (fun y => decide (Pn.less y p)) = d :: r → ¬ Pn.less d p := fun d r hd => by
    have := List.head?_dropWhile_not (fun y => decide (Pn.less y p)) l
    rw [hd] at this; simpa using this
  generalize l.takeWhile (fun y => decide (Pn.less y p)) = T at *
  generalize l.dropWhile (fun y => decide (Pn.less y p)) = D at *
  rw [← e] at h
  obtain ⟨h1, h2, h3⟩ := List.pairwise_append.1 h
  refine List.pairwise_append.2 ⟨h1, List.pairwise_cons.2 ⟨fun y hy => ?_, h2⟩, fun t ht y hy => ?_⟩
  · cases D with
    | nil => cases hy
    | cons d r =>
      have hd : lePn p d := hD d r rfl
      rcases List.mem_cons.1 hy with rfl | hy
      · exact hd
      · exact lePn_trans hd ((List.pairwise_cons.1 h2).1 y hy)
  · rcases List.mem_cons.1 hy with rfl | hy
    · exact lePn_of_less (hT t ht)
    · exact h3 t ht y hy
theorem put_permC (l : List Pn) (p : Pn) : (pnPut l p).Perm (p :: l) := by
  unfold pnPut insP
  have e := List.takeWhile_append_dropWhile (p := fun y => decide (Pn.less y p)) (l := l)
  have := List.perm_middle (a := p) (l₁ := l.takeWhile (fun y => decide (Pn.less y p))) (l₂ := l.dropWhile (fun y => decide (Pn.less y p)))
  rw [e] at this
  exact this
theorem fold_le (l : List Pn) : ∀ a : List Pn, a.Pairwise lePn → (l.foldl pnPut a).Pairwise lePn ∧ (l.foldl pnPut a).Perm (a ++ l) := by
  induction l with
  | nil => intro a h; exact ⟨h, by simp⟩
  | cons x l ih =>
    intro a h
    have hp : (pnPut a x ++ l).Perm (a ++ x :: l) := ((put_permC a x).append_right l).trans List.perm_middle.symm
    obtain ⟨h1, h2⟩ := ih (pnPut a x) (put_le h)
    exact ⟨h1, h2.trans hp⟩
theorem pinsV_is {l : List Pt} {cabin : Int} {m : List Pn} (hp : m.Perm (offPn l cabin)) (hs : m.Pairwise lePn) : m = pinsV l cabin := by
  obtain ⟨h1, h2⟩ := fold_le (offPn l cabin) [] List.Pairwise.nil
  unfold pinsV
  rw [pinsV_fold]
  exact List.Perm.eq_of_pairwise (fun x y _ _ hx hy => lePn_anti hx hy) hs h1 (hp.trans (by simpa using h2.symm))
end Go.Proofs.Ytdjglbmcpfaofaa
