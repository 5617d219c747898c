/- Scratch. -/
import Derived.Test.YtpnkkmeeogfeaaaRows
import Derived.Test.YtpnkkmeeogfeaaaLone
namespace Go.Proofs.Ytpnkkmeeogfeaaa
open Go.RowKit
set_option linter.unusedSimpArgs false
set_option linter.unusedVariables false
/-- A reply and where its Ids lie. -/
structure Rp where
  code : Int
  a : Option Addr
  c : Nat
  l : List Int
def rpC (s : Rp) : List Value := [.int .i64 s.code, .slice s.a s.l.length s.c]
def rpA (s : Rp) : Value := .agg #[.int .i64 s.code, .slice s.a s.l.length s.c]
def rp0 : Rp := ⟨0, none, 0, []⟩
/-- What a reader sees of it. -/
def Rp.v (s : Rp) : Int × List Int := (s.code, s.l)
theorem rpC_len (s : Rp) : (rpC s).length = 2 := rfl
theorem rpC_one (l : List Rp) : ∀ u ∈ l.flatMap rpC, u.oneCell' = true := by
  intro u hu
  obtain ⟨x, _, hx⟩ := List.mem_flatMap.1 hu
  simp [rpC] at hx
  rcases hx with rfl | rfl <;> rfl
/-- The cells of x lie there. -/
def Rp.here (w : World) (b off : Nat) (x : Rp) : Prop := w.cell? ⟨b, off, none⟩ = some (.int .i64 x.code) ∧ w.cell? ⟨b, off + 1, none⟩ = some (.slice x.a x.l.length x.c)
theorem Rws.rp {w : World} {B : Nat} {A : Option Addr} {l : List Rp} (h : Rws w B A (l.flatMap rpC)) {i : Nat} (hi : i < l.length) :
    ∃ b off, A = some ⟨b, off, none⟩ ∧ b < B ∧ Rp.here w b (off + i * 2) (l.getD i rp0) := by
  obtain ⟨b, off, e, hb, hc⟩ := Rws.el rpC_len h (by omega) rp0 hi
  exact ⟨b, off, e, hb, hc 0 (by omega), hc 1 (by omega)⟩
theorem Rp.here.below {w w' : World} {b off : Nat} {x : Rp} (h : Rp.here w b off x) (hb : Below w.heap.size w w') (hl : b < w.heap.size) : Rp.here w' b off x := by
  obtain ⟨h0, h1⟩ := h
  exact ⟨(hb.cell (by exact hl)).trans h0, (hb.cell (by exact hl)).trans h1⟩
set_option maxRecDepth 100000 in
theorem exec_load_rp {ρ : Operand → Value} {o : Oper} {x : Operand} (b off : Nat) (p : Rp) (w : World) (h : Rp.here w b off p) (ho : o.op = .load 27 x := by rfl) (hx : ρ x = .pointer (some ⟨b, off, none⟩) := by rfl) :
    (execOp ρ o).run Try.prog w = .ok (.value (rpA p)) w := by
  obtain ⟨h0, h1⟩ := h
  unfold execOp
  rw [ho]
  simp [go_sem, hx, h0, h1, rpA]
set_option maxRecDepth 100000 in
theorem exec_idx_rp {ρ : Operand → Value} {o : Oper} {x y : Operand} (b off n c k : Nat) (w : World) (h : k < n) (ho : o.op = .indexAddr 33 x y := by rfl) (hx : ρ x = .slice (some ⟨b, off, none⟩) n c := by rfl) (hy : ρ y = .int .i64 (k : Int) := by rfl) :
    (execOp ρ o).run Try.prog w = .ok (.value (.pointer (some ⟨b, off + k * 2, none⟩))) w := by
  have h1 : (k : Int) < (n : Int) := by omega
  unfold execOp
  rw [ho]
  simp [go_sem, hx, hy, h]
set_option maxRecDepth 100000 in
theorem rowRp : RowT 33 27 2 32 (.agg #[.int .i64 0, .slice none 0 0]) := ⟨Try.underlying33, by kernel_rfl, rfl, by omega, by omega⟩
/-- A reply that can be read. -/
structure Rp.ok (w : World) (s : Rp) : Prop where
  row : Rws w w.heap.size s.a (ints s.l)
  cap : s.l.length ≤ s.c
  nil : s.a = none → s.c = 0
/-- Replies that can be read. -/
structure Rep (w : World) (A : Option Addr) (rs : List Rp) : Prop where
  row : Rws w w.heap.size A (rs.flatMap rpC)
  ok : ∀ s ∈ rs, s.ok w
theorem Rp.ok.below {w w' : World} {s : Rp} (h : s.ok w) (hb : Below w.heap.size w w') : s.ok w' := ⟨rws_below h.row hb, h.cap, h.nil⟩
theorem Rep.below {w w' : World} {A : Option Addr} {rs : List Rp} (h : Rep w A rs) (hb : Below w.heap.size w w') : Rep w' A rs := ⟨rws_below h.row hb, fun s hs => (h.ok s hs).below hb⟩
theorem Rep.at_ {w : World} {A : Option Addr} {rs : List Rp} (h : Rep w A rs) {i : Nat} (hi : i < rs.length) : (rs.getD i rp0).ok w := h.ok _ (getD_mem rs i rp0 hi)
/-- All Ids of the replies. -/
def allI (rs : List Rp) : List Int := rs.flatMap (·.l)
theorem allI_take (rs : List Rp) (k : Nat) (h : k < rs.length) : allI (rs.take (k + 1)) = allI (rs.take k) ++ (rs.getD k rp0).l := by
  unfold allI; rw [take_succ_getD rs k rp0 h, List.flatMap_append]; simp
theorem allI_take_le (rs : List Rp) (k : Nat) : (allI (rs.take k)).length ≤ (allI rs).length := by
  have : allI rs = allI (rs.take k) ++ allI (rs.drop k) := by unfold allI; rw [← List.flatMap_append, List.take_append_drop]
  rw [this, List.length_append]; omega
theorem allI_at_le (rs : List Rp) (k : Nat) (h : k < rs.length) : (allI (rs.take k)).length + (rs.getD k rp0).l.length ≤ (allI rs).length := by
  have := allI_take_le rs (k + 1)
  rw [allI_take rs k h, List.length_append] at this; exact this
theorem atI_le (rs : List Rp) {i : Nat} (h : i < rs.length) : (rs.getD i rp0).l.length ≤ (allI rs).length := by have := allI_at_le rs i h; omega
theorem map_v_at {rs rq : List Rp} (h : rs.map Rp.v = rq.map Rp.v) (i : Nat) : (rs.getD i rp0).v = (rq.getD i rp0).v := by
  have h1 := congrArg (fun L => L.getD i (0, [])) h
  simp only [List.getD_eq_getElem?_getD, List.getElem?_map] at h1 ⊢
  cases e1 : rs[i]? <;> cases e2 : rq[i]? <;> simp_all [rp0, Rp.v]
theorem map_v_all {rs rq : List Rp} (h : rs.map Rp.v = rq.map Rp.v) : allI rs = allI rq := by
  have e : ∀ l : List Rp, allI l = (l.map Rp.v).flatMap (·.2) := fun l => by unfold allI; rw [List.flatMap_map]; rfl
  rw [e, e, h]
/-- A row of Ids of the call's own. -/
def Rp.own (w : World) (B : Nat) (s : Rp) : Prop := w.ownsRow B 3 1 (.slice s.a s.l.length s.c) s.l.length (ints s.l)
theorem Rp.own.ok {w : World} {B : Nat} {s : Rp} (h : s.own w B) : s.ok w := ⟨own_rws h, own_cap h, own_nil h⟩
/-- Replies of the call's own. -/
structure OwnR (w : World) (B : Nat) (A : Option Addr) (c : Nat) (rs : List Rp) : Prop where
  row : w.ownsRow B 27 2 (.slice A rs.length c) rs.length (rs.flatMap rpC)
  ids : ∀ s ∈ rs, s.own w B
theorem OwnR.rep {w : World} {B : Nat} {A : Option Addr} {c : Nat} {rs : List Rp} (h : OwnR w B A c rs) : Rep w A rs := ⟨own_rws h.row, fun s hs => Rp.own.ok (h.ids s hs)⟩
theorem OwnR.below {w w' : World} {B : Nat} {A : Option Addr} {c : Nat} {rs : List Rp} (h : OwnR w B A c rs) (hb : Below w.heap.size w w') : OwnR w' B A c rs := ⟨own_below h.row hb, fun s hs => own_below (h.ids s hs) hb⟩
theorem OwnR.weak {w : World} {B B' : Nat} {A : Option Addr} {c : Nat} {rs : List Rp} (h : OwnR w B A c rs) (hB : B' ≤ B) : OwnR w B' A c rs := ⟨own_weak h.row hB, fun s hs => own_weak (h.ids s hs) hB⟩
theorem OwnR.nil {w : World} {B : Nat} {A : Option Addr} {c : Nat} {rs : List Rp} (h : OwnR w B A c rs) : A = none → c = 0 := own_nil h.row
/-- Where the Ids lie. -/
def Rp.blk (s : Rp) : Option Nat := s.a.map (·.block)
/-- The Ids lie apart. -/
def ApartR (rs : List Rp) : Prop := ∀ i j, i < j → j < rs.length → ∀ g, (rs.getD i rp0).blk = some g → (rs.getD j rp0).blk ≠ some g
theorem ApartR.nil : ApartR [] := fun i j _ h => absurd h (by simp)
theorem ApartR.one {rs : List Rp} {s : Rp} (h : ApartR rs) (hn : ∀ x ∈ rs, ∀ g, x.blk = some g → s.blk ≠ some g) : ApartR (rs ++ [s]) := by
  intro i j hij hj g hg
  rw [List.length_append, List.length_singleton] at hj
  have hi : i < rs.length := by omega
  have e1 : (rs ++ [s]).getD i rp0 = rs.getD i rp0 := by simp [List.getD_eq_getElem?_getD, List.getElem?_append, hi]
  rw [e1] at hg
  by_cases hjl : j < rs.length
  · have e2 : (rs ++ [s]).getD j rp0 = rs.getD j rp0 := by simp [List.getD_eq_getElem?_getD, List.getElem?_append, hjl]
    rw [e2]; exact h i j hij hjl g hg
  · have : j = rs.length := by omega
    subst this
    have e2 : (rs ++ [s]).getD rs.length rp0 = s := by simp [List.getD_eq_getElem?_getD]
    rw [e2]
    exact hn _ (getD_mem rs i rp0 hi) g hg
/-- The blocks of the replies. -/
def InR (A : Option Addr) (rs : List Rp) (g : Nat) : Prop := A.map (·.block) = some g ∨ ∃ s ∈ rs, s.blk = some g
theorem OwnR.lo {w : World} {B : Nat} {A : Option Addr} {c : Nat} {rs : List Rp} (h : OwnR w B A c rs) : ∀ g, InR A rs g → B ≤ g ∧ g < w.heap.size := by
  rintro g (hg | ⟨s, hs, hg⟩)
  · exact World.ownsRow.lt h.row g (by rw [ownBlock_eq]; exact hg)
  · exact World.ownsRow.lt (h.ids s hs) g (by rw [ownBlock_eq]; exact hg)
/-- Replies in new memory, their Ids apart. -/
def NewRp (w : World) (vs : List (Int × List Int)) (e : Ending) (w' : World) : Prop :=
  ∃ A c rs, e = .returned (.slice A rs.length c) ∧ rs.map Rp.v = vs ∧ OwnR w' w.heap.size A c rs ∧ ApartR rs ∧ Below w.heap.size w w'
/-- A reply in new memory. -/
def NewR1 (w : World) (v : Int × List Int) (e : Ending) (w' : World) : Prop :=
  ∃ s : Rp, e = .returned (rpA s) ∧ s.v = v ∧ s.own w' w.heap.size ∧ Below w.heap.size w w'
end Go.Proofs.Ytpnkkmeeogfeaaa
