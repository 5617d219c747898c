/- DrawAfter. -/
import Derived.Test.YtelpeoaffgafgaaRows
import Derived.Test.YtelpeoaffgafgaaL2
namespace Go.Proofs.Ytelpeoaffgafgaa
open Go.RowKit
theorem frsF_wf (n : Nat) (l : List Nat) (a : Nat) : ∀ f ∈ frsF n l a, 0 ≤ f.seq ∧ f.seq ≤ 1000000 := by
  induction n generalizing a with
  | zero => intro f hf; cases hf
  | succ n ih =>
    rcases h : fAt l (a : Int) with _ | ⟨seq, b, sz⟩
    · rw [frsF_none h]; intro f hf; cases hf
    · rw [frsF_some h]
      intro f hf
      rcases List.mem_cons.1 hf with rfl | hf
      · have := (fAt_some h).1.2.1
        exact ⟨by show (0 : Int) ≤ (seq : Int); omega, by show (seq : Int) ≤ 1000000; omega⟩
      · exact ih _ f hf
def GotAfter (w : World) (e : Ending) (w' : World) : Prop :=
  ∃ (fl : List Fr) (q : Int) (A : Option Addr) (c : Nat), fl.length ≤ 2097152 ∧ FrWf fl ∧ (-9223372036854775808 ≤ q ∧ q ≤ 9223372036854775807) ∧ e = .returned (.tuple #[.slice A fl.length c, .int .i64 q]) ∧ Rws w' w'.heap.size A (fl.flatMap frC) ∧ Below w.heap.size w w'
theorem FrWf.snoc {l : List Fr} (h : FrWf l) {f : Fr} (hf : -9223372036854775808 ≤ f.seq ∧ f.seq ≤ 9223372036854775807) : FrWf (l ++ [f]) := by
  intro x hx
  rcases List.mem_append.1 hx with hx | hx
  · exact h x hx
  · simp at hx; subst hx; exact hf
set_option maxRecDepth 100000 in
set_option maxHeartbeats 800000 in
theorem drawAfter_any (A : Option Addr) (l : List Nat) (c : Nat) (w : World) (hl : l.length ≤ 2097152) (hA : Bts w w.heap.size A l) (hb : AllB l) :
    Calls Try.prog 19 #[.slice A l.length c] w (GotAfter w) := by
  go_enter Try.func19, Try.ntmps19
  go_wp2_with fail
  refine (l1New_any A l c w hl hA hb).mono ?_
  rintro e w1 ⟨rfl, hc1, b1⟩
  obtain ⟨g, hg⟩ : ∃ g, g = w.heap.size := ⟨_, rfl⟩
  rw [← hg] at hc1
  rw [← hg]
  have hlt1 := hc1.lt
  have hgw : w.heap.size ≤ g := by omega
  have HG := Lib.hid hg
  clear hg
  go_wp2_with fail
  refine (l2Log_any A l c g _ hl hb hc1).mono ?_
  rintro e w2 ⟨S, hS, rfl, hc2, gr2⟩
  have b2 : Below w.heap.size w w2 := b1.grown gr2 (by omega) (fun k hk => by injection hk with hk; omega)
  clear b1 gr2 hc1
  go_wp2_with fail
  refine (frames_spec S _ (by omega)).mono ?_
  rintro e w3 ⟨F, cf, rfl, o3, b3⟩
  have hfl := framesOf_len (strN S)
  rw [strN_length] at hfl
  have hwf : FrWf (framesOf (strN S)) := fun f hf => by have := frsF_wf _ _ _ f hf; omega
  generalize framesOf (strN S) = fl at *
  have b23 : Below w.heap.size w w3 := b2.trans (b3.mono b2.size)
  have hc3 := hc2.mem b3
  have hlt2 := hc2.lt
  have hs23 := b3.size
  clear b2 b3 hc2
  go_wp2_with fail
  refine (l1Once_any A l c g 6 _ hl hb (by omega) (by omega) hc3).mono ?_
  rintro e w4 ⟨t, rfl, hc4, gr4⟩
  have o4 := own_cur o3 gr4 hlt2
  have b4 : Below w.heap.size w w4 := b23.grown gr4 b23.size (fun k hk => by injection hk with hk; omega)
  have hs4 := gr4.size
  clear o3 gr4 b23 hc3
  have hf8 : ∀ x ∈ ([0, 0, 1, 2, 3, 4, -9223372036854775808, 9223372036854775807] : List Int), -9223372036854775808 ≤ x ∧ x ≤ 9223372036854775807 := by decide
  have hf4 : ∀ x ∈ ([-9223372036854775808, 9223372036854775807, 0, 3] : List Int), -9223372036854775808 ≤ x ∧ x ≤ 9223372036854775807 := by decide
  have HF8 := Lib.hid hf8
  have HF4 := Lib.hid hf4
  clear hf8 hf4
  cases t with
  | true =>
    go_wp2_with fail
    refine (l1PickInt_any A l c g [-9223372036854775808, 9223372036854775807, 0, 3] w4.heap.size 4 4 _ hl hb (hc4.alloc _) rfl (by simp) (by simp) (by have := hc4.lt; omega) (ints_new w4 [-9223372036854775808, 9223372036854775807, 0, 3])).mono ?_
    rintro e w5 ⟨x, hx, rfl, hc5, gr5⟩
    have o5 := own_cur (World.ownsRow.alloc o4 _) gr5 hlt2
    have b5 : Below w.heap.size w w5 := (b4.alloc b4.size _).grown gr5 (by have := b4.size; simp; omega) (fun k hk => by injection hk with hk; omega)
    have hs5 := gr5.size
    simp at hs5
    have hwf2 : FrWf (fl ++ [(⟨x, ⟨#[]⟩, 0⟩ : Fr)]) := hwf.snoc (HF4.out x hx)
    clear gr5 o4 b4 hc4 hx
    go_wp2_with (at_builtin; refine wpList_app1F _ rfl (.tmp 13) (.tmp 18) rfl w2.heap.size _ fl rfl (World.ownsRow.alloc o5 _) w5.heap.size ⟨x, ⟨#[]⟩, 0⟩ rfl (by simp [go_sem]) (by omega) (by simp; omega) ?_)
    intro v' w6 o6 g6
    have hr6 := own_low o5
    have b6 : Below w.heap.size w w6 := (b5.alloc b5.size _).grown g6 (by have := b5.size; simp; omega) (fun k hk => by have := hr6 k hk; omega)
    have hc6 := (hc5.alloc _).grown g6 (fun k hk => by have := hr6 k hk; omega)
    have o6' : w6.ownsRow w2.heap.size 38 3 v' (fl ++ [(⟨x, ⟨#[]⟩, 0⟩ : Fr)]).length ((fl ++ [(⟨x, ⟨#[]⟩, 0⟩ : Fr)]).flatMap frC) := by
      rw [List.flatMap_append, List.length_append]; simpa using o6
    have hfl2 : (fl ++ [(⟨x, ⟨#[]⟩, 0⟩ : Fr)]).length ≤ 2097152 := by simp; omega
    obtain ⟨F2, cf2, rfl, _⟩ := own_form o6'
    have hs6 := g6.size
    clear o6 g6 o5 b5 hc5 hr6
    generalize fl ++ [(⟨x, ⟨#[]⟩, 0⟩ : Fr)] = fl2 at *
    go_wp2_with fail
    refine (l1PickInt_any A l c g [0, 0, 1, 2, 3, 4, -9223372036854775808, 9223372036854775807] w6.heap.size 8 8 _ hl hb (hc6.alloc _) rfl (by simp) (by simp) (by have := hc6.lt; omega) (ints_new w6 [0, 0, 1, 2, 3, 4, -9223372036854775808, 9223372036854775807])).mono ?_
    rintro e w7 ⟨q, hq, rfl, hc7, gr7⟩
    have o7 := own_cur (World.ownsRow.alloc o6' _) gr7 hlt2
    have b7 : Below w.heap.size w w7 := (b6.alloc b6.size _).grown gr7 (by have := b6.size; simp; omega) (fun k hk => by injection hk with hk; omega)
    have R : Hid (GotAfter w (.returned (.tuple #[.slice F2 fl2.length cf2, .int .i64 q])) w7) := ⟨fl2, q, F2, cf2, hfl2, hwf2, HF8.out q hq, rfl, own_rws o7, b7⟩
    clear o7 b7 gr7 hc7 hc6 b6 o6' hq
    go_wp2
    go_ret2
    exact R.out
  | false =>
    go_wp2_with fail
    refine (l1PickInt_any A l c g [0, 0, 1, 2, 3, 4, -9223372036854775808, 9223372036854775807] w4.heap.size 8 8 _ hl hb (hc4.alloc _) rfl (by simp) (by simp) (by have := hc4.lt; omega) (ints_new w4 [0, 0, 1, 2, 3, 4, -9223372036854775808, 9223372036854775807])).mono ?_
    rintro e w7 ⟨q, hq, rfl, hc7, gr7⟩
    have o7 := own_cur (World.ownsRow.alloc o4 _) gr7 hlt2
    have b7 : Below w.heap.size w w7 := (b4.alloc b4.size _).grown gr7 (by have := b4.size; simp; omega) (fun k hk => by injection hk with hk; omega)
    have R : Hid (GotAfter w (.returned (.tuple #[.slice F fl.length cf, .int .i64 q])) w7) := ⟨fl, q, F, cf, by omega, hwf, HF8.out q hq, rfl, own_rws o7, b7⟩
    clear o7 b7 gr7 hc7 hc4 b4 o4 hq
    go_wp2
    go_ret2
    exact R.out
end Go.Proofs.Ytelpeoaffgafgaa
