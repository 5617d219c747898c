/- After: what the program and the model return. -/
import Derived.Test.YtelpeoaffgafgaaRows
import Derived.Test.YtelpeoaffgafgaaFrs
namespace Go.Proofs.Ytelpeoaffgafgaa
open Go.RowKit
/-- What After selects. -/
def afterOf : List Fr → Int → List Fr
  | [], _ => []
  | f :: r, q => if f.seq ≤ q then afterOf r q else if f.seq = q + 1 then f :: afterOf r f.seq else []
theorem afterOf_len (l : List Fr) (q : Int) : (afterOf l q).length ≤ l.length := by
  induction l generalizing q with
  | nil => simp [afterOf]
  | cons f r ih =>
    simp only [afterOf]
    split
    · have := ih q; simp only [List.length_cons]; omega
    · split
      · have := ih f.seq; simp only [List.length_cons]; omega
      · simp
theorem dropF (l : List Fr) (k : Nat) (h : k < l.length) : l.drop k = l.getD k fr0 :: l.drop (k + 1) := by
  rw [List.drop_eq_getElem_cons h, List.getD_eq_getElem?_getD, List.getElem?_eq_getElem h]; rfl
/-- Where the loop of After stands. -/
def AftAt (l : List Fr) (seq : Int) (k : Nat) (p : List Fr) (q : Int) : Prop := p ++ afterOf (l.drop k) q = afterOf l seq ∧ p.length ≤ k
theorem AftAt.skip {l : List Fr} {seq q : Int} {k : Nat} {p : List Fr} (h : AftAt l seq k p q) (hk : k < l.length) (hq : (l.getD k fr0).seq ≤ q) : AftAt l seq (k + 1) p q := by
  refine ⟨?_, by have := h.2; omega⟩
  rw [← h.1, dropF l k hk]
  simp only [afterOf]
  rw [if_pos hq]
theorem AftAt.take {l : List Fr} {seq q : Int} {k : Nat} {p : List Fr} (h : AftAt l seq k p q) (hk : k < l.length) (hq : (l.getD k fr0).seq = q + 1) : AftAt l seq (k + 1) (p ++ [l.getD k fr0]) (q + 1) := by
  refine ⟨?_, by have := h.2; simp; omega⟩
  rw [← h.1, dropF l k hk]
  simp only [afterOf]
  rw [if_neg (by omega), if_pos hq, List.append_assoc, hq]; rfl
theorem AftAt.stop {l : List Fr} {seq q : Int} {k : Nat} {p : List Fr} (h : AftAt l seq k p q) (hk : k < l.length) (hq : q < (l.getD k fr0).seq) (hn : (l.getD k fr0).seq ≠ q + 1) : p = afterOf l seq := by
  have h1 := h.1
  rw [dropF l k hk] at h1
  simp only [afterOf] at h1
  rw [if_neg (by omega), if_neg hn, List.append_nil] at h1
  exact h1
theorem AftAt.last {l : List Fr} {seq q : Int} {p : List Fr} (h : AftAt l seq l.length p q) : p = afterOf l seq := by
  have h1 := h.1
  rw [List.drop_length] at h1
  simpa [afterOf] using h1
/-- Every number of the list is an int. -/
def FrWf (l : List Fr) : Prop := ∀ f ∈ l, -9223372036854775808 ≤ f.seq ∧ f.seq ≤ 9223372036854775807
theorem FrWf.getD {l : List Fr} (h : FrWf l) {k : Nat} (hk : k < l.length) : -9223372036854775808 ≤ (l.getD k fr0).seq ∧ (l.getD k fr0).seq ≤ 9223372036854775807 := by
  rw [List.getD_eq_getElem?_getD, List.getElem?_eq_getElem hk]; exact h _ (List.getElem_mem hk)
set_option maxRecDepth 100000 in
set_option maxHeartbeats 800000 in
theorem after_impl (A : Option Addr) (l : List Fr) (c : Nat) (seq : Int) (w : World) (hl : l.length ≤ 2097152) (hA : Rws w w.heap.size A (l.flatMap frC)) (hwf : FrWf l) (h1 : -9223372036854775808 ≤ seq) (h2 : seq ≤ 9223372036854775807) :
    Calls Try.prog 20 #[.slice A l.length c, .int .i64 seq] w (NewR 38 3 w (afterOf l seq).length ((afterOf l seq).flatMap frC)) := by
  go_enter Try.func20, Try.ntmps20
  go_wp2
  go_loopw [5, 6, 12] (fun v q i wr => ∃ (k : Nat) (p : List Fr) (z : Int), k ≤ l.length ∧ i = .int .i64 k ∧ q = .int .i64 z ∧ -9223372036854775808 ≤ z ∧ z ≤ 9223372036854775807 ∧ wr.ownsRow w.heap.size 38 3 v p.length (p.flatMap frC) ∧ AftAt l seq k p z ∧ Below w.heap.size w wr) (fun _ _ i _ => l.length - (intOf i).toNat)
  case atStart => exact ⟨0, [], seq, by omega, rfl, rfl, h1, h2, World.ownsRow_nil _ _ _ _, ⟨rfl, by simp⟩, Below.refl _ _⟩
  case round =>
    obtain ⟨k, p, z, hk, rfl, rfl, hz1, hz2, hown, hat, hb⟩ := hrel
    have hpl := hat.2
    have hbs := hb.size
    by_cases hlt : k < l.length
    · obtain ⟨b, off, rfl, hbB, c0, c1, c2⟩ := (hA.below hb).fr hlt
      have hw := hwf.getD hlt
      by_cases hs : (l.getD k fr0).seq ≤ z
      · have HA := Lib.hid (hat.skip hlt hs)
        have HO := Lib.hid hown
        have HB := Lib.hid hb
        generalize l.getD k fr0 = x at *
        clear hat hown hb
        go_wp2
        go_roundw
        case rel => exact ⟨k + 1, p, z, by omega, by go_num, rfl, hz1, hz2, HO.out.alloc _, HA.out, HB.out.alloc hbs _⟩
        case measure => simp [intOf]; omega
      · by_cases hn : (l.getD k fr0).seq = z + 1
        · have HA := Lib.hid (hat.take hlt hn)
          generalize l.getD k fr0 = x at *
          have hne : (x.seq != z + 1) = false := by simp [hn]
          have hzz : z + 1 ≤ 9223372036854775807 := by omega
          have HN := Lib.hid hn
          have hs2 : z < x.seq := by omega
          clear hat hn hs
          go_wp2_with (at_builtin; refine wpList_app1F _ rfl (.tmp 25) (.tmp 27) rfl w.heap.size _ p rfl (World.ownsRow.alloc (World.ownsRow.alloc hown _) _) (wr.heap.size + 1) x rfl (by simp [go_sem]) (by omega) (by simp; omega) ?_)
          intro v' w2 o2 g2
          have b3 : Hid (Below w.heap.size w w2) := ((hb.alloc hbs _).alloc (by simp; omega) _).grown g2 (by simp; omega) (own_low hown)
          have O2 : Hid (w2.ownsRow w.heap.size 38 3 v' (p ++ [x]).length ((p ++ [x]).flatMap frC)) := by
            show World.ownsRow _ _ _ _ _ _ _
            rw [List.flatMap_append, List.length_append]; simpa using o2
          clear g2 hown o2 hb
          go_wp2
          go_roundw
          case rel => exact ⟨k + 1, _, z + 1, by omega, by go_num, rfl, by omega, hzz, O2.out, HA.out, b3.out⟩
          case measure => simp [intOf]; omega
        · have hs2 : z < (l.getD k fr0).seq := by omega
          have HE := Lib.hid (hat.stop hlt hs2 hn)
          generalize l.getD k fr0 = x at *
          have hne : (x.seq != z + 1) = true := by simp [hn]
          have hzz : z + 1 ≤ 9223372036854775807 := by omega
          have R := Lib.hid (NewR.of_own (World.ownsRow.alloc hown (.cells #[.int .i64 x.seq, .string x.body, .int .i64 x.next] 38)) (hb.alloc hbs _))
          rw [HE.out] at R
          clear hat hn hs hown hb
          go_wp2
          go_ret
          exact R.out
    · obtain rfl : k = l.length := by omega
      have HE := Lib.hid hat.last
      have R := Lib.hid (NewR.of_own hown hb)
      rw [HE.out] at R
      clear hat hown hb
      go_wp2
      go_ret
      exact R.out
set_option maxRecDepth 100000 in
set_option maxHeartbeats 800000 in
theorem after_spec (A : Option Addr) (l : List Fr) (c : Nat) (seq : Int) (w : World) (hl : l.length ≤ 2097152) (hA : Rws w w.heap.size A (l.flatMap frC)) (hwf : FrWf l) (h1 : -9223372036854775808 ≤ seq) (h2 : seq ≤ 9223372036854775807) :
    Calls Try.prog 32 #[.slice A l.length c, .int .i64 seq] w (NewR 38 3 w (afterOf l seq).length ((afterOf l seq).flatMap frC)) := by
  go_enter Try.func32, Try.ntmps32
  go_wp2
  go_loopw [1, 5, 6] (fun q v i wr => ∃ (k : Nat) (p : List Fr) (z : Int), k ≤ l.length ∧ i = .int .i64 k ∧ q = .int .i64 z ∧ -9223372036854775808 ≤ z ∧ z ≤ 9223372036854775807 ∧ wr.ownsRow w.heap.size 38 3 v p.length (p.flatMap frC) ∧ AftAt l seq k p z ∧ Below w.heap.size w wr) (fun _ _ i _ => l.length - (intOf i).toNat)
  case atStart => exact ⟨0, [], seq, by omega, rfl, rfl, h1, h2, own_empty _ _ _ _ (Nat.le_refl _), ⟨rfl, by simp⟩, (Below.refl _ _).alloc (Nat.le_refl _) _⟩
  case round =>
    obtain ⟨k, p, z, hk, rfl, rfl, hz1, hz2, hown, hat, hb⟩ := hrel
    have hpl := hat.2
    have hbs := hb.size
    by_cases hlt : k < l.length
    · obtain ⟨b, off, rfl, hbB, c0, c1, c2⟩ := (hA.below hb).fr hlt
      have hw := hwf.getD hlt
      by_cases hs : (l.getD k fr0).seq ≤ z
      · have HA := Lib.hid (hat.skip hlt hs)
        have HO := Lib.hid hown
        have HB := Lib.hid hb
        generalize l.getD k fr0 = x at *
        clear hat hown hb
        go_wp2
        go_roundw
        case rel => exact ⟨k + 1, p, z, by omega, by go_num, rfl, hz1, hz2, HO.out, HA.out, HB.out⟩
        case measure => simp [intOf]; omega
      · by_cases hn : (l.getD k fr0).seq = z + 1
        · have HA := Lib.hid (hat.take hlt hn)
          generalize l.getD k fr0 = x at *
          have hne : (x.seq - 1 != z) = false := by simp; omega
          have hzz : z + 1 ≤ 9223372036854775807 := by omega
          have HN := Lib.hid hn
          have hs2 : z < x.seq := by omega
          clear hat hn hs
          go_wp2_with (at_builtin; refine wpList_app1F _ rfl (.tmp 34) (.tmp 39) rfl w.heap.size _ p rfl (World.ownsRow.alloc hown _) wr.heap.size x rfl (by simp [go_sem]) (by omega) (by simp; omega) ?_)
          intro v' w2 o2 g2
          have b3 : Hid (Below w.heap.size w w2) := (hb.alloc hbs _).grown g2 (by simp; omega) (own_low hown)
          have O2 : Hid (w2.ownsRow w.heap.size 38 3 v' (p ++ [x]).length ((p ++ [x]).flatMap frC)) := by
            show World.ownsRow _ _ _ _ _ _ _
            rw [List.flatMap_append, List.length_append]; simpa using o2
          clear g2 hown o2 hb
          go_wp2
          go_roundw
          case rel => exact ⟨k + 1, _, x.seq, by omega, by go_num, rfl, by omega, by omega, O2.out, by rw [HN.out]; exact HA.out, b3.out⟩
          case measure => simp [intOf]; omega
        · have hs2 : z < (l.getD k fr0).seq := by omega
          have HE := Lib.hid (hat.stop hlt hs2 hn)
          generalize l.getD k fr0 = x at *
          have hne : (x.seq - 1 != z) = true := by simp; omega
          have R := Lib.hid (NewR.of_own hown hb)
          rw [HE.out] at R
          clear hat hn hs hown hb
          go_wp2
          go_ret
          exact R.out
    · obtain rfl : k = l.length := by omega
      have HE := Lib.hid hat.last
      have R := Lib.hid (NewR.of_own hown hb)
      rw [HE.out] at R
      clear hat hown hb
      go_wp2
      go_ret
      exact R.out
end Go.Proofs.Ytelpeoaffgafgaa
