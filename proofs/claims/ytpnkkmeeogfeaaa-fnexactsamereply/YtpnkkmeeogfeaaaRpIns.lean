/- Scratch. -/
import Derived.Test.YtpnkkmeeogfeaaaRows
import Derived.Test.YtpnkkmeeogfeaaaLoneIn
import Derived.Test.YtpnkkmeeogfeaaaRpA
namespace Go.Proofs.Ytpnkkmeeogfeaaa
open Go.RowKit Go.ChangeShapes Go.WideShapes Go.Deep
set_option linter.unusedSimpArgs false
set_option linter.unusedVariables false
/-- A reply that came in. -/
def Rp.came (W : World) (s : Rp) : Prop := s.ok W ∧ inI s.code ∧ (∀ z ∈ s.l, inI z) ∧ s.l.length ≤ 9223372036854775807
set_option maxRecDepth 100000 in
theorem cellsLrp : Try.prog.cellsOf 24 = 2 := by kernel_rfl
set_option maxRecDepth 100000 in
theorem cellsLis : Try.prog.cellsOf 22 = 1 := by kernel_rfl
set_option maxRecDepth 100000 in
theorem ids_in {H : Type} {enc : TypeId × Value → H} {W : World} {fuel : Nat} {held : Bool} {cs : List Value} {x : DataW H × List MemPlace} (h : DataW.trod enc Try.prog W 0 (fun _ => true) held fuel 22 cs = some x) :
    ∃ (a : Option Addr) (c : Nat) (l : List Int), cs = [.slice a l.length c] ∧ Rws W W.heap.size a (ints l) ∧ l.length ≤ c ∧ (a = none → c = 0) ∧ (∀ z ∈ l, inI z) ∧ l.length ≤ 9223372036854775807 := by
  rcases open_slice Try.underlying22 h with ⟨hcs, _⟩ | ⟨ad, n, c, m, k, D, Pl, hcs, _, hl, _⟩
  · subst hcs
    obtain ⟨l, hl, hA, hi, hlen⟩ := ints_in h
    have h0 : l = [] := List.eq_nil_of_length_eq_zero hl.symm
    subst h0
    exact ⟨none, 0, [], rfl, .inl rfl, Nat.le_refl _, fun _ => rfl, (fun f hf => by cases hf), Nat.zero_le _⟩
  · subst hcs
    obtain ⟨l, hl2, hA, hi, hlen⟩ := ints_in h
    subst hl2
    exact ⟨some ad, c, l, rfl, hA, hl, (fun h => by cases h), hi, hlen⟩
set_option maxRecDepth 100000 in
theorem rp_trod {H : Type} {enc : TypeId × Value → H} {W : World} {fuel : Nat} {held : Bool} {cs : List Value} {x : DataW H × List MemPlace} (h : DataW.trod enc Try.prog W 0 (fun _ => true) held fuel 24 cs = some x) :
    ∃ s : Rp, cs = rpC s ∧ s.came W := by
  obtain ⟨xs, n, _, _, hlen, hxl, hf⟩ := DataW.trod_struct Try.underlying24 h
  rw [cellsLrp] at hlen
  match cs, hlen, xs, hxl with
  | [c0, c1], _, [y0, y1], _ =>
    have f0 : DataW.trod enc Try.prog W 0 (fun _ => true) held n 3 (([c0, c1].drop 0).take (Try.prog.cellsOf 3)) = some y0 := hf 0 _ rfl
    rw [cellsI] at f0
    obtain ⟨z0, e0, _, w0⟩ := DataW.trod_int Try.underlying3 f0
    injection e0 with e0 _
    have f1 : DataW.trod enc Try.prog W 0 (fun _ => true) held n 22 (([c0, c1].drop 1).take (Try.prog.cellsOf 22)) = some y1 := hf 1 _ rfl
    rw [cellsLis] at f1
    obtain ⟨a, c, l, e1, hA, hc, hn, hi, hl⟩ := ids_in f1
    injection e1 with e1 _
    subst e0 e1
    exact ⟨⟨z0, a, c, l⟩, rfl, ⟨hA, hc, hn⟩, bounds_i64 w0, hi, hl⟩
set_option maxRecDepth 100000 in
theorem reply_in {H : Type} {enc : TypeId × Value → H} {W : World} {b0 : Nat} {r : Reach} {held : Bool} {v : Value} {d : DataW H} {p : List MemPlace} (hv : Value.okWide Try.prog W r b0 24 v) (h : DataW.Trod enc Try.prog W 0 (fun _ => true) held 24 v d p) :
    ∃ s : Rp, v = rpA s ∧ s.came W := by
  obtain ⟨cs, rfl, _⟩ := okWide_struct Try.underlying24 hv
  obtain ⟨fuel, hf⟩ := h
  obtain ⟨s, e, hg⟩ := rp_trod hf
  refine ⟨s, ?_, hg⟩
  have e : cs.toList = rpC s := e
  unfold rpA
  congr
  exact Array.toList_inj.mp e
set_option maxRecDepth 100000 in
theorem replies_in {H : Type} {enc : TypeId × Value → H} {W : World} {fuel len cap : Nat} {held : Bool} {a : Option Addr} {x : DataW H × List MemPlace} (h : DataW.trod enc Try.prog W 0 (fun _ => true) held fuel 30 [.slice a len cap] = some x) :
    ∃ l : List Rp, len = l.length ∧ Rep W a l ∧ (∀ s ∈ l, s.came W) ∧ l.length ≤ 9223372036854775807 := by
  rcases open_slice Try.underlying30 h with ⟨hcs, _⟩ | ⟨ad, n, c, m, k, D, Pl, hcs, _, hl, hm, hmm, _, hi⟩
  · injection hcs with hcs _
    injection hcs with h1 h2 h3
    subst h1 h2 h3
    exact ⟨[], rfl, ⟨.inl rfl, (fun s hs => by cases hs)⟩, (fun f hf => by cases hf), Nat.zero_le _⟩
  · injection hcs with hcs _
    injection hcs with h1 h2 h3
    subst h1 h2 h3
    simp only [if_true] at hmm
    subst hmm
    have hel : ∀ i, i < len → ∃ f : Rp, (∀ j, j < 2 → W.cell? ((ad.add (i * 2)).add j) = (rpC f)[j]?) ∧ f.came W := by
      intro i hilt
      obtain ⟨cs', hc, ht⟩ := hi i (by omega)
      rw [cellsLrp] at hc
      obtain ⟨f, rfl, hw⟩ := rp_trod ht
      exact ⟨f, (World.cells?_some hc).2.2, hw⟩
    obtain ⟨F, hF⟩ := @choose_lt Rp ⟨rp0⟩ len (fun i f => (∀ j, j < 2 → W.cell? ((ad.add (i * 2)).add j) = (rpC f)[j]?) ∧ f.came W) hel
    refine ⟨(List.range len).map F, by simp, ⟨?_, ?_⟩, ?_, by simp; unfold maxLen at hm; omega⟩
    · rcases Nat.eq_zero_or_pos len with h0 | h0
      · subst h0; exact .inl (by simp)
      · obtain ⟨b, off, spot⟩ := ad
        have h1 := (hF 0 h0).1 0 (by omega)
        have h1 : W.cell? (((⟨b, off, spot⟩ : Addr).add (0 * 2)).add 0) = some (.int .i64 (F 0).code) := h1
        have hspot : spot = none := by simpa [Addr.add] using World.cell?_spot h1
        subst hspot
        refine .inr ⟨b, off, rfl, ?_, fun k hk => ?_⟩
        · have := World.block_lt_of_cell? W _ h1; simpa [Addr.add] using this
        · rw [flat_len rpC 2 rpC_len, List.length_map, List.length_range] at hk
          have hk3 : k / 2 < len := by omega
          have hc := (hF (k / 2) hk3).1 (k % 2) (by omega)
          rw [add_at, add_at, Nat.add_assoc, show k / 2 * 2 + k % 2 = k by omega] at hc
          rw [hc]
          have hg := flat_get rpC 2 rpC_len ((List.range len).map F) (k / 2) (k % 2) rp0 (by simpa using hk3) (by omega)
          rw [show k / 2 * 2 + k % 2 = k by omega] at hg
          rw [hg]
          simp [hk3]
    · intro f hf
      obtain ⟨i, hi, rfl⟩ := List.mem_map.1 hf
      exact (hF i (by simpa using hi)).2.1
    · intro f hf
      obtain ⟨i, hi, rfl⟩ := List.mem_map.1 hf
      exact (hF i (by simpa using hi)).2
end Go.Proofs.Ytpnkkmeeogfeaaa
