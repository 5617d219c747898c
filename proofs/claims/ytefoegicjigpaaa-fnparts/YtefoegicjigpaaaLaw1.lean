/- The walks of the laws over the checksum and over PutNum, out of the contracts. -/
import Derived.Test.YtefoegicjigpaaaCrc
import Derived.Test.YtefoegicjigpaaaHelp
import Derived.OpenShut
namespace Go.Proofs.Ytefoegicjigpaaa
open Go.RowKit

/-- A slice of bytes that came in, as a list. -/
theorem bytes_in (w : World) (a : Option Addr) (len cap : Nat) (zs : List Int)
    (h : (a = none ∧ len = 0 ∧ cap = 0 ∧ zs = []) ∨
      ∃ x, a = some x ∧ len ≤ cap ∧ cap ≤ maxLen ∧ zs.length = cap ∧ (∀ i, i < zs.length → w.cell? (x.add i) = some (.int .u8 (zs.getD i 0))) ∧ ∀ n ∈ zs, (Lit.int .u8 n).wf = true) :
    ∃ l : List Nat, len = l.length ∧ Bts w w.heap.size a l ∧ AllB l ∧ l.length ≤ maxLen ∧ len ≤ cap := by
  rcases h with ⟨rfl, rfl, rfl, rfl⟩ | ⟨x, rfl, hl, hm, hz, hc, hwf⟩
  · exact ⟨[], rfl, .inl rfl, fun b hb => by simp at hb, by simp, by omega⟩
  · have hb : ∀ n ∈ zs, 0 ≤ n ∧ n < 256 := fun n hn => by
      have := bounds_u8 (hwf n hn); omega
    refine ⟨(zs.take len).map Int.toNat, by simp; omega, ?_, ?_, by simp; omega, hl⟩
    · rcases Nat.eq_zero_or_pos len with h0 | h0
      · subst h0; exact .inl (by simp)
      · obtain ⟨b, off, spot⟩ := x
        have h1 := hc 0 (by omega)
        have hspot : spot = none := by simpa [Addr.add] using World.cell?_spot h1
        subst hspot
        refine .inr ⟨b, off, rfl, ?_, fun k hk => ?_⟩
        · have := World.block_lt_of_cell? w _ h1; simpa [Addr.add] using this
        · have hk' : k < len := by simp at hk; omega
          have := hc k (by omega)
          have ha : (⟨b, off, none⟩ : Addr).add k = ⟨b, off + k, none⟩ := by unfold Addr.add; split <;> simp_all
          rw [ha] at this
          rw [this]
          have hbk := hb (zs.getD k 0) (by rw [List.getD_eq_getElem?_getD, List.getElem?_eq_getElem (by omega)]; exact List.getElem_mem _)
          have e : ((zs.take len).map Int.toNat).getD k 0 = (zs.getD k 0).toNat := by
            simp [hk']
            rw [List.getElem?_eq_getElem (by omega)]; rfl
          rw [e, Int.toNat_of_nonneg hbk.1]
    · intro b hb'
      simp only [List.mem_map] at hb'
      obtain ⟨n, hn, rfl⟩ := hb'
      have := hb n (List.mem_of_mem_take hn)
      omega

/-- toByteS, said of a world of its own name. -/
theorem toB_new (A : Option Addr) (l : List Nat) (c B : Nat) (w : World) (hl : l.length ≤ 2097152) (hA : Bts w B A l) (hB : B ≤ w.heap.size) :
    Calls Try.prog 28 #[.slice A l.length c] w fun e w' => ∃ A' c', e = .returned (.slice A' l.length c') ∧ OwnB w' w.heap.size (.slice A' l.length c') l ∧ Below w.heap.size w w' := by
  refine (toB_any A l c B w hl hA hB).mono ?_
  rintro e w1 ⟨rfl, rfl⟩
  exact ⟨_, _, rfl, Own_new w _ l (Nat.le_refl _) hl, (Below.refl _ _).alloc (Nat.le_refl _) _⟩
theorem OwnB.bts {w : World} {base : Nat} {A : Option Addr} {c : Nat} {l : List Nat} (h : OwnB w base (.slice A l.length c) l) : Bts w w.heap.size A l := by
  obtain ⟨A', c', he, hb, _⟩ := OwnB.form h
  injection he with h1 _ _
  rw [h1]; exact hb

set_option maxHeartbeats 400000 in
theorem FnExactCrc_walk (A : Option Addr) (l : List Nat) (cap : Nat) (w : World) (hA : Bts w w.heap.size A l) (hb : AllB l) (hm : l.length ≤ maxLen) :
    Calls Try.prog 11 #[.slice A l.length cap] w fun e w' => e = .returned (.bool true) ∧ Below w.heap.size w w' := by
  unfold maxLen at hm
  by_cases hbig : 1048576 < l.length
  · go_enter Try.func11, Try.ntmps11
    go_wp2
    go_ret
    exact ⟨rfl, Below.refl _ _⟩
  · have hle : l.length ≤ 2097152 := by omega
    have hne : ((M.crc l : Int) != (M.crc l : Int)) = false := by simp
    go_enter Try.func11, Try.ntmps11
    go_wp2_with fail
    refine (toB_new A l cap w.heap.size _ hle hA (Nat.le_refl _)).mono ?_
    rintro e w1 ⟨A1, c1, rfl, o1, b1⟩
    go_wp2_with fail
    refine (crc_spec A1 l c1 _ _ hle o1.bts hb).mono ?_
    rintro e w' ⟨rfl, rfl⟩
    go_wp2_with fail
    refine (toB_new A l cap w.heap.size _ hle (hA.below b1) b1.size).mono ?_
    rintro e w2 ⟨A2, c2, rfl, o2, b2⟩
    go_wp2_with fail
    refine (crc_impl A2 l c2 _ _ hle o2.bts hb).mono ?_
    rintro e w' ⟨rfl, rfl⟩
    go_wp2_with fail
    have b2' : Below w.heap.size w w2 := b1.trans (b2.mono b1.size)
    refine (toB_new A l cap w.heap.size _ hle (hA.below b2') b2'.size).mono ?_
    rintro e w3 ⟨A3, c3, rfl, o3, b3⟩
    go_wp2_with fail
    refine (eqB_same A2 A3 l c2 c3 _ _ _ hle (o2.below b3).bts o3.bts).mono ?_
    rintro e w' ⟨rfl, n, rfl⟩
    go_wp2
    go_ret
    exact ⟨rfl, below_drawn (b2'.trans (b3.mono b2'.size)) n⟩
end Go.Proofs.Ytefoegicjigpaaa
