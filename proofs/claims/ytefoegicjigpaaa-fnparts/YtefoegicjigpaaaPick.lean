/- What the cursor picks: a number below a bound, a string or an int of a list. -/
import Derived.Test.YtefoegicjigpaaaCur
namespace Go.Proofs.Ytefoegicjigpaaa
open Go.RowKit

def GotBelow (w : World) (g : Nat) (A : Option Addr) (l : List Nat) (c n : Nat) (e : Ending) (w' : World) : Prop :=
  ∃ x : Nat, x < n ∧ e = .returned (.int .i64 (x : Int)) ∧ Cur w' g A l c ∧ w.grownBy w' (some g)
theorem got_below {w w' : World} {g : Nat} {A : Option Addr} {l : List Nat} {c n : Nat} {x : Int} (hx : 0 ≤ x ∧ x < n) (hc : Cur w' g A l c) (gr : w.grownBy w' (some g)) : GotBelow w g A l c n (.returned (.int .i64 x)) w' :=
  ⟨x.toNat, by omega, by rw [Int.toNat_of_nonneg hx.1], hc, gr⟩

set_option maxHeartbeats 400000 in
theorem l1Below_any (A : Option Addr) (l : List Nat) (c g n : Nat) (w : World) (hl : l.length ≤ 2097152) (hb : AllB l) (hn : 0 < n) (hn2 : n ≤ 2147483648) (hc : Cur w g A l c) :
    Calls Try.prog 45 #[.pointer (some ⟨g, 0, none⟩), .int .i64 n] w (GotBelow w g A l c n) := by
  by_cases h256 : n ≤ 256
  · go_enter Try.func45, Try.ntmps45
    go_wp2_with fail
    refine (l1Byte_any A l c g _ hl hb hc).mono ?_
    rintro e w1 ⟨x, hx, rfl, hc1, gr1⟩
    go_wp2
    go_ret
    exact got_below ⟨Int.emod_nonneg _ (by omega), Int.emod_lt_of_pos _ (by omega)⟩ hc1 gr1
  · go_enter Try.func45, Try.ntmps45
    go_wp2_with fail
    refine (l1Byte_any A l c g _ hl hb hc).mono ?_
    rintro e w1 ⟨x, hx, rfl, hc1, gr1⟩
    go_wp2_with fail
    refine (l1Byte_any A l c g _ hl hb hc1).mono ?_
    rintro e w2 ⟨y, hy, rfl, hc2, gr2⟩
    go_wp2_with fail
    refine (l1Byte_any A l c g _ hl hb hc2).mono ?_
    rintro e w3 ⟨z, hz, rfl, hc3, gr3⟩
    go_wp2_with fail
    refine (l1Byte_any A l c g _ hl hb hc3).mono ?_
    rintro e w4 ⟨u, hu, rfl, hc4, gr4⟩
    go_wp2
    go_ret
    exact got_below ⟨Int.emod_nonneg _ (by omega), Int.emod_lt_of_pos _ (by omega)⟩ hc4 (gr1.trans (gr2.trans (gr3.trans gr4)))

def GotPick (w : World) (g : Nat) (A : Option Addr) (l : List Nat) (c : Nat) (xs : List ByteArray) (e : Ending) (w' : World) : Prop :=
  ∃ s ∈ xs, e = .returned (.string s) ∧ Cur w' g A l c ∧ w.grownBy w' (some g)
theorem getD_mem {α : Type} (xs : List α) (k : Nat) (d : α) (h : k < xs.length) : xs.getD k d ∈ xs := by
  rw [List.getD_eq_getElem?_getD, List.getElem?_eq_getElem h]; exact List.getElem_mem _
set_option maxHeartbeats 400000 in
theorem l1Pick_any (A : Option Addr) (l : List Nat) (c g : Nat) (xs : List ByteArray) (p m c' : Nat) (w : World) (hl : l.length ≤ 2097152) (hb : AllB l) (hc : Cur w g A l c)
    (hm : m = xs.length) (h0 : 0 < xs.length) (h1 : xs.length ≤ 256) (hp : p ≠ g) (hx : ∀ k, k < xs.length → w.cell? ⟨p, k, none⟩ = some (.string (xs.getD k ByteArray.empty))) :
    Calls Try.prog 35 #[.pointer (some ⟨g, 0, none⟩), .slice (some ⟨p, 0, none⟩) m c'] w (GotPick w g A l c xs) := by
  subst hm
  have HX := Lib.hid hx
  clear hx
  go_enter Try.func35, Try.ntmps35
  go_wp2_with fail
  refine (l1Below_any A l c g xs.length _ hl hb h0 (by omega) hc).mono ?_
  rintro e w1 ⟨x, hx, rfl, hc1, gr1⟩
  have hcell : w1.cell? ⟨p, x, none⟩ = some (.string (xs.getD x ByteArray.empty)) := gr1.cell (HX.out x hx) (by simpa using hp)
  have hs := getD_mem xs x ByteArray.empty hx
  generalize xs.getD x ByteArray.empty = s at *
  go_wp2
  go_ret
  exact ⟨s, hs, rfl, hc1, gr1⟩

theorem strings_new (w : World) (xs : List ByteArray) : ∀ k, k < xs.length → (w.alloc (.cells (xs.map Value.string).toArray 9)).cell? ⟨w.heap.size, k, none⟩ = some (.string (xs.getD k ByteArray.empty)) := by
  intro k hk
  rw [World.cell?_alloc_at _ _ _ _ rfl]
  simp [hk]
/-- The four strings of DrawPutText. -/
def fourTexts : List ByteArray := [⟨#[]⟩, ⟨#[97]⟩, ⟨#[116, 119, 111, 32, 119, 111, 114, 100, 115]⟩, ⟨#[0, 255]⟩]
def GotText (w : World) (xs : List ByteArray) (e : Ending) (w' : World) : Prop := ∃ s ∈ xs, e = .returned (.string s) ∧ Below w.heap.size w w'
set_option maxHeartbeats 400000 in
theorem drawPutText_any (A : Option Addr) (l : List Nat) (c : Nat) (w : World) (hl : l.length ≤ 2097152) (hA : Bts w w.heap.size A l) (hb : AllB l) :
    Calls Try.prog 14 #[.slice A l.length c] w (GotText w fourTexts) := by
  go_enter Try.func14, Try.ntmps14
  go_wp2_with fail
  refine (l1New_any A l c _ hl hA hb).mono ?_
  rintro e w1 ⟨rfl, hc1, b1⟩
  have hlt := hc1.lt
  have b2 : Below w1.heap.size w1 (w1.alloc (.cells (fourTexts.map Value.string).toArray 9)) := (Below.refl _ _).alloc (Nat.le_refl _) _
  have hx := strings_new w1 fourTexts
  go_wp2_with fail
  refine (l1Pick_any A l c w.heap.size fourTexts w1.heap.size 4 4 _ hl hb (hc1.below b2 hlt) rfl (by decide) (by decide) (by omega) hx).mono ?_
  rintro e w2 ⟨s, hs, rfl, hc2, gr2⟩
  go_wp2
  go_ret
  exact ⟨s, hs, rfl, (b1.trans (b2.mono b1.size)).grown gr2 (by simp; omega) (by simp)⟩
end Go.Proofs.Ytefoegicjigpaaa
