/- The cursor over a law's code: what it hands out is some number in range; nothing but the cursor turns. -/
import Derived.Test.YtefoegicjigpaaaLawC
namespace Go.Proofs.Ytefoegicjigpaaa
open Go.RowKit

/-- Block g is a cursor over the bytes l, which lie at A, below the cursor. -/
def Cur (w : World) (g : Nat) (A : Option Addr) (l : List Nat) (c : Nat) : Prop :=
  Bts w g A l ∧ ∃ (i : Nat) (h : Int), i ≤ l.length ∧ w.heap[g]? = some (.cells #[.slice A l.length c, .int .i64 (i : Int), .int .i64 h] 60 (0, 0))
theorem Cur.lt {w : World} {g : Nat} {A : Option Addr} {l : List Nat} {c : Nat} (h : Cur w g A l c) : g < w.heap.size := by
  obtain ⟨_, i, x, _, hg⟩ := h
  exact (Array.getElem?_eq_some_iff.1 hg).1
theorem Cur.below {w w' : World} {g : Nat} {A : Option Addr} {l : List Nat} {c : Nat} (h : Cur w g A l c) {B : Nat} (hb : Below B w w') (hB : g < B) : Cur w' g A l c := by
  obtain ⟨h1, i, x, hi, hg⟩ := h
  exact ⟨h1.below (hb.mono (by omega)), i, x, hi, by rw [hb.block g hB]; exact hg⟩
def NewCur (w : World) (A : Option Addr) (l : List Nat) (c : Nat) (e : Ending) (w' : World) : Prop :=
  e = .returned (.pointer (some ⟨w.heap.size, 0, none⟩)) ∧ Cur w' w.heap.size A l c ∧ Below w.heap.size w w'
theorem newCur_mk (w : World) (A : Option Addr) (l : List Nat) (c : Nat) (h : Int) (hA : Bts w w.heap.size A l) :
    NewCur w A l c (.returned (.pointer (some ⟨w.heap.size, 0, none⟩))) (w.alloc (.cells #[.slice A l.length c, .int .i64 0, .int .i64 h] 60)) := by
  have b : Below w.heap.size w (w.alloc (.cells #[.slice A l.length c, .int .i64 0, .int .i64 h] 60)) := (Below.refl _ _).alloc (Nat.le_refl _) _
  exact ⟨rfl, ⟨hA.below b, 0, h, by omega, heap_alloc_new _ _⟩, b⟩

set_option maxHeartbeats 400000 in
set_option maxRecDepth 100000 in
theorem l1New_any (A : Option Addr) (l : List Nat) (c : Nat) (w : World) (hl : l.length ≤ 2097152) (hA : Bts w w.heap.size A l) (hb : AllB l) :
    Calls Try.prog 36 #[.slice A l.length c] w (NewCur w A l c) := by
  have HF := Lib.hid (fun h => newCur_mk w A l c h hA)
  go_enter Try.func36, Try.ntmps36
  go_wp2
  go_loop [3, 4] (fun h i => ∃ (n : Int) (k : Nat), k ≤ l.length ∧ i = .int .i64 k ∧ h = .int .i64 n) (fun _ i => l.length - (intOf i).toNat)
  case atStart => exact ⟨_, 0, by omega, rfl, rfl⟩
  case round =>
    obtain ⟨n, k, hk, rfl, rfl⟩ := hrel
    by_cases hlt : k < l.length
    · obtain ⟨b, off, rfl, hbB, hc⟩ := hA.at_ hlt
      have hd := hb.getD k
      generalize l.getD k 0 = d at *
      by_cases h4 : k < 4000
      · go_wp2
        go_round
        case rel => exact ⟨_, k + 1, by omega, by go_num, rfl⟩
        case measure => simp [intOf]; omega
      · go_wp2
        go_ret
        exact HF.out _
    · go_wp2
      go_ret
      exact HF.out _

/-- The low eight bits. -/
def low8 (y : Int) : Nat := (bits .and .i64 y 255).toNat
theorem low8_eq (y : Int) : bits .and .i64 y 255 = ((low8 y : Nat) : Int) ∧ low8 y < 256 := by
  have h : bits .and .i64 y 255 = (((BitVec.ofInt 64 y).toNat % 256 : Nat) : Int) := by
    show IntKind.i64.wrap ((BitVec.ofInt 64 y &&& BitVec.ofInt 64 255).toNat : Int) = _
    have e : (BitVec.ofInt 64 (255 : Int)).toNat = 255 := by decide
    rw [BitVec.toNat_and, e, nat_mask8, IntKind.wrap_i64]
    omega
  unfold low8
  rw [h]
  omega
theorem low8_in (y : Int) : 0 ≤ ((low8 y : Nat) : Int) ∧ ((low8 y : Nat) : Int) < 256 := by have := (low8_eq y).2; omega
theorem grown_drawn {a w : World} {row : Option Nat} (h : a.grownBy w row) (n : Nat) : a.grownBy (w.drewN n) row := ⟨h.os, h.tape, h.output, h.size, h.block⟩
def GotByte (w : World) (g : Nat) (A : Option Addr) (l : List Nat) (c : Nat) (e : Ending) (w' : World) : Prop :=
  ∃ x : Nat, x < 256 ∧ e = .returned (.int .i64 (x : Int)) ∧ Cur w' g A l c ∧ w.grownBy w' (some g)

theorem got_byte_next {w w1 : World} {g : Nat} {A : Option Addr} {l : List Nat} {c i : Nat} {h : Int} (n : Nat) (x : Int) (hx : 0 ≤ x ∧ x < 256) (gr : w.grownBy w1 (some g)) (hA : Bts w1 g A l) (hin : i < l.length)
    (hg : w1.heap[g]? = some (.cells #[.slice A l.length c, .int .i64 (i : Int), .int .i64 h] 60 (0, 0))) :
    GotByte w g A l c (.returned (.int .i64 x)) ((w1.setCell ⟨g, 1, none⟩ (.int .i64 ((i : Int) + 1))).drewN n) := by
  have b : Below g w1 ((w1.setCell ⟨g, 1, none⟩ (.int .i64 ((i : Int) + 1))).drewN n) := below_drawn ((Below.refl _ _).setCell (by exact Nat.le_refl _) _) n
  refine ⟨x.toNat, by omega, by rw [Int.toNat_of_nonneg hx.1], ⟨hA.below b, i + 1, h, by omega, ?_⟩, ?_⟩
  · exact heap_setCell_same w1 g 1 _ 60 (.int .i64 ((i : Int) + 1)) hg
  · refine gr.trans ⟨rfl, rfl, rfl, by simp [World.drewN, World.setCell], fun k _ hk => ?_⟩
    exact Below.heap_setCell w1 ⟨g, 1, none⟩ _ k (fun e => hk (by rw [e]))
theorem got_byte_end {w w1 : World} {g : Nat} {A : Option Addr} {l : List Nat} {c i : Nat} {h : Int} (n : Nat) (x : Int) (hx : 0 ≤ x ∧ x < 256) (gr : w.grownBy w1 (some g)) (hA : Bts w1 g A l) (hi : i ≤ l.length)
    (hg : w1.heap[g]? = some (.cells #[.slice A l.length c, .int .i64 (i : Int), .int .i64 h] 60 (0, 0))) :
    GotByte w g A l c (.returned (.int .i64 x)) (w1.drewN n) :=
  ⟨x.toNat, by omega, by rw [Int.toNat_of_nonneg hx.1], ⟨hA, i, h, hi, hg⟩, gr.trans ⟨rfl, rfl, rfl, Nat.le_refl _, fun _ _ _ => rfl⟩⟩

set_option maxHeartbeats 800000 in
set_option maxRecDepth 100000 in
theorem l1Byte_any (A : Option Addr) (l : List Nat) (c g : Nat) (w : World) (hl : l.length ≤ 2097152) (hb : AllB l) (hc : Cur w g A l c) :
    Calls Try.prog 47 #[.pointer (some ⟨g, 0, none⟩)] w (GotByte w g A l c) := by
  obtain ⟨hA, i, h, hi, hg⟩ := hc
  have c2 : w.cell? ⟨g, 2, none⟩ = some (.int .i64 h) := cell_of_row w g 2 _ 60 (0, 0) hg
  have f2 : w.frozen? ⟨g, 2, none⟩ = false := frozen_of_row w g 2 _ 60 hg
  have hl8 : ∀ y : Int, bits .and .i64 y 255 = ((low8 y : Nat) : Int) := fun y => (low8_eq y).1
  have HG := Lib.hid hg
  clear hg
  go_enter Try.func47, Try.ntmps47
  go_wp2
  obtain ⟨h2, hh2⟩ : ∃ h2, h2 = wrap64 (wrap64 (h * 6364136223846793005) + 1442695040888963407) := ⟨_, rfl⟩
  rw [← hh2]
  clear hh2
  have hg1 := heap_setCell_same w g 2 _ 60 (.int .i64 h2) HG.out
  have gr1 : w.grownBy (w.setCell ⟨g, 2, none⟩ (.int .i64 h2)) (some g) := ⟨rfl, rfl, rfl, by simp, fun k _ hk => Below.heap_setCell _ _ _ _ (fun e => hk (by rw [e]))⟩
  have hA1 : Bts (w.setCell ⟨g, 2, none⟩ (.int .i64 h2)) g A l := hA.below ((Below.refl _ _).setCell (by exact Nat.le_refl _) _)
  clear c2 f2 HG
  generalize w.setCell ⟨g, 2, none⟩ (.int .i64 h2) = w1 at *
  have c0 : w1.cell? ⟨g, 0, none⟩ = some (.slice A l.length c) := cell_of_row w1 g 0 _ 60 (0, 0) hg1
  have c1 : w1.cell? ⟨g, 1, none⟩ = some (.int .i64 (i : Int)) := cell_of_row w1 g 1 _ 60 (0, 0) hg1
  have c2 : w1.cell? ⟨g, 2, none⟩ = some (.int .i64 h2) := cell_of_row w1 g 2 _ 60 (0, 0) hg1
  have f1 : w1.frozen? ⟨g, 1, none⟩ = false := frozen_of_row w1 g 1 _ 60 hg1
  have HG := Lib.hid hg1
  clear hg1
  by_cases hin : i < l.length
  · obtain ⟨b, off, rfl, hbB, hcell⟩ := hA1.at_ hin
    have hd := hb.getD i
    generalize l.getD i 0 = d at *
    go_quiet (fail)
    go_wp2
    go_quiet (fail)
    go_wp2
    go_quiet (fail)
    go_wp2
    go_ret
    exact got_byte_next _ _ (low8_in _) gr1 hA1 hin HG.out
  · have hge : decide ((i : Int) < (l.length : Int)) = false := by simp; omega
    go_quiet (fail)
    go_wp2
    go_quiet (fail)
    go_wp2
    go_ret
    exact got_byte_end _ _ (low8_in _) (grown_drawn gr1 _) hA1 hi HG.out
end Go.Proofs.Ytefoegicjigpaaa
