/- Words of our own for byte rows, and the cursor over a law's code, at this seat's numbers. -/
import Derived.Test.YtefoegicjigpaaaDoorRows
import Derived.WalkKit
import Derived.WalkSpells
import Derived.WalkLawsBesides
import Derived.Outline
import Derived.Lib.Hide
import Derived.IntWalk
import Derived.BigQuiet
import Derived.Deep.QuietTactic
import Derived.Deep.Draws
import Derived.Maps.AppendAt
import Derived.Laws.BytesArg
import Derived.OpenShut
namespace Go.Proofs.YtefoegicjigpaaaDoor
open Go.RowKit
/-- Every number of the list is a byte. -/
def AllB (l : List Nat) : Prop := ∀ b ∈ l, b < 256
theorem AllB.getD {l : List Nat} (h : AllB l) (k : Nat) : l.getD k 0 < 256 := by
  rcases Nat.lt_or_ge k l.length with hk | hk
  · rw [List.getD_eq_getElem?_getD, List.getElem?_eq_getElem hk]; exact h _ (List.getElem_mem hk)
  · rw [List.getD_eq_getElem?_getD, List.getElem?_eq_none hk]; simp
theorem AllB.take {l : List Nat} (h : AllB l) (k : Nat) : AllB (l.take k) := fun b hb => h b (List.mem_of_mem_take hb)
theorem take_snoc {α : Type} (l : List α) (k : Nat) (d : α) (h : k < l.length) : l.take (k + 1) = l.take k ++ [l.getD k d] := by
  rw [List.take_succ_eq_append_getElem h, List.getD_eq_getElem?_getD, List.getElem?_eq_getElem h]; rfl
/-- The slice at A reads as the bytes l, and lies below block B. -/
def Bts (w : World) (B : Nat) (A : Option Addr) (l : List Nat) : Prop :=
  l = [] ∨ ∃ b off, A = some ⟨b, off, none⟩ ∧ b < B ∧ ∀ k, k < l.length → w.cell? ⟨b, off + k, none⟩ = some (.int .u8 (l.getD k 0))
theorem Bts.at_ {w : World} {B : Nat} {A : Option Addr} {l : List Nat} (h : Bts w B A l) {k : Nat} (hk : k < l.length) :
    ∃ b off, A = some ⟨b, off, none⟩ ∧ b < B ∧ w.cell? ⟨b, off + k, none⟩ = some (.int .u8 (l.getD k 0)) := by
  rcases h with rfl | ⟨b, off, e, hb, hc⟩
  · simp at hk
  · exact ⟨b, off, e, hb, hc k hk⟩
theorem Bts.below {w w' : World} {B : Nat} {A : Option Addr} {l : List Nat} (h : Bts w B A l) (hb : Below B w w') : Bts w' B A l := by
  rcases h with h | ⟨b, off, e, hlt, hc⟩
  · exact .inl h
  · exact .inr ⟨b, off, e, hlt, fun k hk => (hb.cell (by exact hlt)).trans (hc k hk)⟩
theorem Bts.more {w : World} {B B' : Nat} {A : Option Addr} {l : List Nat} (h : Bts w B A l) (hB : B ≤ B') : Bts w B' A l := by
  rcases h with h | ⟨b, off, e, hlt, hc⟩
  · exact .inl h
  · exact .inr ⟨b, off, e, by omega, hc⟩
theorem Bts.drewN {w : World} {B : Nat} {A : Option Addr} {l : List Nat} (h : Bts w B A l) (n : Nat) : Bts (w.drewN n) B A l := h
theorem below_drawn {B : Nat} {a w : World} (h : Below B a w) (n : Nat) : Below B a (w.drewN n) := ⟨h.os, h.tape, h.output, h.size, h.block⟩
/-- Ints of equal value are equal endings. -/
theorem ret_int {k : IntKind} {a b : Int} (h : a = b) : Ending.returned (.int k a) = .returned (.int k b) := by rw [h]
/-- A slice of bytes that came in, as a list. -/
theorem bytes_in (w : World) (a : Option Addr) (len cap : Nat) (zs : List Int)
    (h : (a = none ∧ len = 0 ∧ cap = 0 ∧ zs = []) ∨
      ∃ x, a = some x ∧ len ≤ cap ∧ cap ≤ maxLen ∧ zs.length = cap ∧ (∀ i, i < zs.length → w.cell? (x.add i) = some (.int .u8 (zs.getD i 0))) ∧ ∀ n ∈ zs, (Lit.int .u8 n).wf = true) :
    ∃ l : List Nat, len = l.length ∧ Bts w w.heap.size a l ∧ AllB l ∧ l.length ≤ maxLen ∧ len ≤ cap := by
  rcases h with ⟨rfl, rfl, rfl, rfl⟩ | ⟨x, rfl, hl, hm, hz, hc, hwf⟩
  · exact ⟨[], rfl, .inl rfl, fun b hb => by simp at hb, by simp, by omega⟩
  · have hb : ∀ n ∈ zs, 0 ≤ n ∧ n < 256 := fun n hn => by
      have := bounds_u8 (hwf n hn); omega
    refine ⟨(zs.take len).map Int.toNat, by simp; omega, ?_, ?_, by simp; omega, hl⟩
    · rcases Nat.eq_zero_or_pos len with h0 | h0
      · subst h0; exact .inl (by simp)
      · obtain ⟨b, off, spot⟩ := x
        have h1 := hc 0 (by omega)
        have hspot : spot = none := by simpa [Addr.add] using World.cell?_spot h1
        subst hspot
        refine .inr ⟨b, off, rfl, ?_, fun k hk => ?_⟩
        · have := World.block_lt_of_cell? w _ h1; simpa [Addr.add] using this
        · have hk' : k < len := by simp at hk; omega
          have := hc k (by omega)
          have ha : (⟨b, off, none⟩ : Addr).add k = ⟨b, off + k, none⟩ := by unfold Addr.add; split <;> simp_all
          rw [ha] at this
          rw [this]
          have hbk := hb (zs.getD k 0) (by rw [List.getD_eq_getElem?_getD, List.getElem?_eq_getElem (by omega)]; exact List.getElem_mem _)
          have e : ((zs.take len).map Int.toNat).getD k 0 = (zs.getD k 0).toNat := by
            simp [hk']
            rw [List.getElem?_eq_getElem (by omega)]; rfl
          rw [e, Int.toNat_of_nonneg hbk.1]
    · intro b hb'
      simp only [List.mem_map] at hb'
      obtain ⟨n, hn, rfl⟩ := hb'
      have := hb n (List.mem_of_mem_take hn)
      omega
theorem add_at (b off k : Nat) : (⟨b, off, none⟩ : Addr).add k = ⟨b, off + k, none⟩ := by unfold Addr.add; split <;> simp_all
theorem one_new (w : World) (b : Nat) (z : Int) (h : z = b) : ∀ k, k < [b].length → (w.alloc (.cells #[.int .u8 z] 5)).cell? ⟨w.heap.size, 0 + k, none⟩ = some (.int .u8 (([b].getD k 0 : Nat) : Int)) := by
  intro k hk
  simp at hk
  subst hk
  simp [h]
theorem big_no (A : Option Addr) (n c : Nat) (w : World) (h : n ≤ 1048576) : Calls Tryd.prog 6 #[.slice A n c] w fun e w' => e = .returned (.bool false) ∧ w = w' := by
  have hd : decide (1048576 < (n : Int)) = false := by simp; omega
  go_enter Tryd.func6, Tryd.ntmps6
  go_wp2
  go_ret
  exact ⟨rfl, rfl⟩
theorem big_yes (A : Option Addr) (n c : Nat) (w : World) (h : 1048576 < n) : Calls Tryd.prog 6 #[.slice A n c] w fun e w' => e = .returned (.bool true) ∧ w = w' := by
  have hd : decide (1048576 < (n : Int)) = true := by simp; omega
  go_enter Tryd.func6, Tryd.ntmps6
  go_wp2
  go_ret
  exact ⟨rfl, rfl⟩
/-- Block g is a cursor over the bytes l, which lie at A, below the cursor. -/
def Cur (w : World) (g : Nat) (A : Option Addr) (l : List Nat) (c : Nat) : Prop :=
  Bts w g A l ∧ ∃ (i : Nat) (h : Int), i ≤ l.length ∧ w.heap[g]? = some (.cells #[.slice A l.length c, .int .i64 (i : Int), .int .i64 h] 37 (0, 0))
theorem Cur.lt {w : World} {g : Nat} {A : Option Addr} {l : List Nat} {c : Nat} (h : Cur w g A l c) : g < w.heap.size := by
  obtain ⟨_, i, x, _, hg⟩ := h
  exact (Array.getElem?_eq_some_iff.1 hg).1
theorem Cur.below {w w' : World} {g : Nat} {A : Option Addr} {l : List Nat} {c : Nat} (h : Cur w g A l c) {B : Nat} (hb : Below B w w') (hB : g < B) : Cur w' g A l c := by
  obtain ⟨h1, i, x, hi, hg⟩ := h
  exact ⟨h1.below (hb.mono (by omega)), i, x, hi, by rw [hb.block g hB]; exact hg⟩
def NewCur (w : World) (A : Option Addr) (l : List Nat) (c : Nat) (e : Ending) (w' : World) : Prop :=
  e = .returned (.pointer (some ⟨w.heap.size, 0, none⟩)) ∧ Cur w' w.heap.size A l c ∧ Below w.heap.size w w'
theorem newCur_mk (w : World) (A : Option Addr) (l : List Nat) (c : Nat) (h : Int) (hA : Bts w w.heap.size A l) :
    NewCur w A l c (.returned (.pointer (some ⟨w.heap.size, 0, none⟩))) (w.alloc (.cells #[.slice A l.length c, .int .i64 0, .int .i64 h] 37)) := by
  have b : Below w.heap.size w (w.alloc (.cells #[.slice A l.length c, .int .i64 0, .int .i64 h] 37)) := (Below.refl _ _).alloc (Nat.le_refl _) _
  exact ⟨rfl, ⟨hA.below b, 0, h, by omega, heap_alloc_new _ _⟩, b⟩
set_option maxHeartbeats 400000 in
set_option maxRecDepth 100000 in
theorem l1New_any (A : Option Addr) (l : List Nat) (c : Nat) (w : World) (hl : l.length ≤ 2097152) (hA : Bts w w.heap.size A l) (hb : AllB l) :
    Calls Tryd.prog 13 #[.slice A l.length c] w (NewCur w A l c) := by
  have HF := Lib.hid (fun h => newCur_mk w A l c h hA)
  go_enter Tryd.func13, Tryd.ntmps13
  go_wp2
  go_loop [3, 4] (fun h i => ∃ (n : Int) (k : Nat), k ≤ l.length ∧ i = .int .i64 k ∧ h = .int .i64 n) (fun _ i => l.length - (intOf i).toNat)
  case atStart => exact ⟨_, 0, by omega, rfl, rfl⟩
  case round =>
    obtain ⟨n, k, hk, rfl, rfl⟩ := hrel
    by_cases hlt : k < l.length
    · obtain ⟨b, off, rfl, hbB, hc⟩ := hA.at_ hlt
      have hd := hb.getD k
      generalize l.getD k 0 = d at *
      by_cases h4 : k < 4000
      · go_wp2
        go_round
        case rel => exact ⟨_, k + 1, by omega, by go_num, rfl⟩
        case measure => simp [intOf]; omega
      · go_wp2
        go_ret
        exact HF.out _
    · go_wp2
      go_ret
      exact HF.out _
/-- The low eight bits. -/
def low8 (y : Int) : Nat := (bits .and .i64 y 255).toNat
theorem low8_eq (y : Int) : bits .and .i64 y 255 = ((low8 y : Nat) : Int) ∧ low8 y < 256 := by
  have h : bits .and .i64 y 255 = (((BitVec.ofInt 64 y).toNat % 256 : Nat) : Int) := by
    show IntKind.i64.wrap ((BitVec.ofInt 64 y &&& BitVec.ofInt 64 255).toNat : Int) = _
    have e : (BitVec.ofInt 64 (255 : Int)).toNat = 255 := by decide
    rw [BitVec.toNat_and, e, nat_mask8, IntKind.wrap_i64]
    omega
  unfold low8
  rw [h]
  omega
theorem low8_in (y : Int) : 0 ≤ ((low8 y : Nat) : Int) ∧ ((low8 y : Nat) : Int) < 256 := by have := (low8_eq y).2; omega
theorem grown_drawn {a w : World} {row : Option Nat} (h : a.grownBy w row) (n : Nat) : a.grownBy (w.drewN n) row := ⟨h.os, h.tape, h.output, h.size, h.block⟩
def GotByte (w : World) (g : Nat) (A : Option Addr) (l : List Nat) (c : Nat) (e : Ending) (w' : World) : Prop :=
  ∃ x : Nat, x < 256 ∧ e = .returned (.int .i64 (x : Int)) ∧ Cur w' g A l c ∧ w.grownBy w' (some g)
theorem got_byte_next {w w1 : World} {g : Nat} {A : Option Addr} {l : List Nat} {c i : Nat} {h : Int} (n : Nat) (x : Int) (hx : 0 ≤ x ∧ x < 256) (gr : w.grownBy w1 (some g)) (hA : Bts w1 g A l) (hin : i < l.length)
    (hg : w1.heap[g]? = some (.cells #[.slice A l.length c, .int .i64 (i : Int), .int .i64 h] 37 (0, 0))) :
    GotByte w g A l c (.returned (.int .i64 x)) ((w1.setCell ⟨g, 1, none⟩ (.int .i64 ((i : Int) + 1))).drewN n) := by
  have b : Below g w1 ((w1.setCell ⟨g, 1, none⟩ (.int .i64 ((i : Int) + 1))).drewN n) := below_drawn ((Below.refl _ _).setCell (by exact Nat.le_refl _) _) n
  refine ⟨x.toNat, by omega, by rw [Int.toNat_of_nonneg hx.1], ⟨hA.below b, i + 1, h, by omega, ?_⟩, ?_⟩
  · exact heap_setCell_same w1 g 1 _ 37 (.int .i64 ((i : Int) + 1)) hg
  · refine gr.trans ⟨rfl, rfl, rfl, by simp [World.drewN, World.setCell], fun k _ hk => ?_⟩
    exact Below.heap_setCell w1 ⟨g, 1, none⟩ _ k (fun e => hk (by rw [e]))
theorem got_byte_end {w w1 : World} {g : Nat} {A : Option Addr} {l : List Nat} {c i : Nat} {h : Int} (n : Nat) (x : Int) (hx : 0 ≤ x ∧ x < 256) (gr : w.grownBy w1 (some g)) (hA : Bts w1 g A l) (hi : i ≤ l.length)
    (hg : w1.heap[g]? = some (.cells #[.slice A l.length c, .int .i64 (i : Int), .int .i64 h] 37 (0, 0))) :
    GotByte w g A l c (.returned (.int .i64 x)) (w1.drewN n) :=
  ⟨x.toNat, by omega, by rw [Int.toNat_of_nonneg hx.1], ⟨hA, i, h, hi, hg⟩, gr.trans ⟨rfl, rfl, rfl, Nat.le_refl _, fun _ _ _ => rfl⟩⟩
set_option maxHeartbeats 800000 in
set_option maxRecDepth 100000 in
theorem l1Byte_any (A : Option Addr) (l : List Nat) (c g : Nat) (w : World) (hl : l.length ≤ 2097152) (hb : AllB l) (hc : Cur w g A l c) :
    Calls Tryd.prog 20 #[.pointer (some ⟨g, 0, none⟩)] w (GotByte w g A l c) := by
  obtain ⟨hA, i, h, hi, hg⟩ := hc
  have c2 : w.cell? ⟨g, 2, none⟩ = some (.int .i64 h) := cell_of_row w g 2 _ 37 (0, 0) hg
  have f2 : w.frozen? ⟨g, 2, none⟩ = false := frozen_of_row w g 2 _ 37 hg
  have hl8 : ∀ y : Int, bits .and .i64 y 255 = ((low8 y : Nat) : Int) := fun y => (low8_eq y).1
  have HG := Lib.hid hg
  clear hg
  go_enter Tryd.func20, Tryd.ntmps20
  go_wp2
  obtain ⟨h2, hh2⟩ : ∃ h2, h2 = wrap64 (wrap64 (h * 6364136223846793005) + 1442695040888963407) := ⟨_, rfl⟩
  rw [← hh2]
  clear hh2
  have hg1 := heap_setCell_same w g 2 _ 37 (.int .i64 h2) HG.out
  have gr1 : w.grownBy (w.setCell ⟨g, 2, none⟩ (.int .i64 h2)) (some g) := ⟨rfl, rfl, rfl, by simp, fun k _ hk => Below.heap_setCell _ _ _ _ (fun e => hk (by rw [e]))⟩
  have hA1 : Bts (w.setCell ⟨g, 2, none⟩ (.int .i64 h2)) g A l := hA.below ((Below.refl _ _).setCell (by exact Nat.le_refl _) _)
  clear c2 f2 HG
  generalize w.setCell ⟨g, 2, none⟩ (.int .i64 h2) = w1 at *
  have c0 : w1.cell? ⟨g, 0, none⟩ = some (.slice A l.length c) := cell_of_row w1 g 0 _ 37 (0, 0) hg1
  have c1 : w1.cell? ⟨g, 1, none⟩ = some (.int .i64 (i : Int)) := cell_of_row w1 g 1 _ 37 (0, 0) hg1
  have c2 : w1.cell? ⟨g, 2, none⟩ = some (.int .i64 h2) := cell_of_row w1 g 2 _ 37 (0, 0) hg1
  have f1 : w1.frozen? ⟨g, 1, none⟩ = false := frozen_of_row w1 g 1 _ 37 hg1
  have HG := Lib.hid hg1
  clear hg1
  by_cases hin : i < l.length
  · obtain ⟨b, off, rfl, hbB, hcell⟩ := hA1.at_ hin
    have hd := hb.getD i
    generalize l.getD i 0 = d at *
    go_quiet (fail)
    go_wp2
    go_quiet (fail)
    go_wp2
    go_quiet (fail)
    go_wp2
    go_ret
    exact got_byte_next _ _ (low8_in _) gr1 hA1 hin HG.out
  · have hge : decide ((i : Int) < (l.length : Int)) = false := by simp; omega
    go_quiet (fail)
    go_wp2
    go_quiet (fail)
    go_wp2
    go_ret
    exact got_byte_end _ _ (low8_in _) (grown_drawn gr1 _) hA1 hi HG.out
def GotBelow (w : World) (g : Nat) (A : Option Addr) (l : List Nat) (c n : Nat) (e : Ending) (w' : World) : Prop :=
  ∃ x : Nat, x < n ∧ e = .returned (.int .i64 (x : Int)) ∧ Cur w' g A l c ∧ w.grownBy w' (some g)
theorem got_below {w w' : World} {g : Nat} {A : Option Addr} {l : List Nat} {c n : Nat} {x : Int} (hx : 0 ≤ x ∧ x < n) (hc : Cur w' g A l c) (gr : w.grownBy w' (some g)) : GotBelow w g A l c n (.returned (.int .i64 x)) w' :=
  ⟨x.toNat, by omega, by rw [Int.toNat_of_nonneg hx.1], hc, gr⟩
set_option maxHeartbeats 400000 in
theorem l1Below_any (A : Option Addr) (l : List Nat) (c g n : Nat) (w : World) (hl : l.length ≤ 2097152) (hb : AllB l) (hn : 0 < n) (hn2 : n ≤ 2147483648) (hc : Cur w g A l c) :
    Calls Tryd.prog 17 #[.pointer (some ⟨g, 0, none⟩), .int .i64 n] w (GotBelow w g A l c n) := by
  by_cases h256 : n ≤ 256
  · go_enter Tryd.func17, Tryd.ntmps17
    go_wp2_with fail
    refine (l1Byte_any A l c g _ hl hb hc).mono ?_
    rintro e w1 ⟨x, hx, rfl, hc1, gr1⟩
    go_wp2
    go_ret
    exact got_below ⟨Int.emod_nonneg _ (by omega), Int.emod_lt_of_pos _ (by omega)⟩ hc1 gr1
  · go_enter Tryd.func17, Tryd.ntmps17
    go_wp2_with fail
    refine (l1Byte_any A l c g _ hl hb hc).mono ?_
    rintro e w1 ⟨x, hx, rfl, hc1, gr1⟩
    go_wp2_with fail
    refine (l1Byte_any A l c g _ hl hb hc1).mono ?_
    rintro e w2 ⟨y, hy, rfl, hc2, gr2⟩
    go_wp2_with fail
    refine (l1Byte_any A l c g _ hl hb hc2).mono ?_
    rintro e w3 ⟨z, hz, rfl, hc3, gr3⟩
    go_wp2_with fail
    refine (l1Byte_any A l c g _ hl hb hc3).mono ?_
    rintro e w4 ⟨u, hu, rfl, hc4, gr4⟩
    go_wp2
    go_ret
    exact got_below ⟨Int.emod_nonneg _ (by omega), Int.emod_lt_of_pos _ (by omega)⟩ hc4 (gr1.trans (gr2.trans (gr3.trans gr4)))
theorem getD_mem {α : Type} (xs : List α) (k : Nat) (d : α) (h : k < xs.length) : xs.getD k d ∈ xs := by
  rw [List.getD_eq_getElem?_getD, List.getElem?_eq_getElem h]; exact List.getElem_mem _
def GotInt (w : World) (g : Nat) (A : Option Addr) (l : List Nat) (c : Nat) (xs : List Int) (e : Ending) (w' : World) : Prop :=
  ∃ n ∈ xs, e = .returned (.int .i64 n) ∧ Cur w' g A l c ∧ w.grownBy w' (some g)
set_option maxHeartbeats 400000 in
theorem l1PickInt_any (A : Option Addr) (l : List Nat) (c g : Nat) (xs : List Int) (p m c' : Nat) (w : World) (hl : l.length ≤ 2097152) (hb : AllB l) (hc : Cur w g A l c)
    (hm : m = xs.length) (h0 : 0 < xs.length) (h1 : xs.length ≤ 256) (hp : p ≠ g) (hx : ∀ k, k < xs.length → w.cell? ⟨p, k, none⟩ = some (.int .i64 (xs.getD k 0))) :
    Calls Tryd.prog 12 #[.pointer (some ⟨g, 0, none⟩), .slice (some ⟨p, 0, none⟩) m c'] w (GotInt w g A l c xs) := by
  subst hm
  have HX := Lib.hid hx
  clear hx
  go_enter Tryd.func12, Tryd.ntmps12
  go_wp2_with fail
  refine (l1Below_any A l c g xs.length _ hl hb h0 (by omega) hc).mono ?_
  rintro e w1 ⟨x, hx, rfl, hc1, gr1⟩
  have hcell : w1.cell? ⟨p, x, none⟩ = some (.int .i64 (xs.getD x 0)) := gr1.cell (HX.out x hx) (by simpa using hp)
  have hs := getD_mem xs x 0 hx
  generalize xs.getD x 0 = s at *
  go_wp2
  go_ret
  exact ⟨s, hs, rfl, hc1, gr1⟩
theorem ints_new (w : World) (xs : List Int) : ∀ k, k < xs.length → (w.alloc (.cells (xs.map (Value.int .i64)).toArray 3)).cell? ⟨w.heap.size, k, none⟩ = some (.int .i64 (xs.getD k 0)) := by
  intro k hk
  rw [World.cell?_alloc_at _ _ _ _ rfl]
  simp [hk]
/-- The string of these bytes. -/
def strB (l : List Nat) : ByteArray := strOfNums (l.map fun b : Nat => (b : Int))
theorem strB_size (l : List Nat) : (strB l).size = l.length := by unfold strB; rw [strOfNums_size, List.length_map]
theorem conv_bytes (w : World) (b off len cap : Nat) (t : List Nat) (hlen : t.length = len) (hc : ∀ k, k < t.length → w.cell? ⟨b, off + k, none⟩ = some (.int .u8 ((t.getD k 0 : Nat) : Int))) :
    (convert 22 9 (.slice (some ⟨b, off, none⟩) len cap)).run Tryd.prog w = .ok (.string (strB t)) w := by
  refine run_convert_bytes_arg w 22 5 Tryd.underlying22 Tryd.underlying5 b off len cap _ (by simpa using hlen) (fun i hi => ?_) 9 Tryd.underlying9
  rw [hc i (by omega)]
  simp [List.getD_eq_getElem?_getD]
  rw [List.getElem?_eq_getElem (by omega)]; rfl
/-- The bytes of a string, as numbers. -/
def strN (s : ByteArray) : List Nat := s.data.toList.map UInt8.toNat
theorem strN_length (s : ByteArray) : (strN s).length = s.size := by rw [strN, List.length_map, Array.length_toList]; rfl
theorem strN_all (s : ByteArray) : AllB (strN s) := by
  intro b hb
  simp only [strN, List.mem_map] at hb
  obtain ⟨c, _, rfl⟩ := hb
  exact c.toNat_lt
theorem strN_getD (s : ByteArray) (k : Nat) (h : k < s.data.size) : (strN s).getD k 0 = s.data[k].toNat := by
  simp [strN]
  rw [Array.getElem?_eq_getElem h]; rfl
theorem strN_at (s : ByteArray) (k : Nat) (h : k < s.size) : (strN s).getD k 0 = (s[k]'h).toNat := strN_getD s k h
theorem strB_strN (s : ByteArray) : strB (strN s) = s := by
  unfold strB strN strOfNums
  rw [List.map_map, List.map_map]
  have e : s.data.toList.map ((fun n : Int => UInt8.ofNat n.toNat) ∘ (fun b : Nat => (b : Int)) ∘ UInt8.toNat) = s.data.toList := by
    have h : ((fun n : Int => UInt8.ofNat n.toNat) ∘ (fun b : Nat => (b : Int)) ∘ UInt8.toNat) = id := by
      funext b; simp
    rw [h, List.map_id]
  exact congrArg (fun x : List UInt8 => (⟨x.toArray⟩ : ByteArray)) e
end Go.Proofs.YtefoegicjigpaaaDoor
