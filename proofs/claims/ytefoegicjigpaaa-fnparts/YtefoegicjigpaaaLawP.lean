/- The law FnParts: the parts make the string again. -/
import Derived.Test.YtefoegicjigpaaaLaw5
namespace Go.Proofs.Ytefoegicjigpaaa
open Go.RowKit

def GotInt (w : World) (g : Nat) (A : Option Addr) (l : List Nat) (c : Nat) (xs : List Int) (e : Ending) (w' : World) : Prop :=
  ∃ n ∈ xs, e = .returned (.int .i64 n) ∧ Cur w' g A l c ∧ w.grownBy w' (some g)
set_option maxHeartbeats 400000 in
theorem l1PickInt_any (A : Option Addr) (l : List Nat) (c g : Nat) (xs : List Int) (p m c' : Nat) (w : World) (hl : l.length ≤ 2097152) (hb : AllB l) (hc : Cur w g A l c)
    (hm : m = xs.length) (h0 : 0 < xs.length) (h1 : xs.length ≤ 256) (hp : p ≠ g) (hx : ∀ k, k < xs.length → w.cell? ⟨p, k, none⟩ = some (.int .i64 (xs.getD k 0))) :
    Calls Try.prog 42 #[.pointer (some ⟨g, 0, none⟩), .slice (some ⟨p, 0, none⟩) m c'] w (GotInt w g A l c xs) := by
  subst hm
  have HX := Lib.hid hx
  clear hx
  go_enter Try.func42, Try.ntmps42
  go_wp2_with fail
  refine (l1Below_any A l c g xs.length _ hl hb h0 (by omega) hc).mono ?_
  rintro e w1 ⟨x, hx, rfl, hc1, gr1⟩
  have hcell : w1.cell? ⟨p, x, none⟩ = some (.int .i64 (xs.getD x 0)) := gr1.cell (HX.out x hx) (by simpa using hp)
  have hs := getD_mem xs x 0 hx
  generalize xs.getD x 0 = s at *
  go_wp2
  go_ret
  exact ⟨s, hs, rfl, hc1, gr1⟩
theorem ints_new (w : World) (xs : List Int) : ∀ k, k < xs.length → (w.alloc (.cells (xs.map (Value.int .i64)).toArray 3)).cell? ⟨w.heap.size, k, none⟩ = some (.int .i64 (xs.getD k 0)) := by
  intro k hk
  rw [World.cell?_alloc_at _ _ _ _ rfl]
  simp [hk]
def sixTexts : List ByteArray := [⟨#[]⟩, ⟨#[97]⟩, ⟨#[97, 44, 98]⟩, ⟨#[44]⟩, ⟨#[97, 44, 44, 98, 44]⟩, ⟨#[97, 47, 98, 44, 99, 47]⟩]
def GotParts (w : World) (e : Ending) (w' : World) : Prop := ∃ s ∈ sixTexts, ∃ c : Nat, (c = 44 ∨ c = 47) ∧ e = .returned (.tuple #[.string s, .int .u8 (c : Int)]) ∧ Below w.heap.size w w'
set_option maxHeartbeats 400000 in
theorem drawParts_any (A : Option Addr) (l : List Nat) (c : Nat) (w : World) (hl : l.length ≤ 2097152) (hA : Bts w w.heap.size A l) (hb : AllB l) :
    Calls Try.prog 20 #[.slice A l.length c] w (GotParts w) := by
  go_enter Try.func20, Try.ntmps20
  go_wp2_with fail
  refine (l1New_any A l c _ hl hA hb).mono ?_
  rintro e w1 ⟨rfl, hc1, b1⟩
  have hlt := hc1.lt
  have b2 : Below w1.heap.size w1 (w1.alloc (.cells (sixTexts.map Value.string).toArray 9)) := (Below.refl _ _).alloc (Nat.le_refl _) _
  have hx := strings_new w1 sixTexts
  go_wp2_with fail
  refine (l1Pick_any A l c w.heap.size sixTexts w1.heap.size 6 6 _ hl hb (hc1.below b2 hlt) rfl (by decide) (by decide) (by omega) hx).mono ?_
  rintro e w2 ⟨s, hs, rfl, hc2, gr2⟩
  have b3 : Below w.heap.size w w2 := (b1.trans (b2.mono b1.size)).grown gr2 (by simp; omega) (by simp)
  have hlt2 := hc2.lt
  have b4 : Below w2.heap.size w2 (w2.alloc (.cells ([44, 47].map (Value.int .i64)).toArray 3)) := (Below.refl _ _).alloc (Nat.le_refl _) _
  have hx2 := ints_new w2 [44, 47]
  clear hx b1 b2 gr2
  go_wp2_with fail
  refine (l1PickInt_any A l c w.heap.size [44, 47] w2.heap.size 2 2 _ hl hb (hc2.below b4 hlt2) rfl (by decide) (by decide) (by omega) hx2).mono ?_
  rintro e w3 ⟨n, hn, rfl, hc3, gr3⟩
  have b5 : Below w.heap.size w w3 := (b3.trans (b4.mono b3.size)).grown gr3 (by simp; omega) (by simp)
  have hn2 : 0 ≤ n ∧ n ≤ 255 := by simp at hn; omega
  have HN := Lib.hid hn
  clear hn hx2
  go_wp2
  go_ret2
  refine ⟨s, hs, n.toNat, by have := HN.out; simp at this; omega, by rw [Int.toNat_of_nonneg hn2.1]; rfl, b5⟩
/-- The first k parts with the byte between them (the first part where k is 0). -/
def joinTo (L : List ByteArray) (c : Nat) : Nat → ByteArray
  | 0 => L.getD 0 ByteArray.empty
  | k + 1 => if k = 0 then L.getD 0 ByteArray.empty else joinTo L c k ++ strB [c] ++ L.getD k ByteArray.empty
def goodParts (s : ByteArray) (c : Nat) : Bool :=
  let L := partsOf s c
  decide (joinTo L c L.length = s) && decide (L.length ≤ 7) && (L.all fun p => (strN p).all fun b => b != c) && (L.all fun p => p.size ≤ 6) && ((List.range 8).all fun k => (joinTo L c k).size ≤ 20)
theorem goodParts_all : ∀ s ∈ sixTexts, goodParts s 44 = true ∧ goodParts s 47 = true := by decide +kernel
structure PartsFacts (s : ByteArray) (c : Nat) (L : List ByteArray) : Prop where
  whole : joinTo L c L.length = s
  len : L.length ≤ 7
  pos : 0 < L.length
  clean : ∀ i, i < L.length → ∀ k, k < (L.getD i ByteArray.empty).size → ¬ (strN (L.getD i ByteArray.empty)).getD k 0 = c
  size : ∀ i, i < L.length → (L.getD i ByteArray.empty).size ≤ 6
  sum : ∀ k, k < 8 → (joinTo L c k).size ≤ 20
theorem partsFacts {s : ByteArray} {c : Nat} (hs : s ∈ sixTexts) (hc : c = 44 ∨ c = 47) : PartsFacts s c (partsOf s c) := by
  have h : goodParts s c = true := by
    have := goodParts_all s hs
    rcases hc with rfl | rfl
    · exact this.1
    · exact this.2
  unfold goodParts at h
  simp only [Bool.and_eq_true, decide_eq_true_eq, List.all_eq_true] at h
  obtain ⟨⟨⟨⟨h1, h2⟩, h3⟩, h4⟩, h5⟩ := h
  refine ⟨h1, h2, by unfold partsOf; simp, fun i hi k hk e => ?_, fun i hi => h4 _ (getD_mem _ _ _ hi), fun k hk => h5 k (by simpa using hk)⟩
  have := h3 _ (getD_mem _ _ ByteArray.empty hi) _ (getD_mem (strN ((partsOf s c).getD i ByteArray.empty)) k 0 (by rw [strN_length]; exact hk))
  rw [e] at this
  simp at this
theorem joinTo_first (L : List ByteArray) (c : Nat) : joinTo L c 1 = L.getD 0 ByteArray.empty := by simp [joinTo]
theorem joinTo_next (L : List ByteArray) (c k : Nat) (h : 0 < k) : joinTo L c (k + 1) = joinTo L c k ++ strB [c] ++ L.getD k ByteArray.empty := by simp only [joinTo]; rw [if_neg (by omega)]

set_option maxHeartbeats 1600000 in
set_option maxRecDepth 100000 in
theorem FnParts_walk (A : Option Addr) (l : List Nat) (cap : Nat) (w : World) (hA : Bts w w.heap.size A l) (hb : AllB l) (hm : l.length ≤ maxLen) :
    Calls Try.prog 4 #[.slice A l.length cap] w fun e w' => e = .returned (.bool true) ∧ Below w.heap.size w w' := by
  unfold maxLen at hm
  by_cases hbig : 1048576 < l.length
  · go_enter Try.func4, Try.ntmps4
    go_wp2_with (go_at_call 12; refine (big_yes _ _ _ _ hbig).mono ?_; rintro e w' ⟨rfl, rfl⟩)
    go_ret
    exact ⟨rfl, Below.refl _ _⟩
  have hle : l.length ≤ 1048576 := by omega
  go_enter Try.func4, Try.ntmps4
  go_wp2_with fail
  refine (big_no _ _ _ _ hle).mono ?_
  rintro e w' ⟨rfl, rfl⟩
  go_wp2_with fail
  refine (drawParts_any A l cap _ (by omega) hA hb).mono ?_
  rintro e w1 ⟨s, hs, c, hc, rfl, b1⟩
  have PF := Lib.hid (partsFacts hs hc)
  have hsz : s.size ≤ 6 := by
    simp only [sixTexts, List.mem_cons, List.not_mem_nil, or_false] at hs
    rcases hs with rfl | rfl | rfl | rfl | rfl | rfl <;> decide
  have hcl : c < 256 := by omega
  clear hs hc
  go_wp2_with fail
  refine (parts_impl s c _ (by omega)).mono ?_
  generalize partsOf s c = L at *
  rintro e w2 ⟨A2, c2, rfl, o2, b2⟩
  have bw : Below w.heap.size w w2 := b1.trans (b2.mono b1.size)
  have hp := PF.out.pos
  have hl7 := PF.out.len
  obtain ⟨b, off, rfl, hbB, hc0⟩ := (OwnS.sts o2).at_ hp
  have hST := OwnS.sts o2
  have hz : ((L.length : Int) == 0) = false := by rw [beq_eq_false_iff_ne]; omega
  rw [Nat.add_zero] at hc0
  generalize hp0 : L.getD 0 ByteArray.empty = p0 at hc0
  have HP0 := Lib.hid hp0
  clear hp0 o2 b1 b2
  go_wp2
  clear hc0
  go_loopw [6, 7] (fun t i wr => ∃ k : Nat, k ≤ L.length ∧ i = .int .i64 k ∧ t = .string (joinTo L c k) ∧ Below w2.heap.size w2 wr) (fun _ i _ => L.length - (intOf i).toNat)
  case atStart => exact ⟨0, by omega, rfl, by rw [← HP0.out]; rfl, Below.refl _ _⟩
  case round =>
    obtain ⟨k, hk, rfl, rfl, hbel⟩ := hrel
    have hbs := hbel.size
    have hj := PF.out.sum k (by omega)
    by_cases hlt : k < L.length
    · obtain ⟨b', off', he, _, hcell⟩ := (hST.below hbel).at_ hlt
      obtain ⟨rfl, rfl⟩ : b' = b ∧ off' = off := by injection he with he; injection he with h1 h2 _; exact ⟨h1.symm, h2.symm⟩
      have hcln := Lib.hid (PF.out.clean k hlt)
      have hps := PF.out.size k hlt
      have HN : Hid (0 < k → joinTo L c (k + 1) = joinTo L c k ++ strB [c] ++ L.getD k ByteArray.empty) := fun h => joinTo_next L c k h
      have H1 : Hid (k = 0 → joinTo L c (k + 1) = joinTo L c k) := by rintro rfl; exact joinTo_first L c
      generalize joinTo L c k = J at *
      generalize L.getD k ByteArray.empty = P at *
      have hbl : b' < wr.heap.size := by omega
      clear he
      go_wp2
      go_loop [8] (fun i => ∃ m : Nat, m ≤ P.size ∧ i = .int .i64 m) (fun i => P.size - (intOf i).toNat)
      case atStart => exact ⟨0, by omega, rfl⟩
      case round =>
        obtain ⟨m, hm2, rfl⟩ := hrel
        by_cases hmlt : m < P.size
        · have hne : (((P[m]'hmlt).toNat : Int) == (c : Int)) = false := by
            have h := hcln.out m hmlt
            rw [strN_at P m hmlt] at h
            simp; omega
          go_wp2
          go_round
          case rel => exact ⟨m + 1, by omega, by go_num⟩
          case measure => simp [intOf]; omega
        · by_cases hk0 : 0 < k
          · have hcv := conv_bytes ((wr.alloc (.cells #[.int .u8 (c : Int)] 5)).drew) wr.heap.size 0 1 1 [c] rfl (one_new wr c _ rfl)
            have hcs : (strB [c]).size = 1 := strB_size _
            generalize strB [c] = ch at *
            have hs1 : J.size + ch.size ≤ 9223372036854775807 := by omega
            have hs2 : (J ++ ch).size + P.size ≤ 9223372036854775807 := by rw [ByteArray.size_append]; omega
            have hcs1 : ch.size ≤ 1 := by omega
            have HB := Lib.hid (hbel.alloc hbs (.cells #[.int .u8 (c : Int)] 5))
            clear hcs
            go_wp2
            go_region
            all_goals
              go_wp2
              go_roundw
              case rel => exact ⟨k + 1, by omega, by go_num, by rw [HN.out hk0], HB.out.drew⟩
              case measure => simp [intOf]; omega
          · go_wp2
            go_roundw
            case rel => exact ⟨k + 1, by omega, by go_num, by rw [H1.out (by omega)], hbel⟩
            case measure => simp [intOf]; omega
    · obtain rfl : k = L.length := by omega
      rw [PF.out.whole]
      go_wp2
      go_ret
      exact ⟨rfl, bw.trans (hbel.mono bw.size)⟩
end Go.Proofs.Ytefoegicjigpaaa
