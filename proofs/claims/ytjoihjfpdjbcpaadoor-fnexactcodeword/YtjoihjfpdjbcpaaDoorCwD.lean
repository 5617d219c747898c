/- CodeWord of the program and of the model. -/
import Derived.Test.YtjoihjfpdjbcpaaDoorRows
import Derived.Test.YtjoihjfpdjbcpaaDoorCwA
namespace Go.Proofs.YtjoihjfpdjbcpaaDoor
open Go.RowKit
set_option linter.unusedSimpArgs false
set_option linter.unusedVariables false
/-- The eighteen words. -/
def wordL : List (List UInt8) := [[100, 111, 110, 101], [104, 111, 117, 115, 101], [107, 105, 110, 100], [102, 111, 114, 109], [99, 97, 98, 105, 110], [115, 105, 122, 101], [116, 105, 101, 114], [105, 100], [116, 104, 101, 114, 101], [102, 117, 108, 108], [116, 105, 101, 100], [116, 117, 114, 110], [115, 101, 97, 116, 115], [111, 102, 102, 101, 114], [108, 97, 116, 101], [99, 108, 111, 99, 107], [99, 114, 101, 119], [105, 100, 108, 101]]
def wordB (k : Nat) : ByteArray := ⟨(wordL.getD k []).toArray⟩
/-- An array of strings as a row lists it. -/
def strData {H : Type} (ws : List (List UInt8)) : DataW H := .agg (ws.map fun s => .lit (.string s))
theorem cells_of_strs {H : Type} {enc : TypeId × Value → H} {P : Program} {w : World} {base : Nat} {sp : Nat → Bool} {held : Bool} {fuel : Nat} {t e : TypeId} {n : Nat} {cs : List Value} {ws : List (List UInt8)} {p : List MemPlace}
    (ht : P.underlying t = some (.array n e)) (he : P.underlying e = some .string) (hce : P.cellsOf e = 1) (hct : P.cellsOf t = n)
    (h : DataW.trod enc P w base sp held fuel t cs = some (strData ws, p)) : cs = ws.map fun s => Value.string ⟨s.toArray⟩ := by
  cases fuel with
  | zero => simp [DataW.trod] at h
  | succ fuel =>
    simp only [DataW.trod, ht, hce, hct, Nat.mul_one] at h
    split at h
    · rename_i hl
      obtain ⟨xs, hm, hx⟩ := Option.map_eq_some_iff.1 h
      have hxs : xs.map (·.1) = ws.map fun s => (DataW.lit (.string s) : DataW H) := by
        have := congrArg Prod.fst hx
        simpa [strData] using this
      have hxl : xs.length = n := by simpa using Lib.mapM_length hm
      have hzl : ws.length = n := by
        have := congrArg List.length hxs
        simp at this
        omega
      apply List.ext_getElem?
      intro i
      by_cases hi : i < n
      · obtain ⟨b, hb, hf⟩ := Lib.mapM_at hm i i (by simp [hi])
        obtain ⟨z, hc, rfl, _⟩ := DataW.trod_string he hf
        have h1 : cs[i]? = some (.string z) := by
          have := congrArg (·[0]?) hc
          simpa [List.getElem?_take, List.getElem?_drop] using this
        have h2 : (xs.map (·.1))[i]? = some (DataW.lit (.string z.data.toList) : DataW H) := by simp [hb]
        rw [hxs] at h2
        simp only [List.getElem?_map, Option.map_eq_some_iff, DataW.lit.injEq, Lit.string.injEq] at h2
        obtain ⟨z', hz', e2⟩ := h2
        rw [h1, List.getElem?_map, hz', e2]
        simp
      · rw [List.getElem?_eq_none (by omega), List.getElem?_eq_none (by simp; omega)]
    · cases h
set_option maxRecDepth 100000 in
theorem gWord : Tryd.prog.globalNamed "loop.example/g00494/impl.codeWords" = some 0 := by kernel_rfl
set_option maxRecDepth 100000 in
theorem gWordType : (Tryd.prog.globals[0]?).map (·.type) = some 27 := by kernel_rfl
set_option maxRecDepth 100000 in
theorem cellsWords : Tryd.prog.cellsOf 27 = 18 := by kernel_rfl
set_option maxRecDepth 100000 in
theorem cellsWord : Tryd.prog.cellsOf 9 = 1 := by kernel_rfl
/-- The program's table holds the words. -/
def Tab (w : World) : Prop := (∀ k, k < 18 → w.cell? ⟨0, k, none⟩ = some (.string (wordB k))) ∧ 0 < w.heap.size
theorem Tab.below {w w' : World} {B : Nat} (h : Tab w) (hb : Below B w w') (hB : 0 < B) : Tab w' := ⟨fun k hk => (hb.cell hB).trans (h.1 k hk), Nat.lt_of_lt_of_le h.2 hb.size⟩
theorem word_at (k : Nat) (hk : k < 18) : (wordL.map fun s => Value.string ⟨s.toArray⟩).toArray[k]? = some (.string (wordB k)) := by
  have hl : wordL.length = 18 := rfl
  simp [wordB, List.getD, show k < wordL.length by omega]
set_option maxRecDepth 100000 in
theorem tab_of {W : World} (h : laidMetH Tryd.prog [("loop.example/g00494/impl.codeWords", strData wordL)] W) : Tab W := by
  have h2 : laidMet Tryd.prog [("loop.example/g00494/impl.codeWords", strData wordL)] W := h
  obtain ⟨ps, ⟨g', t', cs, fuel, p, q, hg', ht', hvar, hd, _, _⟩, _⟩ := h2
  obtain rfl := Option.some.inj (gWord.symm.trans hg')
  obtain rfl := Option.some.inj (gWordType.symm.trans ht')
  have hcs := cells_of_strs Tryd.underlying27 Tryd.underlying9 cellsWord cellsWords hd
  have hc : ∀ k, k < 18 → W.cell? ⟨0, k, none⟩ = some (.string (wordB k)) := by
    intro k hk
    rw [World.var?_cell gWord hvar k, ← word_at k hk, ← hcs]
  exact ⟨hc, World.block_lt_of_cell? W _ (hc 0 (by omega))⟩
/-- The settled world with the table laid. -/
noncomputable def laidWorld (os : Os) : World :=
  let w := World.holding Tryd.prog os ⟨#[], #[], []⟩
  { w with heap := w.heap.modify 0 fun
      | .cells _ t frozen => .cells (wordL.map fun s => Value.string ⟨s.toArray⟩).toArray t frozen
      | o => o }
set_option maxRecDepth 100000 in
theorem words_spec (w : World) : Calls Tryd.prog 7 #[] w fun e w' => e = .returned (.slice (some ⟨w.heap.size, 0, none⟩) 18 18) ∧ (∀ k, k < 18 → w'.cell? ⟨w.heap.size, k, none⟩ = some (.string (wordB k))) ∧ Below w.heap.size w w' := by
  go_enter Tryd.func7, Tryd.ntmps7
  go_wp2
  go_ret
  refine ⟨rfl, fun k hk => ?_, (Below.refl _ _).alloc (Nat.le_refl _) _⟩
  rw [World.cell?_alloc_at _ _ _ _ rfl]
  have := word_at k hk
  match k, hk with
  | 0, _ | 1, _ | 2, _ | 3, _ | 4, _ | 5, _ | 6, _ | 7, _ | 8, _ | 9, _ | 10, _ | 11, _ | 12, _ | 13, _ | 14, _ | 15, _ | 16, _ | 17, _ => rfl
/-- What CodeWord returns. -/
def wordV (c : Int) : ByteArray := if 0 ≤ c ∧ c ≤ 17 then wordB c.toNat else ⟨#[63]⟩
set_option maxRecDepth 100000 in
theorem codeWord_spec (c : Int) (w : World) : Calls Tryd.prog 4 #[.int .i64 c] w fun e w' => e = .returned (.string (wordV c)) ∧ Below w.heap.size w w' := by
  by_cases h : 0 ≤ c ∧ c ≤ 17
  rotate_left
  · have hv := Lib.hid (show wordV c = ⟨#[63]⟩ from if_neg h)
    go_enter Tryd.func4, Tryd.ntmps4
    go_wp2_with (go_at_call 6; (refine (l1In_no _ _ _ _ (by omega)).mono ?_; rintro e w' ⟨rfl, rfl⟩))
    go_ret
    exact ⟨by rw [hv.out] <;> rfl, Below.refl _ _⟩
  obtain ⟨k, rfl⟩ : ∃ k : Nat, c = (k : Int) := ⟨c.toNat, by omega⟩
  have hv := Lib.hid (show wordV (k : Int) = wordB k by unfold wordV; rw [if_pos h, Int.toNat_natCast])
  have hk : k < 18 := by omega
  have CW := Lib.hid (words_spec w)
  go_enter Tryd.func4, Tryd.ntmps4
  go_wp2_with (go_at_call 6; (refine (l1In_yes _ _ _ _ (by omega)).mono ?_; rintro e w' ⟨rfl, rfl⟩))
  refine CW.out.mono ?_
  rintro e w1 ⟨rfl, hc, b1⟩
  have c0 := hc k hk
  generalize wordB k = s at *
  clear hc CW
  go_wp2
  go_ret
  exact ⟨by rw [hv.out] <;> rfl, b1⟩
set_option maxRecDepth 100000 in
theorem codeWord_im (c : Int) (w : World) (hT : Tab w) : Calls Tryd.prog 5 #[.int .i64 c] w fun e w' => e = .returned (.string (wordV c)) ∧ Below w.heap.size w w' := by
  by_cases h : 0 ≤ c ∧ c ≤ 17
  rotate_left
  · have hv := Lib.hid (show wordV c = ⟨#[63]⟩ from if_neg h)
    clear hT
    go_enter Tryd.func5, Tryd.ntmps5
    go_wp2_with (go_at_call 8; (refine (within_no _ _ _ _ (by omega)).mono ?_; rintro e w' ⟨rfl, rfl⟩))
    go_ret
    exact ⟨by rw [hv.out] <;> rfl, Below.refl _ _⟩
  obtain ⟨k, rfl⟩ : ∃ k : Nat, c = (k : Int) := ⟨c.toNat, by omega⟩
  have hv := Lib.hid (show wordV (k : Int) = wordB k by unfold wordV; rw [if_pos h, Int.toNat_natCast])
  have hk : k < 18 := by omega
  have c0 := hT.1 k hk
  generalize wordB k = s at *
  clear hT
  go_enter Tryd.func5, Tryd.ntmps5
  go_wp2_with (go_at_call 8; (refine (within_yes _ _ _ _ (by omega)).mono ?_; rintro e w' ⟨rfl, rfl⟩))
  go_ret
  exact ⟨by rw [hv.out] <;> rfl, Below.refl _ _⟩
set_option maxRecDepth 100000 in
theorem FnExactCodeWord_walk (c : Int) (w : World) (hT : Tab w) : Calls Tryd.prog 3 #[.int .i64 c] w fun e w' => e = .returned (.bool true) ∧ Below w.heap.size w w' := by
  have C1 := Lib.hid (codeWord_spec c w)
  have C2 := Lib.hid (fun (w' : World) (hb : Below w.heap.size w w') => codeWord_im c w' (hT.below hb hT.2))
  generalize wordV c = s at *
  clear hT
  go_enter Tryd.func3, Tryd.ntmps3
  go_wp2_with fail
  refine C1.out.mono ?_
  rintro e w1 ⟨rfl, b1⟩
  have C2 := Lib.hid (C2.out w1 b1)
  go_wp2_with fail
  refine C2.out.mono ?_
  rintro e w2 ⟨rfl, b2⟩
  go_wp2
  go_ret
  exact ⟨rfl, b1.trans (b2.mono b1.size)⟩
end Go.Proofs.YtjoihjfpdjbcpaaDoor
