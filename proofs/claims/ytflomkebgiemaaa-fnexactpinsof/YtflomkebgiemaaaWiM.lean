/- WheelOk of the program. -/
import Derived.Test.YtflomkebgiemaaaRows
import Derived.Test.YtflomkebgiemaaaWiK
import Derived.RangeFuncNested
import Derived.RangeFuncBox
import Derived.RangeFuncBound
import Derived.RangeFuncCalls
import Derived.RangeFuncLeaves
import Derived.Shelf.Abstract
import Derived.Shelf.RegionOpen
import Derived.OwnWalkIn
import Derived.TacticsInMore
import Derived.LoopNIn
import Derived.LoopIn
import Derived.Maps.AppendAt
namespace Go.Proofs.Ytflomkebgiemaaa
open Go.RowKit Go.Shelf
set_option linter.unusedSimpArgs false
set_option linter.unusedVariables false
attribute [local go_sem] Oper.semAt_some
/-- The pins of the first k spokes, each with its spoke's number. -/
def tagN (sp : List Sp) (k : Nat) : List (Nat × Pn) := (List.range k).flatMap fun i => (sp.getD i sp0).l.map fun p => (i, p)
theorem tagN_succ (sp : List Sp) (k : Nat) : tagN sp (k + 1) = tagN sp k ++ (sp.getD k sp0).l.map fun p => (k, p) := by
  unfold tagN; rw [List.range_succ, List.flatMap_append]; simp
theorem tagN_snd (sp : List Sp) : ∀ k, k ≤ sp.length → (tagN sp k).map (fun x => x.2) = allPn (sp.take k)
  | 0, _ => rfl
  | k + 1, h => by
    rw [tagN_succ, List.map_append, tagN_snd sp k (by omega), allPn_take sp k (by omega), List.map_map]
    congr 1
    exact List.map_id'' (fun _ => rfl) _
theorem tagN_len (sp : List Sp) (k : Nat) (h : k ≤ sp.length) : (tagN sp k).length = (allPn (sp.take k)).length := by rw [← tagN_snd sp k h, List.length_map]
theorem pn_take (l : List Pn) (j : Nat) (h : j < l.length) : l.take (j + 1) = l.take j ++ [l.getD j pn0] := take_succ_getD l j pn0 h
set_option maxRecDepth 100000 in
theorem byList_in (n : Nat) (A : Option Addr) (len c : Nat) (w : World) :
    CallsIn Fence.wide n Try.prog 72 #[.agg #[.slice A len c]] w fun e w' => e = .returned (.func (.func 89) #[] #[.pointer (some ⟨w.heap.size, 0, none⟩)]) ∧ w' = w.alloc (.cells #[.slice A len c] 26) := by
  have hro : Fence.wide.round = none := rfl
  have hg : Fence.wide.fn 72 := trivial
  refine callsIn_of_wp Try.func72 rfl hg ?_ hro
  simp only [Try.ntmps72, List.size_toArray, List.length_cons, List.length_nil, Nat.reduceAdd, Nat.reduceSub, Array.replicate_succ, Array.replicate_zero, List.push_toArray, List.append_toArray, List.nil_append, List.cons_append]
  gi_wp2
  go_ret
  exact ⟨rfl, rfl⟩
set_option maxRecDepth 100000 in
set_option maxHeartbeats 4000000 in
theorem byList1_in (n : Nat) (hn : 1 ≤ n) (l Bs n₀ c : Nat) (A : Option Addr) (sp : List Sp) (hsz : sp.length ≤ 2097152) (hlz : (allPn sp).length ≤ 2097152) (J Jx : List (Nat × Pn) → World → Prop)
    (hJa : ∀ pre W o, J pre W → n₀ ≤ W.heap.size → J pre (W.alloc o))
    (hY : ∀ pre (x : Nat × Pn) W, J pre W → pre.length < (tagN sp sp.length).length → YieldAt Fence.wide (n - 1) Try.prog l #[.int .i64 (x.1 : Int), pnA x.2] W fun e W' =>
      (e = .returned (.bool true) ∧ J (pre ++ [x]) W' ∧ Below n₀ W W') ∨ (e = .returned (.bool false) ∧ Jx (pre ++ [x]) W'))
    (W : World) (hn₀ : n₀ ≤ W.heap.size) (hBs : W.cell? ⟨Bs, 0, none⟩ = some (.slice A sp.length c)) (hRA : Rws W n₀ A (sp.flatMap spC)) (hRS : ∀ s ∈ sp, Rws W n₀ s.a (s.l.flatMap pnC)) (h0 : J [] W) :
    CallsIn Fence.wide n Try.prog 89 #[.func (.yield l) #[] #[], .pointer (some ⟨Bs, 0, none⟩)] W fun e W' => (∃ v, e = .returned v) ∧ (J (tagN sp sp.length) W' ∨ (∃ pre, pre <+: tagN sp sp.length ∧ Jx pre W')) := by
  have hro : Fence.wide.round = none := rfl
  have hg : Fence.wide.fn 89 := trivial
  refine callsIn_of_wp Try.func89 rfl hg ?_ hro
  simp only [Try.ntmps89, List.size_toArray, List.length_cons, List.length_nil, Nat.reduceAdd, Nat.reduceSub, Array.replicate_succ, Array.replicate_zero, List.push_toArray, List.append_toArray, List.nil_append, List.cons_append]
  have hpre : ∀ k, k ≤ sp.length → ∃ rest, tagN sp sp.length = tagN sp k ++ rest := fun k hk => by
    obtain ⟨m, hm⟩ : ∃ m, sp.length = k + m := ⟨sp.length - k, by omega⟩
    rw [hm]
    clear hm
    induction m with
    | zero => exact ⟨[], by simp⟩
    | succ m ih =>
      obtain ⟨r, hr⟩ := ih
      exact ⟨r ++ (sp.getD (k + m) sp0).l.map (fun p => (k + m, p)), by rw [← Nat.add_assoc, tagN_succ, hr, List.append_assoc]⟩
  have HPRE := Lib.hid hpre
  clear hpre
  gi_wp2
  gi_loopw [10] (fun i wr => ∃ k : Nat, k ≤ sp.length ∧ i = .int .i64 k ∧ J (tagN sp k) wr ∧ Below n₀ W wr) (fun i _ => sp.length - (intOf i).toNat)
  case atStart => exact ⟨0, Nat.zero_le _, rfl, h0, Below.refl _ _⟩
  case round =>
    obtain ⟨k, hk, rfl, hJs, hnx⟩ := hrel
    by_cases hlt : k < sp.length
    · have hRx := hRA.below hnx
      obtain ⟨b, off, rfl, hbB, hc⟩ := hRx.sp hlt
      have hsr := (hRS (sp.getD k sp0) (getD_mem sp k sp0 hlt)).below hnx
      have et := tagN_succ sp k
      obtain ⟨rest0, hrest0⟩ := HPRE.out (k + 1) hlt
      rw [et] at hrest0
      have HT := Lib.hid et
      have el : (tagN sp k).length + (sp.getD k sp0).l.length ≤ (tagN sp sp.length).length := by rw [hrest0]; simp <;> omega
      have hs8 := at_le_all sp hlt
      clear et hRx
      generalize sp.getD k sp0 = s at *
      have hsl : s.l.length ≤ 2097152 := by omega
      generalize tagN sp k = q at *
      have HX : Hid (∃ rest, tagN sp sp.length = (q ++ s.l.map fun p => (k, p)) ++ rest) := ⟨_, hrest0⟩
      have HEL := Lib.hid el
      clear hrest0 el
      obtain ⟨u, hu⟩ : ∃ u, u = wr := ⟨_, rfl⟩
      subst hu
      gi_wp2
      gi_loopw [17] (fun i wr' => ∃ j : Nat, j ≤ s.l.length ∧ i = .int .i64 j ∧ J (q ++ (s.l.take j).map fun p => (k, p)) wr' ∧ Below n₀ u wr') (fun i _ => s.l.length - (intOf i).toNat)
      case atStart => exact ⟨0, Nat.zero_le _, rfl, by simpa using hJs, Below.refl _ _⟩
      case round =>
        obtain ⟨j, hj, rfl, hJ2, hn2⟩ := hrel
        by_cases hl2 : j < s.l.length
        · obtain ⟨b2, off2, e2, hb2, c0, c1⟩ := (hsr.below hn2).pn hl2
          have HP := Lib.hid (pn_take s.l j hl2)
          have hlen : (q ++ (s.l.take j).map fun p => (k, p)).length < (tagN sp sp.length).length := by rw [List.length_append, List.length_map, List.length_take, Nat.min_eq_left hj]; have := HEL.out; omega
          generalize s.l.getD j pn0 = x at *
          have hna : n₀ ≤ wr.heap.size := by have := hnx.size; have := hn2.size; omega
          have HB2 := Lib.hid (hn2.alloc hna (.cells #[.int .i64 x.at_, .int .i64 x.id] 33))
          obtain ⟨fn, tmps, assign, body, hy, hY2⟩ := hY _ (k, x) (wr.alloc (.cells #[.int .i64 x.at_, .int .i64 x.id] 33)) (hJa _ _ _ hJ2 hna) hlen
          unfold pnA at hy
          dsimp only at hy
          obtain ⟨sa, sc, sl⟩ := s
          simp only at e2
          subst e2
          gi_wp2
          refine hY2.mono ?_
          rintro e W3 (⟨rfl, hJ3, hk3⟩ | ⟨rfl, hJx3⟩)
          · have B3 := Lib.hid (HB2.out.trans hk3)
            clear hk3
            gi_wp2
            go_roundw
            case rel => exact ⟨j + 1, by omega, by go_num, by rw [HP.out, List.map_append, ← List.append_assoc]; exact hJ3, B3.out⟩
            case measure => simp [intOf] <;> omega
          · gi_wp2
            refine bodyPost_ret (results_none rfl _ _ _) rfl ?_
            obtain ⟨rest, hrest⟩ := HX.out
            refine ⟨⟨_, rfl⟩, .inr ⟨_, ⟨(sl.drop (j + 1)).map (fun p => (k, p)) ++ rest, ?_⟩, hJx3⟩⟩
            have hP := HP.out
            have e9 : sl.map (fun p => (k, p)) = ((sl.take j).map (fun p => (k, p)) ++ [(k, x)]) ++ (sl.drop (j + 1)).map (fun p => (k, p)) := by
              have : sl = sl.take (j + 1) ++ sl.drop (j + 1) := (List.take_append_drop _ _).symm
              conv => lhs; rw [this, hP]
              simp
            rw [hrest]
            rw [e9]
            simp [List.append_assoc]
        · obtain rfl : j = s.l.length := by omega
          rw [List.take_length] at hJ2
          gi_wp2
          go_roundw
          case rel => exact ⟨k + 1, by omega, by go_num, by rw [HT.out]; exact hJ2, hnx.trans hn2⟩
          case measure => simp [intOf] <;> omega
    · obtain rfl : k = sp.length := by omega
      gi_wp2
      go_end0
      exact ⟨⟨_, rfl⟩, .inl hJs⟩
set_option maxRecDepth 100000 in
theorem byList_stops (n : Nat) (hn : 1 ≤ n) (Bs n₀ c : Nat) (A : Option Addr) (sp : List Sp) (hsz : sp.length ≤ 2097152) (hlz : (allPn sp).length ≤ 2097152) (w : World) (hBs : Bs < w.heap.size) (hn₀ : n₀ ≤ w.heap.size)
    (hc : w.cell? ⟨Bs, 0, none⟩ = some (.slice A sp.length c)) (hRA : Rws w n₀ A (sp.flatMap spC)) (hRS : ∀ s ∈ sp, Rws w n₀ s.a (s.l.flatMap pnC)) :
    SeqStopsK Fence.wide n Try.prog 89 #[.pointer (some ⟨Bs, 0, none⟩)] (fun x : Nat × Pn => #[.int .i64 (x.1 : Int), pnA x.2]) (Below n₀) (fun ys => ys = tagN sp sp.length) (fun pre => pre <+: tagN sp sp.length) (tagN sp sp.length).length w := fun l J Jx W hW hJ hJx hY h0 => by
  have hb := hW.mono hn₀
  refine (byList1_in n hn l Bs n₀ c A sp hsz hlz J Jx (fun pre X o h _ => hJ pre X _ none h (World.grownBy_alloc X o none) (fun r e => by cases e)) hY W (Nat.le_trans hn₀ hW.size) ((hW.cell (p := ⟨Bs, 0, none⟩) hBs).trans hc) (hRA.below hb) (fun s hs => (hRS s hs).below hb) h0).mono ?_
  rintro e W' ⟨he, hj | ⟨pre, hp, hj⟩⟩
  · exact ⟨he, .inl ⟨_, rfl, hj⟩⟩
  · exact ⟨he, .inr ⟨_, hp, hj⟩⟩
/-- What WheelOk has asked of the pins that it has seen. -/
def GoodT (l : List (Nat × Pn)) : Prop := l.length ≤ 10 ∧ (∀ x ∈ l, x.2.inn ∧ x.2.at_.tmod 9 = (x.1 : Int)) ∧ l.Pairwise (fun a b => a.2.id ≠ b.2.id)
theorem GoodT.snoc {l : List (Nat × Pn)} {x : Nat × Pn} : GoodT (l ++ [x]) ↔ GoodT l ∧ l.length + 1 ≤ 10 ∧ x.2.inn ∧ x.2.at_.tmod 9 = (x.1 : Int) ∧ x.2.id ∉ l.map (fun y => y.2.id) := by
  unfold GoodT
  rw [List.length_append, List.length_singleton, List.pairwise_append]
  constructor
  · rintro ⟨h1, h2, h3, _, h4⟩
    refine ⟨⟨by omega, fun y hy => h2 y (List.mem_append_left _ hy), h3⟩, h1, (h2 x (by simp)).1, (h2 x (by simp)).2, fun h => ?_⟩
    obtain ⟨y, hy, e⟩ := List.mem_map.1 h
    exact h4 y hy x (by simp) e
  · rintro ⟨⟨h1, h2, h3⟩, h4, h5, h6, h7⟩
    refine ⟨h4, fun y hy => ?_, h3, by simp, fun a ha b hb e => ?_⟩
    · rcases List.mem_append.1 hy with h | h
      · exact h2 y h
      · have : y = x := by simpa using h
        subst this; exact ⟨h5, h6⟩
    · have : b = x := by simpa using hb
      subst this
      exact h7 (List.mem_map.2 ⟨a, ha, e⟩)
theorem GoodT.part {l m : List (Nat × Pn)} (h : GoodT m) (p : l <+: m) : GoodT l := by
  obtain ⟨r, rfl⟩ := p
  obtain ⟨h1, h2, h3⟩ := h
  exact ⟨by rw [List.length_append] at h1; omega, fun x hx => h2 x (List.mem_append_left _ hx), (List.pairwise_append.1 h3).1⟩
theorem tagN_mem {sp : List Sp} {k i : Nat} {p : Pn} (hi : i < k) (hp : p ∈ (sp.getD i sp0).l) : (i, p) ∈ tagN sp k := by
  unfold tagN
  exact List.mem_flatMap.2 ⟨i, List.mem_range.2 hi, List.mem_map.2 ⟨p, hp, rfl⟩⟩
theorem tagN_of {sp : List Sp} {k : Nat} {x : Nat × Pn} (h : x ∈ tagN sp k) : x.1 < k ∧ x.2 ∈ (sp.getD x.1 sp0).l := by
  unfold tagN at h
  obtain ⟨i, hi, h⟩ := List.mem_flatMap.1 h
  obtain ⟨p, hp, rfl⟩ := List.mem_map.1 h
  exact ⟨List.mem_range.1 hi, hp⟩
theorem srt_pairwise {l : List Pn} (hd : Distinct l) : Srt l ↔ l.Pairwise Pn.less := by
  rw [← adj_pairwise]
  constructor
  · intro h k h0 hk
    refine less_other (h k h0 hk) ?_
    have := List.pairwise_iff_getElem.1 hd (k - 1) k (by omega) hk (by omega)
    simp only [List.getD_eq_getElem?_getD, List.getElem?_eq_getElem hk, List.getElem?_eq_getElem (show k - 1 < l.length by omega), Option.getD_some]
    exact Ne.symm this
  · intro h k h0 hk h2
    exact less_irrefl (less_trans (h k h0 hk) h2)
theorem wheelFine_iff (sp : List Sp) : wheelFine (sp.map (fun s => s.l)) ↔ sp.length = 9 ∧ GoodT (tagN sp sp.length) ∧ ∀ s ∈ sp, Srt s.l := by
  have hsnd := tagN_snd sp sp.length (Nat.le_refl _)
  rw [List.take_length] at hsnd
  have hlen := tagN_len sp sp.length (Nat.le_refl _)
  rw [List.take_length] at hlen
  have hdis : (tagN sp sp.length).Pairwise (fun a b => a.2.id ≠ b.2.id) ↔ Distinct (allPn sp) := by
    unfold Distinct
    rw [← hsnd, List.pairwise_map]
  have hsub : ∀ i, i < sp.length → Distinct (allPn sp) → Distinct (sp.getD i sp0).l := fun i hi hd => by
    obtain ⟨e1, _⟩ := all_cut sp i hi sp0
    rw [e1] at hd
    exact (List.pairwise_append.1 (List.pairwise_append.1 hd).2.1).1
  unfold wheelFine GoodT
  rw [ls_flat, pnsOk_iff, List.length_map, hlen]
  constructor
  · rintro ⟨h9, h10, ⟨hin, hd⟩, hsp⟩
    refine ⟨h9, ⟨h10, fun x hx => ?_, hdis.2 hd⟩, fun s hs => ?_⟩
    · obtain ⟨h1, h2⟩ := tagN_of hx
      have h3 := hsp x.1 h1
      rw [ls_at, spokeOk_iff] at h3
      exact ⟨hin _ (mem_all.2 ⟨_, getD_mem sp x.1 sp0 h1, h2⟩), h3.1 _ h2⟩
    · obtain ⟨i, hi, rfl⟩ := List.getElem_of_mem hs
      have hg : sp.getD i sp0 = sp[i] := by rw [List.getD_eq_getElem?_getD, List.getElem?_eq_getElem hi, Option.getD_some]
      have h3 := hsp i hi
      rw [ls_at, spokeOk_iff, hg] at h3
      have h4 := hsub i hi hd
      rw [hg] at h4
      exact (srt_pairwise h4).2 h3.2
  · rintro ⟨h9, ⟨h10, hx, hp⟩, hs⟩
    have hd := hdis.1 hp
    refine ⟨h9, h10, ⟨fun y hy => ?_, hd⟩, fun i hi => ?_⟩
    · obtain ⟨s, hs1, hys⟩ := mem_all.1 hy
      obtain ⟨i, hi, rfl⟩ := List.getElem_of_mem hs1
      have hg : sp.getD i sp0 = sp[i] := by rw [List.getD_eq_getElem?_getD, List.getElem?_eq_getElem hi, Option.getD_some]
      exact (hx (i, y) (tagN_mem hi (by rw [hg]; exact hys))).1
    · rw [ls_at, spokeOk_iff]
      exact ⟨fun y hy => (hx (i, y) (tagN_mem hi hy)).2, (srt_pairwise (hsub i hi hd)).1 (hs _ (getD_mem sp i sp0 hi))⟩
theorem boxed_below {W W' : World} {b : Nat} {t : TypeId} {v : Value} (h : Boxed W b t v) (hb : Below W.heap.size W W') : Boxed W' b t v := (hb.block b h.lt).trans h
theorem PnAt.below {W W' : World} {b : Nat} {x : Pn} (h : PnAt W b x) (hb : Below W.heap.size W W') (hl : b < W.heap.size) : PnAt W' b x := ⟨(hb.cell (p := ⟨b, 0, none⟩) hl).trans h.1, (hb.cell (p := ⟨b, 1, none⟩) hl).trans h.2⟩
theorem int_one_new (W : World) (z : Int) : ∀ j u, ([.int .i64 z] : List Value)[j]? = some u → (W.alloc (.cells #[.int .i64 z] 3)).cell? ((⟨W.heap.size, 0, none⟩ : Addr).add j) = some u := by
  intro j u h
  match j, h with
  | 0, h => simp at h; subst h; rw [add_at, World.cell?_alloc_at _ _ _ _ rfl]; rfl
  | j + 1, h => simp at h
set_option maxRecDepth 100000 in
theorem pinOk_yes (x : Pn) (w : World) (h : x.inn) : Calls Try.prog 53 #[pnA x] w fun e w' => e = .returned (.bool true) ∧ Below w.heap.size w w' :=
  (pinOk_im x w).mono fun e w' ⟨he, hw⟩ => ⟨by rw [he, decide_eq_true h], hw⟩
set_option maxRecDepth 100000 in
theorem pinOk_no (x : Pn) (w : World) (h : ¬ x.inn) : Calls Try.prog 53 #[pnA x] w fun e w' => e = .returned (.bool false) ∧ Below w.heap.size w w' :=
  (pinOk_im x w).mono fun e w' ⟨he, hw⟩ => ⟨by rw [he, decide_eq_false h], hw⟩
/-- What a call of WheelOk keeps while it looks at the pins. -/
structure OkV (w W : World) (q : List (Nat × Pn)) (z v : Value) : Prop where
  whl : Boxed W w.heap.size 26 z
  box : Boxed W (w.heap.size + 2) 66 v
  row : W.ownsRow w.heap.size 3 1 v q.length (ints (q.map fun x => x.2.id))
  res : Boxed W (w.heap.size + 1) 4 (.bool false)
  bel : Below w.heap.size w W
theorem OkV.below {w W W' : World} {q : List (Nat × Pn)} {z v : Value} (h : OkV w W q z v) (hb : Below W.heap.size W W') : OkV w W' q z v :=
  ⟨boxed_below h.whl hb, boxed_below h.box hb, own_below h.row hb, boxed_below h.res hb, h.bel.trans (hb.mono h.bel.size)⟩
set_option maxRecDepth 100000 in
set_option maxHeartbeats 16000000 in
theorem wheelOk_in (A : Option Addr) (sp : List Sp) (c : Nat) (w : World) (hsz : sp.length ≤ 1048577) (hlz : (allPn sp).length ≤ 1048577) (hA : Whl w A sp) :
    CallsIn Fence.wide 3 Try.prog 37 #[.agg #[.slice A sp.length c]] w fun e W' => TellB (wheelFine (sp.map (fun s => s.l))) e ∧ Below w.heap.size w W' := by
  have hro : Fence.wide.round = none := rfl
  have h0f : Fence.wide.fn 37 := trivial
  have h1f : Fence.wide.fn 89 := trivial
  have h2f : Fence.wide.fn 72 := trivial
  have h3f : Fence.wide.fn 74 := trivial
  have h4f : Fence.wide.fn 73 := trivial
  have h5f : Fence.wide.fn 53 := trivial
  have h6f : Fence.wide.fn 54 := trivial
  have h1 : 1 ≤ 3 := by omega
  obtain ⟨X, hX⟩ : ∃ X, (w.alloc (.cells #[.slice A sp.length c] 26)).alloc (.cells #[.bool false] 4) = X := ⟨_, rfl⟩
  have hXs : X.heap.size = w.heap.size + 2 := by rw [← hX]; simp
  have bR : Boxed X (w.heap.size + 1) 4 (.bool false) := by
    have := Boxed.new (w.alloc (.cells #[.slice A sp.length c] 26)) 4 (.bool false)
    rw [hX] at this; simpa using this
  have bW : Boxed X w.heap.size 26 (.slice A sp.length c) := by rw [← hX]; exact (Boxed.new w 26 (.slice A sp.length c)).alloc _
  have hBX : Below w.heap.size w X := by rw [← hX]; exact ((Below.refl _ w).alloc (Nat.le_refl _) _).alloc (by simp) _
  have HF := Lib.hid (wheelFine_iff sp)
  generalize wheelFine (sp.map (fun s => s.l)) = FINE at *
  refine callsIn_of_wp_marks Try.func37 rfl h0f ?_ hro
  simp only [Try.ntmps37, List.size_toArray, List.length_cons, List.length_nil, Nat.reduceAdd, Nat.reduceSub, Array.replicate_succ, Array.replicate_zero, List.push_toArray, List.append_toArray, List.nil_append, List.cons_append]
  have cW := bW.cell
  have cR := bR.cell
  have fR := bR.frozen
  by_cases h9 : sp.length = 9
  rotate_left
  · have e9 : ((sp.length : Int) != 9) = true := by simp; omega
    have HN : Hid (¬ FINE) := fun h => h9 (HF.out.1 h).1
    have HS := Lib.hid ((bR.set (.bool false)).cell)
    have HB := Lib.hid (hBX.setCell (p := ⟨w.heap.size + 1, 0, none⟩) (by show _ ≤ _ + 1; omega) (.bool false))
    clear bW bR hBX
    gi_wp2
    refine ⟨.bool false, ?_, TellB.no HN.out, HB.out⟩
    simp [results, Try.f37, go_sem, HS.out]
  have e9 : ((sp.length : Int) != 9) = false := by simp; omega
  have HH9 := Lib.hid h9
  clear h9
  obtain ⟨Y, hY⟩ : ∃ Y, X.alloc (.cells #[.slice none 0 0] 66) = Y := ⟨_, rfl⟩
  have hYs : Y.heap.size = w.heap.size + 3 := by rw [← hY]; simp; omega
  have bI : Boxed Y (w.heap.size + 2) 66 (.slice none 0 0) := by
    have := Boxed.new X 66 (.slice none 0 0)
    rw [hY, hXs] at this; exact this
  have bXY : Below X.heap.size X Y := by rw [← hY]; exact (Below.refl _ X).alloc (Nat.le_refl _) _
  have hBY := hBX.trans (bXY.mono hBX.size)
  have bR1 := boxed_below bR bXY
  have cW1 := (boxed_below bW bXY).cell
  obtain ⟨Z, hZ⟩ : ∃ Z, Y.alloc (.cells #[.slice A sp.length c] 26) = Z := ⟨_, rfl⟩
  have hZs : Z.heap.size = w.heap.size + 4 := by rw [← hZ]; simp; omega
  have bYZ : Below Y.heap.size Y Z := by rw [← hZ]; exact (Below.refl _ Y).alloc (Nat.le_refl _) _
  have bP : Boxed Z (w.heap.size + 3) 26 (.slice A sp.length c) := by
    have := Boxed.new Y 26 (.slice A sp.length c)
    rw [hZ, hYs] at this; exact this
  have hBZ := hBY.trans (bYZ.mono hBY.size)
  have bW1 := boxed_below (boxed_below bW bXY) bYZ
  have HS0 : Hid (OkV w Z [] (.slice A sp.length c) (.slice none 0 0)) := ⟨bW1, boxed_below bI bYZ, World.ownsRow_nil _ _ _ _, boxed_below bR1 bYZ, hBZ⟩
  have hstops := byList_stops 2 (by omega) (w.heap.size + 3) w.heap.size c A sp (by omega) (by omega) Z (by omega) (by omega) bP.cell (hA.row.below hBZ) (fun s hs => (hA.ok s hs).row.below hBZ)
  have HAW := Lib.hid (fun u (h : Below w.heap.size w u) => hA.below h)
  have hlen := tagN_len sp sp.length (Nat.le_refl _)
  rw [List.take_length] at hlen
  clear hA bW bR bI bXY hBX bR1 hBY bYZ
  have HXs := Lib.hid hXs
  have HYs := Lib.hid hYs
  have HZs := Lib.hid hZs
  clear hXs hYs hZs
  gi_wp2_with (gi_at_call 72; refine (byList_in _ _ _ _ _).mono ?_; rintro e w' ⟨rfl, rfl⟩)
  rw [HXs.out, HYs.out]
  clear hX hY hZ bW1 cW cR fR cW1 bP hBZ e9
  have hZs := HZs.out
  refine wpIn_rangeFunc_ownH hro h1 (gf := 89) (lb := #[.pointer (some ⟨w.heap.size + 3, 0, none⟩)]) rfl h1f (enters_of Try.func89 (by kernel_rfl) rfl)
    hstops belowK_t (belowK_b (by omega)) (Below.refl _ _) (fun _ => rfl)
    (fun pre W => GoodT pre ∧ ∃ v, OkV w W pre (.slice A sp.length c) v) (fun cd pre W => (cd = .ret ∧ ¬ GoodT pre) ∧ Boxed W (w.heap.size + 1) 4 (.bool false) ∧ Below w.heap.size w W)
    ?hI ?hIx ⟨⟨by simp, (fun _ h => by cases h), List.Pairwise.nil⟩, _, HS0.out⟩
    (fun x a' W => ∃ Bx, w.heap.size + 2 < Bx ∧ Bx < W.heap.size ∧ PnAt W Bx x.2 ∧ a' = { tmps := #[.agg #[.slice A sp.length c], .pointer (some ⟨w.heap.size, 0, none⟩), .pointer (some ⟨w.heap.size + 1, 0, none⟩), .pointer (some ⟨w.heap.size + 2, 0, none⟩), .int .i64 (x.1 : Int), .pointer (some ⟨Bx, 0, none⟩), .pointer (some ⟨w.heap.size, 0, none⟩), .slice A sp.length c, .int .i64 (sp.length : Int), .bool false, .agg #[.slice A sp.length c], .func (.func 89) #[] #[.pointer (some ⟨w.heap.size + 3, 0, none⟩)], .int .i64 (x.1 : Int), pnA x.2, undef, undef, undef, undef, undef, undef, undef, undef, undef, undef, undef, undef, undef, undef, undef, undef, undef, undef, undef, undef, undef, undef, undef, undef, undef, undef, undef, undef, undef], defers := [] })
    ?hAx ?assign ?body ?done ?stop
  case hI =>
    rintro s P Q row ⟨g1, ⟨v, k0, k1, k2, k3, k4⟩⟩ hg hr
    have hne : ∀ b, b < Z.heap.size → some b ≠ row := fun b hb e => by have := (hr b e.symm).1; omega
    refine ⟨g1, ⟨v, k0.kept hg (hne _ (by omega)), k1.kept hg (hne _ (by omega)), own_kept2 k2 hg (fun k hv e => ?_), k3.kept hg (hne _ (by omega)), k4.grown hg k4.size (fun k e => by have := (hr k e).1; omega)⟩⟩
    obtain ⟨_, o, ho, hc⟩ := hr k e
    obtain ⟨cur, hcur⟩ := own_typed2 k2 k hv
    rw [hcur] at ho; cases ho; cases hc
  case hIx =>
    rintro cd s P Q row ⟨g1, k3, k4⟩ hg hr
    exact ⟨g1, k3.kept hg (fun e => by have := (hr _ e.symm).1; omega), k4.grown hg k4.size (fun k e => by have := (hr k e).1; omega)⟩
  case hAx =>
    rintro x a' _ P Q row ⟨Bx, q1, q0, q2, q3⟩ hg hr
    exact ⟨Bx, q1, Nat.lt_of_lt_of_le q0 hg.size, q2.kept hg (fun r e => (hr r e).2), q3⟩
  case assign =>
    rintro l pre x W K ⟨g1, v, hs⟩ hK
    have hz : (Array.zip (α := Tmp) (β := Value) #[12, 13] #[.int .i64 (x.1 : Int), pnA x.2]) = #[(12, .int .i64 (x.1 : Int)), (13, pnA x.2)] := by simp
    rw [hz]
    simp only [List.foldl_toArray, List.foldl_cons, List.foldl_nil, List.setIfInBounds_toArray, List.set_cons_succ, List.set_cons_zero]
    unfold pnA at hK ⊢
    have ba : Below W.heap.size W (W.alloc (.cells #[.int .i64 x.2.at_, .int .i64 x.2.id] 33)) := (Below.refl _ _).alloc (Nat.le_refl _) _
    have hlt2 := hs.box.lt
    have HK := Lib.hid (hK _ _ ((KeepsOthers.alloc _ _).from _) ((Below.refl _ W).alloc hs.bel.size _) ⟨g1, v, hs.below ba⟩ ⟨W.heap.size, by omega, by simp, PnAt.new W x.2 _, rfl⟩)
    clear hK
    gi_wp2
    exact HK.out
  case body =>
    rintro l pre ⟨sn, p⟩ a' W hl ⟨r, hr⟩ ⟨hgood, v, hS⟩ ⟨Bx, hBx, hl0, X0, rfl⟩ hlt
    clear hZs hr
    simp only at X0 hlt
    have HGS := Lib.hid (GoodT.snoc (l := pre) (x := (sn, p)))
    obtain ⟨VA, vc, rfl, hvc, hvn, _⟩ := own_form hS.row
    have S0 := Lib.hid hS
    have B0 : Hid (Below W.heap.size W W) := Below.refl _ _
    have cI0 := hS.box.cell
    obtain ⟨p00, p10⟩ := id X0
    have hl10 := hgood.1
    have HGD := Lib.hid hgood
    have RT : Hid (∀ (W' : World) (vv : Value), OkV w W' pre (.slice A sp.length c) vv → Below W.heap.size W W' → ¬ GoodT (pre ++ [(sn, p)]) → (KeepsFrom Z.heap.size W (W'.setCell ⟨w.heap.size + 1, 0, none⟩ (.bool false)) ∧ ¬ GoodT (pre ++ [(sn, p)]) ∧ Boxed (W'.setCell ⟨w.heap.size + 1, 0, none⟩ (.bool false)) (w.heap.size + 1) 4 (.bool false) ∧ Below w.heap.size w (W'.setCell ⟨w.heap.size + 1, 0, none⟩ (.bool false)))) := fun W' vv hs' hb' hn =>
      ⟨((KeepsOthers.of_grownBy (row := none) ⟨hb'.os, hb'.tape, hb'.output, hb'.size, fun k hk _ => hb'.block k hk⟩ (fun j o e => by cases e)).trans (KeepsOthers.setCell _ _ _)).from _, hn, hs'.res.set _, hs'.bel.setCell (p := ⟨w.heap.size + 1, 0, none⟩) (by show _ ≤ _ + 1; omega) _⟩
    clear hS hgood
    unfold pnA
    by_cases h10 : pre.length = 10
    · have HR := Lib.hid (RT.out W _ S0.out B0.out (fun h => by have := (HGS.out.1 h).2.1; omega))
      have e10 : ((pre.length : Int) == 10) = true := by simp; omega
      clear RT h10
      have cR := S0.out.res.cell
      have fR := S0.out.res.frozen
      gi_wp2
      obtain ⟨r1, r2, r3, r4⟩ := HR.out
      exact ⟨r1, ⟨rfl, r2⟩, r3, r4⟩
    have e10 : ((pre.length : Int) == 10) = false := by simp; omega
    have h11 : pre.length + 1 ≤ 10 := by omega
    clear h10
    by_cases hin : p.inn
    rotate_left
    · have HC := Lib.hid (fun w' => pinOk_no p w' hin)
      have HNN : Hid (¬ GoodT (pre ++ [(sn, p)])) := fun h => hin (HGS.out.1 h).2.2.1
      unfold pnA at HC
      clear hin
      gi_wp2_with fail
      gi_at_call 53
      refine (CallsIn.inRound l (callsIn_wide.2 (HC.out _))).mono ?_
      rintro e u1 ⟨rfl, b1⟩
      have S1 := Lib.hid (S0.out.below b1)
      have X1 := X0.below b1 hl0
      have hl1 := Nat.lt_of_lt_of_le hl0 b1.size
      have B1 : Hid (Below W.heap.size W u1) := B0.out.trans (b1.mono B0.out.size)
      have cI1 := S1.out.box.cell
      obtain ⟨p01, p11⟩ := id X1
      clear b1 p00 p10 cI0
      have HR := Lib.hid (RT.out u1 _ S1.out B1.out HNN.out)
      have cR := S1.out.res.cell
      have fR := S1.out.res.frozen
      gi_wp2
      obtain ⟨r1, r2, r3, r4⟩ := HR.out
      exact ⟨r1, ⟨rfl, r2⟩, r3, r4⟩
    have HC := Lib.hid (fun w' => pinOk_yes p w' hin)
    have HC2 := Lib.hid (fun w' => spokeOf_im p w')
    unfold pnA at HC HC2
    have HIN := Lib.hid hin
    clear hin
    obtain ⟨tm, etm⟩ : ∃ tm, p.at_.tmod 9 = tm := ⟨_, rfl⟩
    rw [etm] at HC2
    have HTM := Lib.hid etm
    clear etm
    gi_wp2_with fail
    gi_at_call 53
    refine (CallsIn.inRound l (callsIn_wide.2 (HC.out _))).mono ?_
    rintro e u1 ⟨rfl, b1⟩
    have S1 := Lib.hid (S0.out.below b1)
    have X1 := X0.below b1 hl0
    have hl1 := Nat.lt_of_lt_of_le hl0 b1.size
    have B1 : Hid (Below W.heap.size W u1) := B0.out.trans (b1.mono B0.out.size)
    have cI1 := S1.out.box.cell
    obtain ⟨p01, p11⟩ := id X1
    clear b1 p00 p10 cI0
    gi_wp2_with fail
    gi_at_call 54
    refine (CallsIn.inRound l (callsIn_wide.2 (HC2.out _))).mono ?_
    rintro e u2 ⟨rfl, b2⟩
    have S2 := Lib.hid (S1.out.below b2)
    have X2 := X1.below b2 hl1
    have hl2 := Nat.lt_of_lt_of_le hl1 b2.size
    have B2 : Hid (Below W.heap.size W u2) := B1.out.trans (b2.mono B1.out.size)
    have cI2 := S2.out.box.cell
    obtain ⟨p02, p12⟩ := id X2
    clear b2 p01 p11 cI1
    clear HC HC2
    by_cases hsp : tm = (sn : Int)
    rotate_left
    · have esp : (tm != (sn : Int)) = true := by simp [hsp]
      have HR := Lib.hid (RT.out u2 _ S2.out B2.out (fun h => hsp (HTM.out.symm.trans (HGS.out.1 h).2.2.2.1)))
      clear hsp
      have cR := S2.out.res.cell
      have fR := S2.out.res.frozen
      gi_wp2
      obtain ⟨r1, r2, r3, r4⟩ := HR.out
      exact ⟨r1, ⟨rfl, r2⟩, r3, r4⟩
    have esp : (tm != (sn : Int)) = false := by simp [hsp]
    have HSP := Lib.hid hsp
    clear hsp
    have HCC := Lib.hid (contains_im VA (pre.map fun x => x.2.id) vc p.id u2 (by rw [List.length_map]; omega) (own_rws S2.out.row))
    rw [List.length_map] at HCC
    by_cases hmem : p.id ∈ pre.map (fun x => x.2.id)
    · rw [decide_eq_true hmem] at HCC
      have HR := Lib.hid (RT.out u2 _ S2.out B2.out (fun h => (HGS.out.1 h).2.2.2.2 hmem))
      clear hmem
      gi_wp2_with fail
      gi_at_call 73
      refine (CallsIn.inRound l (callsIn_wide.2 HCC.out)).mono ?_
      rintro e u3 ⟨rfl, rfl⟩
      have cR := S2.out.res.cell
      have fR := S2.out.res.frozen
      gi_wp2
      obtain ⟨r1, r2, r3, r4⟩ := HR.out
      exact ⟨r1, ⟨rfl, r2⟩, r3, r4⟩
    rw [decide_eq_false hmem] at HCC
    have HG2 : Hid (GoodT (pre ++ [(sn, p)])) := HGS.out.2 ⟨HGD.out, h11, HIN.out, HTM.out.trans HSP.out, hmem⟩
    clear hmem
    obtain ⟨j0, hj, hj0, hj1, hj2⟩ := info_parts rowInt.inf
    have hO := S2.out.row
    have kI := S2.out.box
    have hbs := S2.out.bel.size
    gi_wp2_with fail
    gi_at_call 73
    refine (CallsIn.inRound l (callsIn_wide.2 HCC.out)).mono ?_
    rintro e u3 ⟨rfl, rfl⟩
    gi_wp2_with (gi_at_builtin; refine wpListIn_append_own _ rfl _ _ 66 rfl w.heap.size 3 j0 (.int .i64 0) 1 8 rowInt.ut hj hj0 hj1 hj2 rowInt.zc rowInt.pos _ _ _ rfl (hO.alloc _) ⟨u2.heap.size, 0, none⟩ 1 1 [.int .i64 p.id] rfl rfl (int_one_new _ _) (by simp [Value.oneCell']) (by unfold maxLen; omega) (by omega) (by simp; omega) ?_; intro v' w1 hown' hgrow _; obtain ⟨g', cap', rfl⟩ := ownsRow_succ hown'; obtain ⟨hv1, hv2, hr2, hk2, hb2⟩ := kI.appended (by decide) hO hbs (by omega) hown' hgrow; have hc1 := hv1.cell; have hf1 := hv1.frozen)
    have kR2 := ((S2.out.res.alloc _).kept hgrow (S2.out.res.not_row (by decide) hO)).other (show w.heap.size + 1 ≠ w.heap.size + 2 by omega) (.slice (some ⟨g', 0, none⟩) (pre.length + 1) cap')
    have kW2 := ((S2.out.whl.alloc _).kept hgrow (S2.out.whl.not_row (by decide) hO)).other (show w.heap.size ≠ w.heap.size + 2 by omega) (.slice (some ⟨g', 0, none⟩) (pre.length + 1) cap')
    have hb0 := B2.out
    refine ⟨((KeepsOthers.of_grownBy (row := none) ⟨hb0.os, hb0.tape, hb0.output, hb0.size, fun k hk _ => hb0.block k hk⟩ (fun j o e => by cases e)).trans hk2).from _, (hb0.mono S0.out.bel.size).trans hb2, HG2.out, _, kW2, hv2, ?_, kR2, S2.out.bel.trans hb2⟩
    rw [List.length_append, List.map_append]
    have := hr2
    simpa [ints] using this
  case done =>
    rintro D ys W hD rfl ⟨hg, v, hS⟩ hK
    have cW := hS.whl.cell
    have HSS := Lib.hid hS
    have HG := Lib.hid hg
    have HC := Lib.hid (containsFuncS_im A sp c W hsz hlz (HAW.out W hS.bel))
    clear hS hg
    gi_wp2_with fail
    gi_at_call 74
    refine (callsIn_wide.2 HC.out).mono ?_
    rintro e u ⟨⟨q, rfl, hq⟩, b⟩
    have S1 := HSS.out.below b
    have hK1 : u.heap[D]? = some (.deferred (some [])) := (b.block D (Array.getElem?_eq_some_iff.1 hK).1).trans hK
    have cR := S1.res.cell
    have fR := S1.res.frozen
    have hK' := (KeepsOthers.setCell u ⟨w.heap.size + 1, 0, none⟩ (.bool !q)).same D _ hK1 rfl
    have hc5 := cell_kept (S1.res.set (.bool !q)).cell (grownBy_putObj' _ D (.deferred none)) (fun r e => by cases e; exact ⟨_, hK', rfl⟩)
    have HB := Lib.hid ((S1.bel.setCell (p := ⟨w.heap.size + 1, 0, none⟩) (by show _ ≤ _ + 1; omega) (.bool !q)).trans (belowK_b (w := w) (Nat.le_refl _) _ D _ (.deferred none) (by omega) hK' rfl rfl))
    have HCC := Lib.hid hc5
    have HT : Hid (TellB FINE (.returned (.bool !q))) := TellB.of (by
      rw [HF.out]
      constructor
      · intro h
        have hq2 : ¬ q = true := by cases q <;> simp at h ⊢
        exact ⟨HH9.out, HG.out, fun s hs => Classical.not_not.1 (fun hn => hq2 (hq.2 ⟨s, hs, hn⟩))⟩
      · rintro ⟨_, _, h3⟩
        cases q with
        | false => rfl
        | true => obtain ⟨s, hs, hn⟩ := hq.1 rfl; exact absurd (h3 s hs) hn)
    clear b S1 hq
    gi_wp2
    refine ⟨by simp, .inl ⟨_, _, rfl, run_takeDeferred hK', ?_⟩⟩
    refine ⟨.bool !q, ?_, HT.out, HB.out⟩
    simp [results, Try.f37, go_sem, HCC.out]
  case stop =>
    rintro D cd pre W hD hpre ⟨⟨rfl, hng⟩, bR1, hB1⟩ hK
    have hc5 := cell_kept bR1.cell (grownBy_putObj' _ D (.deferred none)) (fun r e => by cases e; exact ⟨_, hK, rfl⟩)
    have HB := Lib.hid (hB1.trans (belowK_b (w := w) (Nat.le_refl _) W D _ (.deferred none) (by omega) hK rfl rfl))
    have HC := Lib.hid hc5
    have HN : Hid (¬ FINE) := fun h => hng ((HF.out.1 h).2.1.part hpre)
    gi_wp2
    refine ⟨by simp, .inl ⟨_, _, rfl, run_takeDeferred hK, ?_⟩⟩
    refine ⟨.bool false, ?_, TellB.no HN.out, HB.out⟩
    simp [results, Try.f37, go_sem, HC.out]
end Go.Proofs.Ytflomkebgiemaaa
