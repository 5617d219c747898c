/- The cursor over the code of a law. -/
import Derived.Test.YtcapioiigfldoaaRows
import Derived.Test.YtcapioiigfldoaaGetU
import Derived.RegionTactic
import Derived.Deep.RegionWith
import Derived.Deep.RegionHeld3
import Derived.StillTailTactics
namespace Go.Proofs.Ytcapioiigfldoaa
open Go.RowKit
set_option linter.unusedSimpArgs false
set_option linter.unusedVariables false
set_option maxRecDepth 100000 in
theorem big_no (A : Option Addr) (n c : Nat) (w : World) (h : n ≤ 1048576) : Calls Try.prog 10 #[.slice A n c] w fun e w' => e = .returned (.bool false) ∧ w = w' := by
  have hd : decide (1048576 < (n : Int)) = false := by simp; omega
  go_enter Try.func10, Try.ntmps10
  go_wp2
  go_ret
  exact ⟨rfl, rfl⟩
set_option maxRecDepth 100000 in
theorem big_yes (A : Option Addr) (n c : Nat) (w : World) (h : 1048576 < n) : Calls Try.prog 10 #[.slice A n c] w fun e w' => e = .returned (.bool true) ∧ w = w' := by
  have hd : decide (1048576 < (n : Int)) = true := by simp; omega
  go_enter Try.func10, Try.ntmps10
  go_wp2
  go_ret
  exact ⟨rfl, rfl⟩
/-- The law's own reader of its code. -/
def at0N (l : List Nat) (i : Nat) : Nat := if i < l.length then l.getD i 0 else (i * 7 + l.length) % 256
theorem at0N_lt {l : List Nat} (h : AllB l) (i : Nat) : at0N l i < 256 := by
  unfold at0N; split
  · exact h.getD i
  · omega
set_option maxRecDepth 100000 in
theorem at0_any (A : Option Addr) (l : List Nat) (c B i : Nat) (w : World) (hl : l.length ≤ 2097152) (hi : i ≤ 2097152) (hA : Bts w B A l) (hb : AllB l) :
    Calls Try.prog 19 #[.slice A l.length c, .int .i64 i] w fun e w' => e = .returned (.int .i64 ((at0N l i : Nat) : Int)) ∧ w = w' := by
  by_cases h : i < l.length
  · obtain ⟨b, off, rfl, hbB, hc⟩ := hA.at_ h
    have hv := hb.getD i
    have e : at0N l i = l.getD i 0 := by unfold at0N; rw [if_pos h]
    rw [e]
    clear e
    generalize l.getD i 0 = v at *
    go_enter Try.func19, Try.ntmps19
    go_wp2
    go_ret
    exact ⟨rfl, rfl⟩
  · have e : at0N l i = (i * 7 + l.length) % 256 := by unfold at0N; rw [if_neg h]
    rw [e]
    clear e
    go_enter Try.func19, Try.ntmps19
    go_wp2
    go_ret
    exact ⟨rfl, rfl⟩
theorem Bts.take {w : World} {B : Nat} {A : Option Addr} {l : List Nat} (h : Bts w B A l) (k : Nat) : Bts w B A (l.take k) := by
  rcases h with rfl | ⟨b, off, e, hb, hc⟩
  · exact .inl (by simp)
  · refine .inr ⟨b, off, e, hb, fun j hj => ?_⟩
    simp at hj
    rw [hc j (by omega)]
    simp [List.getD_eq_getElem?_getD, hj]
    rw [List.getElem?_eq_getElem (by omega)]; rfl
set_option maxRecDepth 100000 in
/-- append(v, q...) where v is the call's own and q came in, nil or not. -/
theorem wpList_appA (w : World) {ops : Array Oper} {rest : List Oper} {o : Oper} {a : Act} {Q : Exit → Act → World → Prop} (hgd : o.guard = none) (s x : Operand)
    (ho : o.op = .call { callee := .builtin .append, args := #[s, x], argTypes := #[22, 22] })
    (base : Nat) (v : Value) (p : List Nat) (hs : a.eval s = v) (hown : OwnB w base v p)
    (B : Nat) (A : Option Addr) (c : Nat) (q : List Nat) (m : Nat) (hmq : m = q.length) (hx : a.eval x = .slice A m c) (hq : Bts w B A q) (hnil : A = none → c = 0)
    (hlen : p.length + q.length ≤ 1099511627776) (hbase : base ≤ w.heap.size)
    (h : ∀ v' w', OwnB w' base v' (p ++ q) → w.grownBy w' v.ownBlock → (v'.ownBlock = v.ownBlock ∨ v'.ownBlock = some w.heap.size) → wpList Try.prog ops Q rest (a.put o.dst v') w') :
    wpList Try.prog ops Q (o :: rest) a w := by
  subst hmq
  obtain ⟨i0, hi, hz0, hz1, hz2⟩ := info_parts info5
  rcases A with _ | ad
  · have hq0 : q = [] := by
      rcases hq with h | ⟨_, _, h, _⟩
      · exact h
      · cases h
    subst hq0
    rw [hnil rfl] at hx
    exact wpList_appB_nil w hgd s x ho base v p hs hown hx (h v w (by simpa using hown) (World.grownBy.refl _ _) (.inl rfl))
  · refine wpList_append_own_at (P := Try.prog) w hgd s x 22 ho base 5 i0 (.int .u8 0) 1 1 Try.underlying22 hi hz0 hz1 hz2 rfl (by decide) v p.length (bcells p) hs hown
      ad q.length c (bcells q) hx (by simp [bcells_length]) ?_ (bcells_one q) (by unfold maxLen; omega) (by omega) hbase ?_
    · intro j u hj
      have hj' : j < q.length := by
        rcases Nat.lt_or_ge j q.length with h | h
        · exact h
        · rw [List.getElem?_eq_none (by rw [bcells_length]; exact h)] at hj; cases hj
      rcases hq with rfl | ⟨b, off, e, _, hc⟩
      · simp at hj'
      · injection e with e
        subst e
        rw [add_at, hc j hj', ← hj, bcells_get q j hj']
    · intro v' w' h1 h2 _ h4
      exact h v' w' (by unfold OwnB; rw [List.length_append, bcells_append]; exact h1) h2 h4
set_option maxRecDepth 100000 in
theorem crc_spec_n (A : Option Addr) (l : List Nat) (n cap B : Nat) (w : World) (hn : n = l.length) (hl : l.length ≤ 2097152) (hA : Bts w B A l) (hb : AllB l) :
    Calls Try.prog 68 #[.slice A n cap] w fun e w' => e = .returned (.int .i64 (M.crc l)) ∧ w = w' := by subst hn; exact crc_spec A l cap B w hl hA hb
theorem bcells_set (l : List Nat) (k v : Nat) : (bcells l).set k (.int .u8 (v : Int)) = bcells (l.set k v) := by
  unfold bcells; rw [List.map_set]
theorem set_split (l : List Nat) (k v : Nat) (h : k < l.length) : l = l.take k ++ l.getD k 0 :: l.drop (k + 1) ∧ l.set k v = l.take k ++ v :: l.drop (k + 1) := by
  constructor
  · rw [← drop_cons l k h, List.take_append_drop]
  · rw [List.set_eq_take_append_cons_drop, if_pos h]
theorem crc_set (l : List Nat) (hb : AllB l) (k v : Nat) (h : k < l.length) (hv : v < 256) (hne : l.getD k 0 ≠ v) : M.crc (l.set k v) ≠ M.crc l := by
  obtain ⟨h1, h2⟩ := set_split l k v h
  rw [h2]
  intro e
  have e2 : M.crc (l.take k ++ v :: l.drop (k + 1)) = M.crc (l.take k ++ l.getD k 0 :: l.drop (k + 1)) := by rw [e, ← h1]
  exact M.crc_changed (l.take k) (l.drop (k + 1)) (hb.take k) (hb.drop (k + 1)) hv (hb.getD k) hne.symm e2
theorem set_all (l : List Nat) (hb : AllB l) (k v : Nat) (hv : v < 256) : AllB (l.set k v) := by
  intro b hb'
  rcases List.mem_or_eq_of_mem_set hb' with h | rfl
  · exact hb b h
  · exact hv
theorem OwnB.set {w : World} {base g c k v n : Nat} {l : List Nat} (h : OwnB w base (.slice (some ⟨g, 0, none⟩) n c) l) :
    OwnB (w.setCell ⟨g, k, none⟩ (.int .u8 (v : Int))) base (.slice (some ⟨g, 0, none⟩) n c) (l.set k v) := by
  have hn := (OwnB.cap h).1
  subst hn
  have := (World.ownsRow.stored h k (.int .u8 (v : Int))).1
  unfold OwnB
  rw [List.length_set, ← bcells_set]
  exact this
theorem OwnB.bts_n {w : World} {base n : Nat} {A : Option Addr} {c : Nat} {l : List Nat} (h : OwnB w base (.slice A n c) l) : Bts w w.heap.size A l := by
  obtain ⟨A', c', he, hb, _⟩ := OwnB.form h
  injection he with h1 _ _
  rw [h1]; exact hb
theorem xor_ne {a m : Nat} (hm : 0 < m) : a ≠ a ^^^ m := by
  intro h
  have h2 : a ^^^ 0 = a ^^^ m := by rw [Nat.xor_zero]; exact h
  have := M.xor_cancel_left h2
  omega
/-- Block g is a cursor over the bytes l, which lie at A, below the cursor. -/
def Cur (w : World) (g : Nat) (A : Option Addr) (l : List Nat) (c : Nat) : Prop :=
  Bts w g A l ∧ ∃ (i : Nat) (h : Int), i ≤ l.length ∧ w.heap[g]? = some (.cells #[.slice A l.length c, .int .i64 (i : Int), .int .i64 h] 72 (0, 0))
theorem Cur.lt {w : World} {g : Nat} {A : Option Addr} {l : List Nat} {c : Nat} (h : Cur w g A l c) : g < w.heap.size := by
  obtain ⟨_, i, x, _, hg⟩ := h
  exact (Array.getElem?_eq_some_iff.1 hg).1
theorem Cur.below {w w' : World} {g : Nat} {A : Option Addr} {l : List Nat} {c : Nat} (h : Cur w g A l c) {B : Nat} (hb : Below B w w') (hB : g < B) : Cur w' g A l c := by
  obtain ⟨h1, i, x, hi, hg⟩ := h
  exact ⟨h1.below (hb.mono (by omega)), i, x, hi, by rw [hb.block g hB]; exact hg⟩
def NewCur (w : World) (A : Option Addr) (l : List Nat) (c : Nat) (e : Ending) (w' : World) : Prop :=
  e = .returned (.pointer (some ⟨w.heap.size, 0, none⟩)) ∧ Cur w' w.heap.size A l c ∧ Below w.heap.size w w'
theorem newCur_mk (w : World) (A : Option Addr) (l : List Nat) (c : Nat) (h : Int) (hA : Bts w w.heap.size A l) :
    NewCur w A l c (.returned (.pointer (some ⟨w.heap.size, 0, none⟩))) (w.alloc (.cells #[.slice A l.length c, .int .i64 0, .int .i64 h] 72)) := by
  have b : Below w.heap.size w (w.alloc (.cells #[.slice A l.length c, .int .i64 0, .int .i64 h] 72)) := (Below.refl _ _).alloc (Nat.le_refl _) _
  exact ⟨rfl, ⟨hA.below b, 0, h, by omega, heap_alloc_new _ _⟩, b⟩
set_option maxHeartbeats 400000 in
set_option maxRecDepth 100000 in
theorem l1New_any (A : Option Addr) (l : List Nat) (c : Nat) (w : World) (hl : l.length ≤ 2097152) (hA : Bts w w.heap.size A l) (hb : AllB l) :
    Calls Try.prog 35 #[.slice A l.length c] w (NewCur w A l c) := by
  have HF := Lib.hid (fun h => newCur_mk w A l c h hA)
  go_enter Try.func35, Try.ntmps35
  go_wp2
  go_loop [3, 4] (fun h i => ∃ (n : Int) (k : Nat), k ≤ l.length ∧ i = .int .i64 k ∧ h = .int .i64 n) (fun _ i => l.length - (intOf i).toNat)
  case atStart => exact ⟨_, 0, by omega, rfl, rfl⟩
  case round =>
    obtain ⟨n, k, hk, rfl, rfl⟩ := hrel
    by_cases hlt : k < l.length
    · obtain ⟨b, off, rfl, hbB, hc⟩ := hA.at_ hlt
      have hd := hb.getD k
      generalize l.getD k 0 = d at *
      by_cases h4 : k < 4000
      · go_wp2
        go_round
        case rel => exact ⟨_, k + 1, by omega, by go_num, rfl⟩
        case measure => simp [intOf]; omega
      · go_wp2
        go_ret
        exact HF.out _
    · go_wp2
      go_ret
      exact HF.out _
/-- The low eight bits. -/
def low8 (y : Int) : Nat := (bits .and .i64 y 255).toNat
theorem low8_eq (y : Int) : bits .and .i64 y 255 = ((low8 y : Nat) : Int) ∧ low8 y < 256 := by
  have h : bits .and .i64 y 255 = (((BitVec.ofInt 64 y).toNat % 256 : Nat) : Int) := by
    show IntKind.i64.wrap ((BitVec.ofInt 64 y &&& BitVec.ofInt 64 255).toNat : Int) = _
    have e : (BitVec.ofInt 64 (255 : Int)).toNat = 255 := by decide
    rw [BitVec.toNat_and, e, nat_mask8, IntKind.wrap_i64]
    omega
  unfold low8
  rw [h]
  omega
theorem low8_in (y : Int) : 0 ≤ ((low8 y : Nat) : Int) ∧ ((low8 y : Nat) : Int) < 256 := by have := (low8_eq y).2; omega
theorem grown_drawn {a w : World} {row : Option Nat} (h : a.grownBy w row) (n : Nat) : a.grownBy (w.drewN n) row := ⟨h.os, h.tape, h.output, h.size, h.block⟩
def GotByte (w : World) (g : Nat) (A : Option Addr) (l : List Nat) (c : Nat) (e : Ending) (w' : World) : Prop :=
  ∃ x : Nat, x < 256 ∧ e = .returned (.int .i64 (x : Int)) ∧ Cur w' g A l c ∧ w.grownBy w' (some g)
theorem got_byte_next {w w1 : World} {g : Nat} {A : Option Addr} {l : List Nat} {c i : Nat} {h : Int} (n : Nat) (x : Int) (hx : 0 ≤ x ∧ x < 256) (gr : w.grownBy w1 (some g)) (hA : Bts w1 g A l) (hin : i < l.length)
    (hg : w1.heap[g]? = some (.cells #[.slice A l.length c, .int .i64 (i : Int), .int .i64 h] 72 (0, 0))) :
    GotByte w g A l c (.returned (.int .i64 x)) ((w1.setCell ⟨g, 1, none⟩ (.int .i64 ((i : Int) + 1))).drewN n) := by
  have b : Below g w1 ((w1.setCell ⟨g, 1, none⟩ (.int .i64 ((i : Int) + 1))).drewN n) := below_drawn ((Below.refl _ _).setCell (by exact Nat.le_refl _) _) n
  refine ⟨x.toNat, by omega, by rw [Int.toNat_of_nonneg hx.1], ⟨hA.below b, i + 1, h, by omega, ?_⟩, ?_⟩
  · exact heap_setCell_same w1 g 1 _ 72 (.int .i64 ((i : Int) + 1)) hg
  · refine gr.trans ⟨rfl, rfl, rfl, by simp [World.drewN, World.setCell], fun k _ hk => ?_⟩
    exact Below.heap_setCell w1 ⟨g, 1, none⟩ _ k (fun e => hk (by rw [e]))
theorem got_byte_end {w w1 : World} {g : Nat} {A : Option Addr} {l : List Nat} {c i : Nat} {h : Int} (n : Nat) (x : Int) (hx : 0 ≤ x ∧ x < 256) (gr : w.grownBy w1 (some g)) (hA : Bts w1 g A l) (hi : i ≤ l.length)
    (hg : w1.heap[g]? = some (.cells #[.slice A l.length c, .int .i64 (i : Int), .int .i64 h] 72 (0, 0))) :
    GotByte w g A l c (.returned (.int .i64 x)) (w1.drewN n) :=
  ⟨x.toNat, by omega, by rw [Int.toNat_of_nonneg hx.1], ⟨hA, i, h, hi, hg⟩, gr.trans ⟨rfl, rfl, rfl, Nat.le_refl _, fun _ _ _ => rfl⟩⟩
set_option maxHeartbeats 800000 in
set_option maxRecDepth 100000 in
theorem l1Byte_any (A : Option Addr) (l : List Nat) (c g : Nat) (w : World) (hl : l.length ≤ 2097152) (hb : AllB l) (hc : Cur w g A l c) :
    Calls Try.prog 60 #[.pointer (some ⟨g, 0, none⟩)] w (GotByte w g A l c) := by
  obtain ⟨hA, i, h, hi, hg⟩ := hc
  have c2 : w.cell? ⟨g, 2, none⟩ = some (.int .i64 h) := cell_of_row w g 2 _ 72 (0, 0) hg
  have f2 : w.frozen? ⟨g, 2, none⟩ = false := frozen_of_row w g 2 _ 72 hg
  have hl8 : ∀ y : Int, bits .and .i64 y 255 = ((low8 y : Nat) : Int) := fun y => (low8_eq y).1
  have HG := Lib.hid hg
  clear hg
  go_enter Try.func60, Try.ntmps60
  go_wp2
  obtain ⟨h2, hh2⟩ : ∃ h2, h2 = wrap64 (wrap64 (h * 6364136223846793005) + 1442695040888963407) := ⟨_, rfl⟩
  rw [← hh2]
  clear hh2
  have hg1 := heap_setCell_same w g 2 _ 72 (.int .i64 h2) HG.out
  have gr1 : w.grownBy (w.setCell ⟨g, 2, none⟩ (.int .i64 h2)) (some g) := ⟨rfl, rfl, rfl, by simp, fun k _ hk => Below.heap_setCell _ _ _ _ (fun e => hk (by rw [e]))⟩
  have hA1 : Bts (w.setCell ⟨g, 2, none⟩ (.int .i64 h2)) g A l := hA.below ((Below.refl _ _).setCell (by exact Nat.le_refl _) _)
  clear c2 f2 HG
  generalize w.setCell ⟨g, 2, none⟩ (.int .i64 h2) = w1 at *
  have c0 : w1.cell? ⟨g, 0, none⟩ = some (.slice A l.length c) := cell_of_row w1 g 0 _ 72 (0, 0) hg1
  have c1 : w1.cell? ⟨g, 1, none⟩ = some (.int .i64 (i : Int)) := cell_of_row w1 g 1 _ 72 (0, 0) hg1
  have c2 : w1.cell? ⟨g, 2, none⟩ = some (.int .i64 h2) := cell_of_row w1 g 2 _ 72 (0, 0) hg1
  have f1 : w1.frozen? ⟨g, 1, none⟩ = false := frozen_of_row w1 g 1 _ 72 hg1
  have HG := Lib.hid hg1
  clear hg1
  by_cases hin : i < l.length
  · obtain ⟨b, off, rfl, hbB, hcell⟩ := hA1.at_ hin
    have hd := hb.getD i
    generalize l.getD i 0 = d at *
    go_quiet (fail)
    go_wp2
    go_quiet (fail)
    go_wp2
    go_quiet (fail)
    go_wp2
    go_ret
    exact got_byte_next _ _ (low8_in _) gr1 hA1 hin HG.out
  · have hge : decide ((i : Int) < (l.length : Int)) = false := by simp; omega
    go_quiet (fail)
    go_wp2
    go_quiet (fail)
    go_wp2
    go_ret
    exact got_byte_end _ _ (low8_in _) (grown_drawn gr1 _) hA1 hi HG.out
def GotBelow (w : World) (g : Nat) (A : Option Addr) (l : List Nat) (c n : Nat) (e : Ending) (w' : World) : Prop :=
  ∃ x : Nat, x < n ∧ e = .returned (.int .i64 (x : Int)) ∧ Cur w' g A l c ∧ w.grownBy w' (some g)
theorem got_below {w w' : World} {g : Nat} {A : Option Addr} {l : List Nat} {c n : Nat} {x : Int} (hx : 0 ≤ x ∧ x < n) (hc : Cur w' g A l c) (gr : w.grownBy w' (some g)) : GotBelow w g A l c n (.returned (.int .i64 x)) w' :=
  ⟨x.toNat, by omega, by rw [Int.toNat_of_nonneg hx.1], hc, gr⟩
set_option maxRecDepth 100000 in
set_option maxHeartbeats 400000 in
theorem l1Below_any (A : Option Addr) (l : List Nat) (c g n : Nat) (w : World) (hl : l.length ≤ 2097152) (hb : AllB l) (hn : 0 < n) (hn2 : n ≤ 2147483648) (hc : Cur w g A l c) :
    Calls Try.prog 53 #[.pointer (some ⟨g, 0, none⟩), .int .i64 n] w (GotBelow w g A l c n) := by
  by_cases h256 : n ≤ 256
  · go_enter Try.func53, Try.ntmps53
    go_wp2_with fail
    refine (l1Byte_any A l c g _ hl hb hc).mono ?_
    rintro e w1 ⟨x, hx, rfl, hc1, gr1⟩
    go_wp2
    go_ret
    exact got_below ⟨Int.emod_nonneg _ (by omega), Int.emod_lt_of_pos _ (by omega)⟩ hc1 gr1
  · go_enter Try.func53, Try.ntmps53
    go_wp2_with fail
    refine (l1Byte_any A l c g _ hl hb hc).mono ?_
    rintro e w1 ⟨x, hx, rfl, hc1, gr1⟩
    go_wp2_with fail
    refine (l1Byte_any A l c g _ hl hb hc1).mono ?_
    rintro e w2 ⟨y, hy, rfl, hc2, gr2⟩
    go_wp2_with fail
    refine (l1Byte_any A l c g _ hl hb hc2).mono ?_
    rintro e w3 ⟨z, hz, rfl, hc3, gr3⟩
    go_wp2_with fail
    refine (l1Byte_any A l c g _ hl hb hc3).mono ?_
    rintro e w4 ⟨u, hu, rfl, hc4, gr4⟩
    go_wp2
    go_ret
    exact got_below ⟨Int.emod_nonneg _ (by omega), Int.emod_lt_of_pos _ (by omega)⟩ hc4 (gr1.trans (gr2.trans (gr3.trans gr4)))
def GotPick (w : World) (g : Nat) (A : Option Addr) (l : List Nat) (c : Nat) (xs : List ByteArray) (e : Ending) (w' : World) : Prop :=
  ∃ s ∈ xs, e = .returned (.string s) ∧ Cur w' g A l c ∧ w.grownBy w' (some g)
theorem getD_mem {α : Type} (xs : List α) (k : Nat) (d : α) (h : k < xs.length) : xs.getD k d ∈ xs := by
  rw [List.getD_eq_getElem?_getD, List.getElem?_eq_getElem h]; exact List.getElem_mem _
set_option maxRecDepth 100000 in
set_option maxHeartbeats 400000 in
theorem l1Pick_any (A : Option Addr) (l : List Nat) (c g : Nat) (xs : List ByteArray) (p m c' : Nat) (w : World) (hl : l.length ≤ 2097152) (hb : AllB l) (hc : Cur w g A l c)
    (hm : m = xs.length) (h0 : 0 < xs.length) (h1 : xs.length ≤ 256) (hp : p ≠ g) (hx : ∀ k, k < xs.length → w.cell? ⟨p, k, none⟩ = some (.string (xs.getD k ByteArray.empty))) :
    Calls Try.prog 61 #[.pointer (some ⟨g, 0, none⟩), .slice (some ⟨p, 0, none⟩) m c'] w (GotPick w g A l c xs) := by
  subst hm
  have HX := Lib.hid hx
  clear hx
  go_enter Try.func61, Try.ntmps61
  go_wp2_with fail
  refine (l1Below_any A l c g xs.length _ hl hb h0 (by omega) hc).mono ?_
  rintro e w1 ⟨x, hx, rfl, hc1, gr1⟩
  have hcell : w1.cell? ⟨p, x, none⟩ = some (.string (xs.getD x ByteArray.empty)) := gr1.cell (HX.out x hx) (by simpa using hp)
  have hs := getD_mem xs x ByteArray.empty hx
  generalize xs.getD x ByteArray.empty = s at *
  go_wp2
  go_ret
  exact ⟨s, hs, rfl, hc1, gr1⟩
theorem strings_new (w : World) (xs : List ByteArray) : ∀ k, k < xs.length → (w.alloc (.cells (xs.map Value.string).toArray 9)).cell? ⟨w.heap.size, k, none⟩ = some (.string (xs.getD k ByteArray.empty)) := by
  intro k hk
  rw [World.cell?_alloc_at _ _ _ _ rfl]
  simp [hk]
/-- The four strings of DrawPutText. -/
def fourTexts : List ByteArray := [⟨#[]⟩, ⟨#[97]⟩, ⟨#[116, 119, 111, 32, 119, 111, 114, 100, 115]⟩, ⟨#[0, 255]⟩]
def GotText (w : World) (xs : List ByteArray) (e : Ending) (w' : World) : Prop := ∃ s ∈ xs, e = .returned (.string s) ∧ Below w.heap.size w w'
end Go.Proofs.Ytcapioiigfldoaa
