/- Texts laid together: Hs1, Late, Fall, Fall2, Fall3. -/
import Derived.Test.YtlflgflmlfileaaGreatRows
import Derived.Test.YtlflgflmlfileaaGreatG3
import Derived.Test.YtlflgflmlfileaaGreatG4
namespace Go.Proofs.YtlflgflmlfileaaGreat
open Go.RowKit
set_option linter.unusedSimpArgs false
set_option linter.unusedVariables false
/-- What a slice type's rows are made of. -/
structure RowT (t e sz bytes : Nat) (z : Value) : Prop where
  ut : Tryz.prog.underlying t = some (.slice e)
  inf : (Tryz.prog.info? e).map (fun i => (i.zero, i.size, i.bytes)) = some (some z, sz, bytes)
  zc : z.cells.size = sz
  pos : 0 < sz
  by_ : bytes ≤ 1024
set_option maxRecDepth 100000 in
/-- append(v, q...) as a step. -/
theorem exec_appR {t e sz bytes : Nat} {z : Value} (T : RowT t e sz bytes z) {o : Oper} {a : Act} {s x : Operand} (w : World)
    (base : Nat) (v : Value) (n : Nat) (xs : List Value) (hown : w.ownsRow base e sz v n xs)
    (B : Nat) (A : Option Addr) (m c : Nat) (news : List Value) (hl : news.length = m * sz) (hR : Rws w B A news) (hnil : A = none → c = 0) (h1 : ∀ u ∈ news, u.oneCell' = true)
    (hlen : n + m ≤ 1073741824) (hbase : base ≤ w.heap.size)
    (ho : o.op = .call { callee := .builtin .append, args := #[s, x], argTypes := #[t, t] } := by rfl) (hs : a.eval s = v := by rfl) (hx : a.eval x = .slice A m c := by rfl) :
    ∃ v' w', (execOp a.eval o).run Tryz.prog w = .ok (.value v') w' ∧ w'.ownsRow base e sz v' (n + m) (xs ++ news) ∧ w.grownBy w' v.ownBlock := by
  obtain ⟨i0, hi, hz0, hz1, hz2⟩ := info_parts T.inf
  rcases A with _ | ad
  · have h0 : news = [] := by
      rcases hR with h | ⟨_, _, h, _⟩
      · exact h
      · cases h
    subst h0
    have hm : m = 0 := by
      rcases Nat.eq_zero_or_pos m with h | h
      · exact h
      · have := Nat.mul_pos h T.pos; simp at hl; omega
    subst hm
    rw [hnil rfl] at hx
    have hrun := run_append_owned_none (P := Tryz.prog) (w := w) base t o.type e i0 sz T.ut hi v n xs hown
    refine ⟨v, w, ?_, by simpa using hown, World.grownBy.refl _ _⟩
    simp [execOp, ho, resolve, invoke, builtin, hs, hx, hrun, Result.andThen]
  · have hb : (n + m) * bytes ≤ 140737488355328 := by
      have h2 := T.by_
      have : (n + m) * bytes ≤ 1073741824 * 1024 := Nat.mul_le_mul hlen h2
      omega
    obtain ⟨v', w', hr, h2, h3, _, _⟩ := run_append_own_at (P := Tryz.prog) w base t o.type e i0 z sz bytes T.ut hi hz0 hz1 hz2 T.zc T.pos v n xs hown ad m c news hl
      (fun j u hj => by
        rcases hR with rfl | ⟨b, off, e1, _, hc⟩
        · simp at hj
        · injection e1 with e1
          subst e1
          have hjl : j < news.length := by
            rcases Nat.lt_or_ge j news.length with h | h
            · exact h
            · rw [List.getElem?_eq_none h] at hj; cases hj
          rw [add_at, hc j hjl]; exact hj) h1 (by unfold maxLen; omega) hb hbase
    refine ⟨v', w', ?_, h2, h3⟩
    simp [execOp, ho, resolve, invoke, builtin, hs, hx, hr, Result.andThen]
set_option maxRecDepth 100000 in
/-- append(v, q...) in a walk. -/
theorem wpList_appR {t e sz bytes : Nat} {z : Value} (T : RowT t e sz bytes z) (w : World) {ops : Array Oper} {rest : List Oper} {o : Oper} {a : Act} {Q : Exit → Act → World → Prop} (hgd : o.guard = none) (s x : Operand)
    (ho : o.op = .call { callee := .builtin .append, args := #[s, x], argTypes := #[t, t] })
    (base : Nat) (v : Value) (n : Nat) (xs : List Value) (hs : a.eval s = v) (hown : w.ownsRow base e sz v n xs)
    (B : Nat) (A : Option Addr) (m c : Nat) (news : List Value) (hx : a.eval x = .slice A m c) (hl : news.length = m * sz) (hR : Rws w B A news) (hnil : A = none → c = 0) (h1 : ∀ u ∈ news, u.oneCell' = true)
    (hlen : n + m ≤ 1073741824) (hbase : base ≤ w.heap.size)
    (h : ∀ v' w', w'.ownsRow base e sz v' (n + m) (xs ++ news) → w.grownBy w' v.ownBlock → wpList Tryz.prog ops Q rest (a.put o.dst v') w') :
    wpList Tryz.prog ops Q (o :: rest) a w := by
  obtain ⟨v', w', hr, h2, h3⟩ := exec_appR T w base v n xs hown B A m c news hl hR hnil h1 hlen hbase ho hs hx
  refine wpList_plain hgd fun K hK => ?_
  unfold Oper.wp
  rw [hr, Oper.upon_value]
  exact hK _ _ (h v' w' h2 h3)
/-- A block just laid, as a row. -/
theorem Rws.new (w : World) (cs : List Value) (e : Nat) : Rws (w.alloc (.cells cs.toArray e)) (w.heap.size + 1) (some ⟨w.heap.size, 0, none⟩) cs :=
  .inr ⟨_, _, rfl, by omega, fun k hk => by rw [Nat.zero_add, World.cell?_alloc_at _ _ _ _ rfl]; simp⟩
theorem Rws.alloc {w : World} {B : Nat} {A : Option Addr} {cs : List Value} (h : Rws w B A cs) (hB : B ≤ w.heap.size) (o : Obj) : Rws (w.alloc o) B A cs := h.below ((Below.refl _ _).alloc hB o)
theorem ints_one (l : List Int) : ∀ u ∈ l.map (Value.int .i64), u.oneCell' = true := by
  intro u hu
  simp only [List.mem_map] at hu
  obtain ⟨b, _, rfl⟩ := hu
  rfl
set_option maxRecDepth 100000 in
theorem rowInt : RowT 32 3 1 8 (.int .i64 0) := ⟨Tryz.underlying32, by kernel_rfl, rfl, by omega, by omega⟩
set_option maxRecDepth 100000 in
theorem rowSpk : RowT 55 90 1 24 (.slice none 0 0) := ⟨Tryz.underlying55, by kernel_rfl, rfl, by omega, by omega⟩
set_option maxRecDepth 100000 in
theorem rowPin : RowT 90 95 2 16 (.agg #[.int .i64 0, .int .i64 0]) := ⟨Tryz.underlying90, by kernel_rfl, rfl, by omega, by omega⟩
set_option maxRecDepth 100000 in
theorem rowEnt : RowT 54 100 4 32 (.agg #[.int .i64 0, .int .i64 0, .int .i64 0, .int .i64 0]) := ⟨Tryz.underlying54, by kernel_rfl, rfl, by omega, by omega⟩
set_option maxRecDepth 100000 in
theorem rowPty : RowT 24 26 10 80 (.agg #[.int .i64 0, .int .i64 0, .int .i64 0, .int .i64 0, .int .i64 0, .int .i64 0, .int .i64 0, .int .i64 0, .int .i64 0, .int .i64 0]) := ⟨Tryz.underlying24, by kernel_rfl, rfl, by omega, by omega⟩
set_option maxRecDepth 100000 in
theorem rowCab : RowT 35 59 7 88 (.agg #[.int .i64 0, .int .i64 0, .int .i64 0, .int .i64 0, .int .i64 0, .slice none 0 0, .slice none 0 0]) := ⟨Tryz.underlying35, by kernel_rfl, rfl, by omega, by omega⟩
/-- Rules, as Go holds them. -/
structure Ru where
  seats : List Int
  tiers : Int
  room : Int
  size : Int
  period : Int
  window : Int
  rest : Int
  tries : Int
  crew : Int
/-- The rules r as a value, their seats at A. -/
def ruV (A : Option Addr) (c : Nat) (r : Ru) : Value := .agg #[.slice A r.seats.length c, .int .i64 r.tiers, .int .i64 r.room, .int .i64 r.size, .int .i64 r.period, .int .i64 r.window, .int .i64 r.rest, .int .i64 r.tries, .int .i64 r.crew]
def ints (l : List Int) : List Value := l.map (Value.int .i64)
theorem ints_len (l : List Int) : (ints l).length = l.length := by simp [ints]
theorem ints_get (l : List Int) (k : Nat) (h : k < l.length) : (ints l)[k]? = some (.int .i64 (l.getD k 0)) := by simp [ints, h]
theorem ints_append (a b : List Int) : ints (a ++ b) = ints a ++ ints b := by simp [ints]
theorem Rws.int {w : World} {B : Nat} {A : Option Addr} {l : List Int} (h : Rws w B A (ints l)) {i : Nat} (hi : i < l.length) : ∃ b off, A = some ⟨b, off, none⟩ ∧ b < B ∧ w.cell? ⟨b, off + i, none⟩ = some (.int .i64 (l.getD i 0)) := by
  rcases h with h | ⟨b, off, e, hb, hc⟩
  · have := congrArg List.length h; rw [ints_len] at this; simp at this; subst this; simp at hi
  · exact ⟨b, off, e, hb, by rw [hc i (by rw [ints_len]; exact hi), ints_get l i hi]⟩
/-- The rules that the draws make. -/
structure RuOk (r : Ru) : Prop where
  n1 : 1 ≤ r.seats.length
  n2 : r.seats.length ≤ 4
  seat : ∀ i, i < r.seats.length → 1 ≤ r.seats.getD i 0 ∧ r.seats.getD i 0 ≤ 60
  tiers : 1 ≤ r.tiers ∧ r.tiers ≤ 5
  room : 1 ≤ r.room ∧ r.room ≤ 10
  size : 1 ≤ r.size ∧ r.size ≤ 6
  period : 1 ≤ r.period ∧ r.period ≤ 12
  window : 1 ≤ r.window ∧ r.window ≤ 8
  rest : 0 ≤ r.rest ∧ r.rest ≤ 8
  tries : 1 ≤ r.tries ∧ r.tries ≤ 4
  crew : 1 ≤ r.crew ∧ r.crew ≤ 3
set_option maxRecDepth 100000 in
theorem l1Max_any (a b : Int) (w : World) : Calls Tryz.prog 58 #[.int .i64 a, .int .i64 b] w fun e w' => e = .returned (.int .i64 (if b < a then a else b)) ∧ w = w' := by
  by_cases h : b < a
  · rw [if_pos h]
    go_enter Tryz.func58, Tryz.ntmps58
    go_wp2
    go_ret
    exact ⟨rfl, rfl⟩
  · rw [if_neg h]
    have h2 : decide (b < a) = false := by simpa using h
    go_enter Tryz.func58, Tryz.ntmps58
    go_wp2
    go_ret
    exact ⟨rfl, rfl⟩
set_option maxRecDepth 100000 in
set_option maxHeartbeats 800000 in
theorem rulesOk_yes (A : Option Addr) (c : Nat) (r : Ru) (w : World) (hr : RuOk r) (hA : Rws w w.heap.size A (ints r.seats)) :
    Calls Tryz.prog 41 #[ruV A c r] w fun e w' => e = .returned (.bool true) ∧ Below w.heap.size w w' := by
  obtain ⟨n1, n2, seat, t, ro, s, p, wi, re, tr, cr⟩ := hr
  unfold ruV
  generalize hT : r.tiers = T at *
  generalize r.room = RO at *
  generalize r.size = SI at *
  generalize r.period = PE at *
  generalize r.window = WI at *
  generalize r.rest = RE at *
  generalize r.tries = TR at *
  generalize r.crew = CR at *
  generalize r.seats = l at *
  clear hT
  go_enter Tryz.func41, Tryz.ntmps41
  go_wp2_with (go_at_call 24; refine (l1In_yes _ _ _ _ (by omega)).mono ?_; rintro e w' ⟨rfl, rfl⟩)
  go_loopw [3] (fun vi wr => ∃ i : Nat, i ≤ l.length ∧ vi = .int .i64 i ∧ wr = w.alloc (.cells #[.slice A l.length c, .int .i64 T, .int .i64 RO, .int .i64 SI, .int .i64 PE, .int .i64 WI, .int .i64 RE, .int .i64 TR, .int .i64 CR] 34)) (fun vi _ => l.length - (intOf vi).toNat)
  case atStart => exact ⟨0, by omega, rfl, rfl⟩
  case round =>
    obtain ⟨i, hi, rfl, rfl⟩ := hrel
    by_cases hlt : i < l.length
    · obtain ⟨b, off, rfl, hbB, c0⟩ := hA.int hlt
      have hs := seat i hlt
      generalize l.getD i 0 = x at *
      have hne : ¬ b = w.heap.size := by omega
      go_wp2_with (go_at_call 24; refine (l1In_yes _ _ _ _ (by omega)).mono ?_; rintro e w' ⟨rfl, rfl⟩)
      go_roundw
      case rel => exact ⟨i + 1, by omega, by go_num, by first | rfl | trivial⟩
      case measure => simp [intOf]; omega
    · go_wp2_with (go_at_call 24; refine (l1In_yes _ _ _ _ (by omega)).mono ?_; rintro e w' ⟨rfl, rfl⟩)
      go_ret
      exact ⟨rfl, (Below.refl _ _).alloc (Nat.le_refl _) _⟩
/-- Whatever order is drawn from here on, S holding behind every operation other than number k. -/
def wpAnyE (P : Program) (md : Region.Mode) (ops : Array Oper) (Q : Exit → Act → World → Prop) (k : Nat) (S : World → Prop) : Nat → Array Bool → Act → World → Prop
  | 0, L, a, w => Region.ready md ops L = [] ∧ Q .normal a w
  | n + 1, L, a, w => (Region.ready md ops L = [] → Q .normal a w) ∧ ∀ i ∈ Region.ready md ops L, wpOp P ops Q i (fun a' w' => (i ≠ k → S w') ∧ wpAnyE P md ops Q k S n (L.setIfInBounds i true) a' w') a w
theorem wpAny_of_E {P : Program} {md : Region.Mode} {ops : Array Oper} {Q : Exit → Act → World → Prop} {k : Nat} {S : World → Prop} (n : Nat) : ∀ (L : Array Bool) (a : Act) (w : World), wpAnyE P md ops Q k S n L a w → wpAny P md ops Q n L a w := by
  induction n with
  | zero => exact fun _ _ _ h => h
  | succ n ih => exact fun L a w h => ⟨h.1, fun i hi => wpOp_mono (fun a' w' h' => ih _ a' w' h'.2) (h.2 i hi)⟩
theorem wp_region_E {P : Program} {ops : Array Oper} {Q : Exit → Act → World → Prop} {id : Nat} {a : Act} {w : World} (k : Nat) (S : World → Prop) (hm : P.follows .mixedOrders = true)
    (h : wpAnyE P .any ops Q k S ops.size (Array.replicate ops.size false) a w.drew) : (Code.region id ops true).wp P Q a w := wp_region_any hm (wpAny_of_E _ _ _ _ h)
/-- An operation that yields v in every world of S is taken first, where number k waits for it. -/
theorem e_first {P : Program} {md : Region.Mode} {ops : Array Oper} {Q : Exit → Act → World → Prop} {k : Nat} {S : World → Prop} {i : Nat} {oi : Oper} {v : Value} (hi : ops[i]? = some oi)
    (hsel : ∀ (j : Nat) (o : Oper) cs b, ops[j]? = some o → o.op ≠ .select cs b) (hQ : ∀ c a w, Q (.panic c) (a.put oi.dst v) w → Q (.panic c) a w)
    (hwait : ∃ ok, ops[k]? = some ok ∧ ∃ e ∈ ok.after, Region.binds md e = true ∧ e.on = i) (n : Nat) :
    ∀ (L : Array Bool) (a : Act) (w : World),
      (∀ j oj, ops[j]? = some oj → j ≠ i → L.getD j true = false → (∀ e ∈ oj.after, Region.binds md e = true → e.on ≠ i) → oi.apart ops oj = true) →
      i ∈ Region.ready md ops L → YieldsIf P ops S oi v a → S w →
      wpAnyE P md ops Q k S n (L.setIfInBounds i true) (a.put oi.dst v) w → wpAnyE P md ops Q k S (n + 1) L a w := by
  induction n with
  | zero =>
    intro L a w _ hr hy hS hn
    refine ⟨fun h => absurd hr (by rw [h]; simp), fun j hj => ?_⟩
    by_cases hji : j = i
    · rw [hji]
      exact hy.wpOp hi hS ⟨fun _ => hS, hn⟩
    · have hmem := ready_mono hj hji
      rw [hn.1] at hmem
      simp at hmem
  | succ n ih =>
    intro L a w hfree hr hy hS hn
    refine ⟨fun h => absurd hr (by rw [h]; simp), fun j hj => ?_⟩
    by_cases hji : j = i
    · rw [hji]
      exact hy.wpOp hi hS ⟨fun _ => hS, hn⟩
    · obtain ⟨hun, oj, hoj, hall⟩ := mem_ready.1 hj
      have hiun := (mem_ready.1 hr).1
      have waits : ∀ e ∈ oj.after, Region.binds md e = true → e.on ≠ i := by
        intro e he hbd heq
        have hl := hall e he hbd
        rw [heq] at hl
        by_cases hlt : i < L.size
        · simp [hlt] at hl hiun
          rw [hl] at hiun
          cases hiun
        · simp [Array.getElem?_eq_none (Nat.le_of_not_lt hlt)] at hl
      have hjk : j ≠ k := by
        intro e
        obtain ⟨ok, hok, ed, hed, hbd, hon⟩ := hwait
        rw [e, hok] at hoj
        injection hoj with hoj
        rw [← hoj] at waits
        exact waits ed hed hbd hon
      have step := wpOp_putIf hoj (hfree j oj hoj hji hun waits) (fun cs b => hsel i oi cs b hi) (fun cs b => hsel j oj cs b hoj) hQ hy (hn.2 j (ready_mono hj hji))
      refine wpOp_mono (fun a' w' h3 => ?_) step
      obtain ⟨hy', hS', hrest⟩ := h3
      refine ⟨hS', ih (L.setIfInBounds j true) a' w' (fun m om hm hmi hmu hmw => ?_) (ready_mono hr (Ne.symm hji)) hy' (hS' hjk) ?_⟩
      · refine hfree m om hm hmi ?_ hmw
        by_cases hjm : j = m
        · rw [← hjm]; exact hun
        · rw [getD_set_ne true hjm] at hmu; exact hmu
      · rw [Array.setIfInBounds_comm _ _ hji]
        exact hrest
/-- Does number k wait for number i? -/
def waitsB (md : Region.Mode) (ops : Array Oper) (k i : Nat) : Bool := match ops[k]? with
  | some ok => ok.after.any fun e => Region.binds md e && e.on == i
  | none => false
theorem waitsB_spec {md : Region.Mode} {ops : Array Oper} {k i : Nat} (h : waitsB md ops k i = true) : ∃ ok, ops[k]? = some ok ∧ ∃ e ∈ ok.after, Region.binds md e = true ∧ e.on = i := by
  unfold waitsB at h
  split at h
  · rename_i ok hok
    rw [Array.any_eq_true'] at h
    obtain ⟨e, he, h2⟩ := h
    simp at h2
    exact ⟨ok, hok, e, he, h2.1, h2.2⟩
  · cases h
theorem e_take {P : Program} {md : Region.Mode} {ops : Array Oper} {Q : Exit → Act → World → Prop} {k : Nat} {S : World → Prop} {n : Nat} {L : Array Bool} {a : Act} {w : World} (i d : Nat) (v : Value) {oi : Oper}
    (hi : ops[i]? = some oi) (hd : oi.dst = some d) (hs : Region.noSelect ops = true) (hf : Region.free md ops L i = true) (hr : (Region.ready md ops L).contains i = true)
    (hwait : waitsB md ops k i = true)
    (hQ : ∀ c a w, Q (.panic c) (a.put (some d) v) w → Q (.panic c) a w) (hw : Region.wanted oi (yielded ops a.tmps) = true) (hS : S w) (hy : ∀ w, S w → (execOp a.eval oi).run P w = .ok (.value v) w)
    (h : wpAnyE P md ops Q k S n (L.setIfInBounds i true) (a.put (some d) v) w) : wpAnyE P md ops Q k S (n + 1) L a w :=
  e_first hi (Region.noSelect_spec hs) (by rw [hd]; exact hQ) (waitsB_spec hwait) n L a w (Region.free_spec hi hf) (by simpa using hr) (.inl ⟨hw, hy⟩) hS (by rw [hd]; exact h)
theorem e_ready {P : Program} {md : Region.Mode} {ops : Array Oper} {Q : Exit → Act → World → Prop} {k : Nat} {S : World → Prop} {n : Nat} {L : Array Bool} {a : Act} {w : World} (i : Nat) (hr : Region.ready md ops L = [i])
    (h : wpOp P ops Q i (fun a' w' => (i ≠ k → S w') ∧ wpAnyE P md ops Q k S n (L.setIfInBounds i true) a' w') a w) : wpAnyE P md ops Q k S (n + 1) L a w :=
  ⟨(fun h0 => by rw [hr] at h0; cases h0), (fun j hj => by rw [hr] at hj; simp at hj; rw [hj]; exact h)⟩
theorem e_op {P : Program} {md : Region.Mode} {ops : Array Oper} {Q : Exit → Act → World → Prop} {k : Nat} {S : World → Prop} {n : Nat} {L : Array Bool} {a : Act} {w w' : World} (i d : Nat) (v : Value) {oi : Oper}
    (hi : ops[i]? = some oi) (hd : oi.dst = some d) (hr : Region.ready md ops L = [i]) (hw : Region.wanted oi (yielded ops a.tmps) = true)
    (he : (execOp a.eval oi).run P w = .ok (.value v) w') (hS : i ≠ k → S w')
    (h : wpAnyE P md ops Q k S n (L.setIfInBounds i true) (a.put (some d) v) w') : wpAnyE P md ops Q k S (n + 1) L a w := by
  refine e_ready i hr (wpOp_step hi (fun K hK => ?_))
  rw [if_pos hw]
  unfold Oper.wp
  rw [he, Oper.upon_value, hd]
  exact hK _ _ ⟨hS, h⟩
theorem e_opx {P : Program} {md : Region.Mode} {ops : Array Oper} {Q : Exit → Act → World → Prop} {k : Nat} {S : World → Prop} {n : Nat} {L : Array Bool} {a : Act} {w : World} {R : Value → World → Prop} (i d : Nat) {oi : Oper}
    (hi : ops[i]? = some oi) (hd : oi.dst = some d) (hr : Region.ready md ops L = [i]) (hw : Region.wanted oi (yielded ops a.tmps) = true)
    (hex : ∃ v w', (execOp a.eval oi).run P w = .ok (.value v) w' ∧ R v w') (hS : ∀ v w', R v w' → i ≠ k → S w')
    (h : ∀ v w', R v w' → wpAnyE P md ops Q k S n (L.setIfInBounds i true) (a.put (some d) v) w') : wpAnyE P md ops Q k S (n + 1) L a w := by
  obtain ⟨v, w', he, hR⟩ := hex
  exact e_op i d v hi hd hr hw he (hS v w' hR) (h v w' hR)
theorem e_call {P : Program} {md : Region.Mode} {ops : Array Oper} {Q : Exit → Act → World → Prop} {k : Nat} {S : World → Prop} {n : Nat} {L : Array Bool} {a : Act} {w : World} (i d : Nat) (f : FuncId) (args : Array Value) {oi : Oper}
    (hi : ops[i]? = some oi) (hd : oi.dst = some d) (hr : Region.ready md ops L = [i]) (hw : Region.wanted oi (yielded ops a.tmps) = true)
    (he : (execOp a.eval oi).run P w = .ok (.enter f args) w)
    (h : Calls P f args w fun e w' => ∃ v, e = .returned v ∧ (i ≠ k → S w') ∧ wpAnyE P md ops Q k S n (L.setIfInBounds i true) (a.put (some d) v) w') : wpAnyE P md ops Q k S (n + 1) L a w := by
  refine e_ready i hr (wpOp_step hi (fun K hK => ?_))
  rw [if_pos hw]
  unfold Oper.wp
  rw [he, Oper.upon_enter]
  refine h.mono ?_
  rintro e w' ⟨v, rfl, hS, hh⟩
  rw [hd]
  exact hK _ _ ⟨hS, hh⟩
theorem e_store {P : Program} {md : Region.Mode} {ops : Array Oper} {Q : Exit → Act → World → Prop} {k : Nat} {S : World → Prop} {n : Nat} {L : Array Bool} {a : Act} {w w' : World} (i : Nat) {oi : Oper}
    (hi : ops[i]? = some oi) (hd : oi.dst = none) (hr : Region.ready md ops L = [i]) (hw : Region.wanted oi (yielded ops a.tmps) = true)
    (he : (execOp a.eval oi).run P w = .ok .skip w') (hS : i ≠ k → S w')
    (h : wpAnyE P md ops Q k S n (L.setIfInBounds i true) a w') : wpAnyE P md ops Q k S (n + 1) L a w := by
  refine e_ready i hr (wpOp_step hi (fun K hK => ?_))
  rw [if_pos hw]
  unfold Oper.wp
  rw [he, Oper.upon_skip, hd]
  exact hK _ _ ⟨hS, h⟩
theorem e_done {P : Program} {md : Region.Mode} {ops : Array Oper} {Q : Exit → Act → World → Prop} {k : Nat} {S : World → Prop} {L : Array Bool} {a : Act} {w : World} (hr : Region.ready md ops L = []) (h : Q .normal a w) (n : Nat) : wpAnyE P md ops Q k S n L a w := by
  cases n with
  | zero => exact ⟨hr, h⟩
  | succ n => exact ⟨(fun _ => h), (fun i hi => by rw [hr] at hi; cases hi)⟩
/-- How many bytes a crash leaves. -/
def leftN (a : Ar) (k : Int) : Int := a.safe + max 0 (min k (a.data.size - a.safe))
/-- What Left returns. -/
def leftA (a : Ar) (k : Int) : Ar := if a.fine then ⟨a.data.extract 0 (leftN a k).toNat, leftN a k⟩ else a
theorem leftN_in {a : Ar} (h : a.fine) (k : Int) : 0 ≤ leftN a k ∧ leftN a k ≤ a.data.size := by
  obtain ⟨h1, h2, h3⟩ := h
  unfold leftN
  omega
theorem leftA_go {a : Ar} (h : a.go) (k : Int) : (leftA a k).go := by
  unfold leftA
  split
  · rename_i hf
    have := leftN_in hf k
    have := hf.1
    refine ⟨?_, ?_, ?_⟩
    · show (a.data.extract 0 _).size ≤ _
      rw [ByteArray.size_extract]; omega
    · show _ ≤ leftN a k; omega
    · show leftN a k ≤ _; omega
  · exact h
theorem leftA_size (a : Ar) (k : Int) : (leftA a k).data.size ≤ a.data.size := by
  unfold leftA
  split
  · show (a.data.extract 0 _).size ≤ _
    rw [ByteArray.size_extract]; omega
  · exact Nat.le_refl _
theorem max_if (x y : Int) : (if y < x then x else y) = max x y := by
  split <;> omega
/-- What Fallen returns. -/
def fallS (s : St) (l : List Int) : St := ⟨leftA s.log (l.getD 0 0), leftA s.even (l.getD 1 0), leftA s.odd (l.getD 2 0)⟩
/-- Two blocks made just before. -/
theorem two_at (w w2 : World) (A B : Obj) (b : Below ((w.alloc A).alloc B).heap.size ((w.alloc A).alloc B) w2) : w2.heap[w.heap.size]? = some A ∧ w2.heap[w.heap.size + 1]? = some B ∧ Below w.heap.size w w2 := by
  have e0 : (w.alloc A).heap.size = w.heap.size + 1 := by simp
  refine ⟨(b.block _ (by simp; omega)).trans ?_, (b.block _ (by simp)).trans ?_, boxB _ _ _ (boxB _ _ _ b)⟩
  · rw [Go.heap_alloc_old _ _ (by omega), heap_new]
  · rw [← e0, heap_new]
theorem boxS_call {w u u' : World} {r : Nat} {o : Obj} (h : u.heap[r]? = some o ∧ Below w.heap.size w u) (x : Below u.heap.size u u') : u'.heap[r]? = some o ∧ Below w.heap.size w u' := ⟨blk_call h.1 x, h.2.trans (x.mono h.2.size)⟩
theorem put6_other {w : World} {g r : Nat} {s : St} (h : r ≠ g) : (put6 w g s).heap[r]? = w.heap[r]? := by
  unfold put6
  repeat rw [Below.heap_setCell _ _ _ _ (by simpa using h)]
theorem ar_ext {a b : Ar} (h1 : a.data = b.data) (h2 : a.safe = b.safe) : a = b := by cases a; cases b; simp_all
instance (a b : Ar) : Decidable (a = b) := decidable_of_iff (a.data = b.data ∧ a.safe = b.safe) ⟨fun h => ar_ext h.1 h.2, fun h => h ▸ ⟨rfl, rfl⟩⟩
/-- What l4Could tells. -/
def couldA (a b : Ar) : Prop := b = leftA a (IntKind.i64.wrap (b.data.size - a.safe))
instance (a b : Ar) : Decidable (couldA a b) := by unfold couldA; infer_instance
set_option maxRecDepth 100000 in
theorem exec_subW {ρ : Operand → Value} {o : Oper} {x y : Operand} (X Y : Int) (w : World) (ho : o.op = .binOp .sub 3 x y 3 := by rfl) (hx : ρ x = .int .i64 X := by rfl) (hy : ρ y = .int .i64 Y := by rfl) :
    (execOp ρ o).run Tryz.prog w = .ok (.value (.int .i64 (IntKind.i64.wrap (X - Y)))) w := by
  unfold execOp
  rw [ho]
  simp [go_sem, hx, hy]
def couldS (s t : St) : Prop := couldA s.log t.log ∧ couldA s.even t.even ∧ couldA s.odd t.odd
instance (s t : St) : Decidable (couldS s t) := by unfold couldS; infer_instance
def calmA (a : Ar) : Prop := a.safe = a.data.size
instance (a : Ar) : Decidable (calmA a) := by unfold calmA; infer_instance
def calmS (s : St) : Prop := calmA s.log ∧ calmA s.even ∧ calmA s.odd
instance (s : St) : Decidable (calmS s) := by unfold calmS; infer_instance
def lenS (s : St) : Nat := s.log.data.size + s.even.data.size + s.odd.data.size
def lostS (s t : St) : Int := if couldS s t then (lenS s : Int) - lenS t else 0
/-- toIntS halfway. -/
def halfI (l : List Int) (k : Nat) : List Value := ints (l.take k) ++ ints (List.replicate (l.length - k) 0)
theorem halfI_zero (l : List Int) : (madeCells #[Value.int .i64 0] l.length).toList = halfI l 0 := by
  rw [toList_madeCells_one]; simp [halfI, ints]
theorem halfI_all (l : List Int) : halfI l l.length = ints l := by simp [halfI, ints]
theorem halfI_len (l : List Int) (k : Nat) (hk : k ≤ l.length) : (halfI l k).length = l.length := by simp [halfI, ints]; omega
theorem halfI_set (l : List Int) (k : Nat) (hk : k < l.length) : (halfI l k).set k (.int .i64 (l.getD k 0)) = halfI l (k + 1) := by
  unfold halfI
  rw [take_snoc l k 0 hk, ints_append, List.set_append]
  have h1 : (ints (l.take k)).length = k := by simp [ints]; omega
  rw [if_neg (by omega), h1, Nat.sub_self]
  have h2 : l.length - k = (l.length - (k + 1)) + 1 := by omega
  rw [h2, List.replicate_succ]
  simp [ints]
set_option maxRecDepth 100000 in
theorem info3 : (Tryz.prog.info? 3).map (fun i => (i.zero, i.size, i.bytes)) = some (some (.int .i64 0), 1, 8) := by kernel_rfl
set_option maxRecDepth 100000 in
theorem exec_geqT {ρ : Operand → Value} {o : Oper} {x y : Operand} (X Y : Int) (w : World) (h : Y ≤ X) (ho : o.op = .binOp .geq 3 x y 3 := by rfl) (hx : ρ x = .int .i64 X := by rfl) (hy : ρ y = .int .i64 Y := by rfl) :
    (execOp ρ o).run Tryz.prog w = .ok (.value (.bool true)) w := by
  unfold execOp
  rw [ho]
  simp [go_sem, hx, hy, h]
set_option maxRecDepth 100000 in
theorem exec_leqT {ρ : Operand → Value} {o : Oper} {x y : Operand} (X Y : Int) (w : World) (h : X ≤ Y) (ho : o.op = .binOp .leq 3 x y 3 := by rfl) (hx : ρ x = .int .i64 X := by rfl) (hy : ρ y = .int .i64 Y := by rfl) :
    (execOp ρ o).run Tryz.prog w = .ok (.value (.bool true)) w := by
  unfold execOp
  rw [ho]
  simp [go_sem, hx, hy, h]
def inI (z : Int) : Prop := -9223372036854775808 ≤ z ∧ z ≤ 9223372036854775807
/-- The draw hands out a few numbers. -/
def GotInts (w : World) (g : Nat) (A : Option Addr) (l : List Nat) (c : Nat) (e : Ending) (w' : World) : Prop :=
  ∃ (p : List Int) (v : Value), p.length ≤ 4 ∧ (∀ z ∈ p, inI z) ∧ e = .returned v ∧ w'.ownsRow w.heap.size 3 1 v p.length (ints p) ∧ Cur w' g A l c ∧ w.grownBy w' (some g)
def keepNums : List Int := [0, 1, 2, 5, 30, -1, 9223372036854775807, -9223372036854775808]
theorem keepNums_in : ∀ z ∈ keepNums, inI z := by
  intro z hz
  simp [keepNums] at hz
  unfold inI
  omega
/-- What DrawLeft hands out. -/
def GotLeft (w : World) (e : Ending) (w' : World) : Prop :=
  ∃ (a : Ar) (k : Int), (a.go ∧ a.data.size ≤ 20000) ∧ inI k ∧ e = .returned (.tuple #[arA a, .int .i64 k]) ∧ Below w.heap.size w w'
/-- What DrawFallen hands out. -/
def GotFall (w : World) (e : Ending) (w' : World) : Prop :=
  ∃ (s : St) (p : List Int) (B : Option Addr) (cb : Nat), (s.go ∧ lenS s ≤ 60000) ∧ p.length ≤ 4 ∧ (∀ z ∈ p, inI z) ∧ e = .returned (.tuple #[stA s, .slice B p.length cb]) ∧ Rws w' w'.heap.size B (ints p) ∧ Below w.heap.size w w'
end Go.Proofs.YtlflgflmlfileaaGreat
