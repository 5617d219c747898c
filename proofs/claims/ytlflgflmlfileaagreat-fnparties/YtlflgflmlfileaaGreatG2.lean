/- Texts laid together: FrOf, FrM, FrAt, FrAs, FrLaw, Rw, FrMark, Frs. -/
import Derived.Test.YtlflgflmlfileaaGreatRows
import Derived.Test.YtlflgflmlfileaaGreatG1
import Derived.WalkMore
import Derived.ScopeJumps
namespace Go.Proofs.YtlflgflmlfileaaGreat
open Go.RowKit
set_option linter.unusedSimpArgs false
set_option linter.unusedVariables false
theorem exec_convert {P : Program} {ρ : Operand → Value} {o : Oper} {src dst : TypeId} {x : Operand} {v : Value} {w : World} (ho : o.op = .convert src dst x) (h : (convert src dst (ρ x)).run P w = .ok v w) :
    (execOp ρ o).run P w = .ok (.value v) w := by
  unfold execOp
  rw [ho]
  simp [go_sem, h]
/-- A call of a Go function is entered. -/
theorem exec_call {P : Program} {a : Act} {o : Oper} {f : FuncId} {xs : Array Operand} {ats : Array TypeId} {args : Array Value} {fn : Func} (hf : P.funcs[f]? = some fn) (hn : (fn.name == "runtime.NumGoroutine") = false) (hb : fn.body.isNone = false) (w : World)
    (ho : o.op = .call { callee := .value (.func f), args := xs, argTypes := ats } := by rfl) (ha : xs.map a.eval = args := by (simp only [List.map_toArray, List.map_cons, List.map_nil]; rfl)) : (execOp a.eval o).run P w = .ok (.enter f args) w := by
  subst ha
  have h1 : fn.name ≠ "runtime.NumGoroutine" := by simpa using hn
  have ef : a.eval (.func f) = .func (.func f) #[] #[] := rfl
  unfold execOp
  obtain ⟨c, hc⟩ : ∃ c, fn.body = some c := by
    cases h : fn.body with
    | none => rw [h] at hb; cases hb
    | some c => exact ⟨c, rfl⟩
  simp [ho, resolve, Deferred.ofValue, invoke, ef, callFunc, hf, h1, hc]
/-- An operation that yields v in every world of the class is taken first. -/
theorem held_take {P : Program} {md : Region.Mode} {ops : Array Oper} {Q : Exit → Act → World → Prop} {S : World → Prop} {fuel : Nat} {listed : Array Bool} {a : Act} {w : World} (i d : Nat) (v : Value) {oi : Oper}
    (hi : ops[i]? = some oi) (hd : oi.dst = some d) (hs : Region.noSelect ops = true) (hf : Region.free md ops listed i = true) (hr : (Region.ready md ops listed).contains i = true)
    (hQ : ∀ c a w, Q (.panic c) (a.put (some d) v) w → Q (.panic c) a w) (hw : Region.wanted oi (yielded ops a.tmps) = true) (hS : S w) (hy : ∀ w, S w → (execOp a.eval oi).run P w = .ok (.value v) w)
    (h : wpAnyH P md ops Q S fuel (listed.setIfInBounds i true) (a.put (some d) v) w) : wpAnyH P md ops Q S (fuel + 1) listed a w :=
  wpAnyH_take hi hs hf hr (by rw [hd]; exact hQ) (.inl ⟨hw, hy⟩) hS (by rw [hd]; exact h)
/-- The one operation that may come up is a call. -/
theorem held_call {P : Program} {md : Region.Mode} {ops : Array Oper} {Q : Exit → Act → World → Prop} {S : World → Prop} {fuel : Nat} {listed : Array Bool} {a : Act} {w : World} (i d : Nat) (f : FuncId) (args : Array Value) {oi : Oper}
    (hi : ops[i]? = some oi) (hd : oi.dst = some d) (hr : Region.ready md ops listed = [i]) (hw : Region.wanted oi (yielded ops a.tmps) = true)
    (he : (execOp a.eval oi).run P w = .ok (.enter f args) w)
    (h : Calls P f args w fun e w' => ∃ v, e = .returned v ∧ S w' ∧ wpAnyH P md ops Q S fuel (listed.setIfInBounds i true) (a.put (some d) v) w') : wpAnyH P md ops Q S (fuel + 1) listed a w := by
  refine wpAnyH_ready hr (by simp) (AllReadyH.cons hi (fun K hK => ?_) AllReadyH.nil)
  rw [if_pos hw]
  unfold Oper.wp
  rw [he, Oper.upon_enter]
  refine h.mono ?_
  rintro e w' ⟨v, rfl, hS, hh⟩
  rw [hd]
  exact hK.out _ _ hS (fun _ => hh)
/-- The one operation that may come up yields v. -/
theorem held_op {P : Program} {md : Region.Mode} {ops : Array Oper} {Q : Exit → Act → World → Prop} {S : World → Prop} {fuel : Nat} {listed : Array Bool} {a : Act} {w w' : World} (i d : Nat) (v : Value) {oi : Oper}
    (hi : ops[i]? = some oi) (hd : oi.dst = some d) (hr : Region.ready md ops listed = [i]) (hw : Region.wanted oi (yielded ops a.tmps) = true)
    (he : (execOp a.eval oi).run P w = .ok (.value v) w') (hS : S w')
    (h : wpAnyH P md ops Q S fuel (listed.setIfInBounds i true) (a.put (some d) v) w') : wpAnyH P md ops Q S (fuel + 1) listed a w := by
  refine wpAnyH_ready hr (by simp) (AllReadyH.cons hi (fun K hK => ?_) AllReadyH.nil)
  rw [if_pos hw]
  unfold Oper.wp
  rw [he, Oper.upon_value, hd]
  exact hK.out _ _ hS (fun _ => h)
/-- An operation whose guard says no yields nothing. -/
theorem held_skip {P : Program} {md : Region.Mode} {ops : Array Oper} {Q : Exit → Act → World → Prop} {S : World → Prop} {fuel : Nat} {listed : Array Bool} {a : Act} {w : World} (i d : Nat) {oi : Oper}
    (hi : ops[i]? = some oi) (hd : oi.dst = some d) (hs : Region.noSelect ops = true) (hf : Region.free md ops listed i = true) (hr : (Region.ready md ops listed).contains i = true)
    (hQ : ∀ c a w, Q (.panic c) (a.put (some d) undef) w → Q (.panic c) a w) (hw : Region.wanted oi (yielded ops a.tmps) = false) (hS : S w)
    (h : wpAnyH P md ops Q S fuel (listed.setIfInBounds i true) (a.put (some d) undef) w) : wpAnyH P md ops Q S (fuel + 1) listed a w :=
  wpAnyH_take hi hs hf hr (by rw [hd]; exact hQ) (.inr ⟨hw, rfl⟩) hS (by rw [hd]; exact h)
set_option maxRecDepth 100000 in
/-- []byte(s): a new row, in a world that is as it was below. -/
theorem bytes_of (w : World) (s : ByteArray) : ∃ (A : Option Addr) (c : Nat) (w' : World), (convert 9 22 (.string s)).run Tryz.prog w = .ok (.slice A s.size c) w' ∧
    Bts w' w'.heap.size A (strN s) ∧ s.size ≤ c ∧ Below w.heap.size w w' := by
  refine ⟨_, _, _, run_bytes_of_string (P := Tryz.prog) w 9 22 5 s Tryz.underlying9 Tryz.underlying22 Tryz.underlying5, ?_, grownCap_ge _ _ _ _, ?_⟩
  · exact .inr ⟨_, _, rfl, by simp, row_cells w.drew s _ _⟩
  · exact ((Below.refl _ _).drew).alloc (Nat.le_refl _) _
theorem strN_strB (l : List Nat) (h : AllB l) : strN (strB l) = l := by
  unfold strB strN strOfNums
  simp only [List.map_map]
  have e : l.map (UInt8.toNat ∘ (fun n : Int => UInt8.ofNat n.toNat) ∘ (fun b : Nat => (b : Int))) = l.map id := by
    apply List.map_congr_left
    intro b hb
    have := h b hb
    simp [UInt8.toNat_ofNat']
    omega
  rw [List.map_id] at e
  exact e
theorem strB_append (a b : List Nat) : strB (a ++ b) = strB a ++ strB b := by
  apply ByteArray.ext
  unfold strB strOfNums
  simp
set_option maxRecDepth 100000 in
theorem run_add {ρ : Operand → Value} {o : Oper} {x y : Operand} (X Y : ByteArray) (w : World) (h : X.size + Y.size ≤ 9223372036854775807) (ho : o.op = .binOp .add 9 x y 9 := by rfl) (hx : ρ x = .string X := by rfl) (hy : ρ y = .string Y := by rfl) :
    (execOp ρ o).run Tryz.prog w = .ok (.value (.string (X ++ Y))) w := by
  unfold execOp
  rw [ho]
  simp [go_sem, hx, hy, h]
theorem strN_extract (s : ByteArray) (a b : Nat) : strN (s.extract a b) = ((strN s).drop a).take (b - a) := by
  unfold strN
  rw [ByteArray.data_extract, Array.toList_extract, List.extract_eq_take_drop, List.map_take, List.map_drop]
theorem strB_extract (l : List Nat) (hl : AllB l) (a b : Nat) : (strB l).extract a b = strB ((l.drop a).take (b - a)) := by
  rw [← strB_strN ((strB l).extract a b), strN_extract, strN_strB l hl]
theorem str_ne {S s : ByteArray} (h : ¬ S = s) : (S.toList == s.toList) = false := by
  rw [beq_eq_false_iff_ne]
  intro e
  rw [ByteArray.toList_eq, ByteArray.toList_eq] at e
  exact h (ByteArray.ext (Array.toList_inj.mp e))
theorem str_beq (S s : ByteArray) : (S.toList == s.toList) = decide (S = s) := by
  by_cases h : S = s
  · subst h; simp
  · rw [str_ne h]; simp [h]
set_option maxRecDepth 100000 in
theorem exec_neqS {ρ : Operand → Value} {o : Oper} {x y : Operand} (X Y : ByteArray) (w : World) (ho : o.op = .binOp .neq 9 x y 9 := by rfl) (hx : ρ x = .string X := by rfl) (hy : ρ y = .string Y := by rfl) :
    (execOp ρ o).run Tryz.prog w = .ok (.value (.bool (!decide (X = Y)))) w := by
  unfold execOp
  rw [ho]
  simp [go_sem, hx, hy, str_beq]
set_option maxRecDepth 100000 in
theorem exec_neqS_no {ρ : Operand → Value} {o : Oper} {x y : Operand} (X : ByteArray) (w : World) (ho : o.op = .binOp .neq 9 x y 9 := by rfl) (hx : ρ x = .string X := by rfl) (hy : ρ y = .string X := by rfl) :
    (execOp ρ o).run Tryz.prog w = .ok (.value (.bool false)) w := by
  have h := exec_neqS X X w ho hx hy
  simpa using h
set_option maxRecDepth 100000 in
theorem exec_eqS {ρ : Operand → Value} {o : Oper} {x y : Operand} (X Y : ByteArray) (w : World) (ho : o.op = .binOp .eql 9 x y 9 := by rfl) (hx : ρ x = .string X := by rfl) (hy : ρ y = .string Y := by rfl) :
    (execOp ρ o).run Tryz.prog w = .ok (.value (.bool (decide (X = Y)))) w := by
  unfold execOp
  rw [ho]
  simp [go_sem, hx, hy, str_beq]
set_option maxRecDepth 100000 in
theorem exec_fromS {ρ : Operand → Value} {o : Oper} {x l : Operand} (X : ByteArray) (a : Nat) (w : World) (h : a ≤ X.size) (ho : o.op = .slice 9 x (some l) none none := by rfl) (hx : ρ x = .string X := by rfl) (hl : ρ l = .int .i64 (a : Int) := by rfl) :
    (execOp ρ o).run Tryz.prog w = .ok (.value (.string (X.extract a X.size))) w := by
  have h1 : (0 : Int) ≤ (a : Int) := by omega
  have h2 : (a : Int) ≤ (X.size : Int) := by omega
  unfold execOp
  rw [ho]
  simp [go_sem, hx, hl, h, Instr.sliceAt]
set_option maxRecDepth 100000 in
theorem exec_toS {ρ : Operand → Value} {o : Oper} {x l : Operand} (X : ByteArray) (a : Nat) (w : World) (h : a ≤ X.size) (ho : o.op = .slice 9 x none (some l) none := by rfl) (hx : ρ x = .string X := by rfl) (hl : ρ l = .int .i64 (a : Int) := by rfl) :
    (execOp ρ o).run Tryz.prog w = .ok (.value (.string (X.extract 0 a))) w := by
  have h1 : (0 : Int) ≤ (a : Int) := by omega
  have h2 : (a : Int) ≤ (X.size : Int) := by omega
  unfold execOp
  rw [ho]
  simp [go_sem, hx, hl, h, Instr.sliceAt]
set_option maxRecDepth 100000 in
theorem exec_addI {ρ : Operand → Value} {o : Oper} {x y : Operand} (X Y Z : Int) (w : World) (h : X + Y = Z) (h1 : -9223372036854775808 ≤ Z) (h2 : Z ≤ 9223372036854775807) (ho : o.op = .binOp .add 3 x y 3 := by rfl) (hx : ρ x = .int .i64 X := by rfl) (hy : ρ y = .int .i64 Y := by rfl) :
    (execOp ρ o).run Tryz.prog w = .ok (.value (.int .i64 Z)) w := by
  have hw : IntKind.i64.wrap Z = Z := by rw [IntKind.wrap_i64]; omega
  unfold execOp
  rw [ho]
  simp [go_sem, hx, hy, h, hw]
set_option maxRecDepth 100000 in
theorem exec_toB {ρ : Operand → Value} {o : Oper} {x l : Operand} (b off n c a : Nat) (w : World) (h : a ≤ c) (ho : o.op = .slice 22 x none (some l) none := by rfl) (hx : ρ x = .slice (some ⟨b, off, none⟩) n c := by rfl) (hl : ρ l = .int .i64 (a : Int) := by rfl) :
    (execOp ρ o).run Tryz.prog w = .ok (.value (.slice (some ⟨b, off, none⟩) a c)) w := by
  have h1 : (0 : Int) ≤ (a : Int) := by omega
  have h2 : (a : Int) ≤ (c : Int) := by omega
  unfold execOp
  rw [ho]
  simp [go_sem, hx, hl, h, Instr.sliceAt, Tryz.underlying22]
/-- The four bytes of a checksum. -/
def four (n : Nat) : List Nat := [n / 16777216, n / 65536 % 256, n / 256 % 256, n % 256]
theorem four_all (n : Nat) (hn : n < 4294967296) : AllB (four n) := by
  intro b hb
  simp only [four, List.mem_cons, List.not_mem_nil, or_false] at hb
  omega
theorem four_cells (n : Nat) (w : World) : ∀ k, k < (four n).length → (w.alloc (.cells #[.int .u8 ((n : Int) / 16777216), .int .u8 ((n : Int) / 65536 % 256), .int .u8 ((n : Int) / 256 % 256), .int .u8 ((n : Int) % 256)] 5)).cell? ⟨w.heap.size, 0 + k, none⟩ = some (.int .u8 (((four n).getD k 0 : Nat) : Int)) := by
  intro k hk
  rw [Nat.zero_add, World.cell?_alloc_at _ _ _ _ rfl]
  match k, hk with
  | 0, _ => rfl
  | 1, _ => rfl
  | 2, _ => rfl
  | 3, _ => rfl
/-- The bytes of a frame. -/
def frameOf (seq : Nat) (b : List Nat) : List Nat :=
  encI ((four (M.crc (encI seq ++ b)) ++ (encI seq ++ b)).length : Int) ++ (four (M.crc (encI seq ++ b)) ++ (encI seq ++ b))
/-- What FrameOf returns, as bytes. -/
def fOf (seq : Int) (b : List Nat) : List Nat := if 1 ≤ seq ∧ seq ≤ 1000000 ∧ 1 ≤ b.length ∧ b.length ≤ 60 then frameOf seq.toNat b else []
set_option maxRecDepth 100000 in
theorem OwnB.conv {w : World} {base c n : Nat} {A : Option Addr} {l : List Nat} (h : OwnB w base (.slice A n c) l) (h0 : 0 < l.length) :
    (convert 22 9 (.slice A n c)).run Tryz.prog w = .ok (.string (strB l)) w := by
  have hn := (OwnB.cap h).1
  subst hn
  obtain ⟨A', c', he, hb, hp⟩ := OwnB.form h
  obtain ⟨g, rfl, _⟩ := hp (by rintro rfl; simp at h0)
  injection he with h1 h2 h3
  subst h1
  subst h3
  rcases hb with rfl | ⟨b, off, e, _, hc⟩
  · simp at h0
  · injection e with e
    injection e with e1 e2
    subst e1
    subst e2
    exact conv_bytes w g 0 l.length c l rfl hc
theorem encF_len3 (n : Nat) (h : n < 2097152) : (encF 4 n).length ≤ 3 := by
  by_cases h1 : n < 128
  · rw [encF_small _ _ h1]; simp
  rw [encF_step 3 n (by omega)]
  by_cases h2 : n / 128 < 128
  · rw [encF_small _ _ h2]; simp
  rw [encF_step 2 _ (by omega), encF_small _ _ (by omega)]; simp
theorem encI_pos (n : Nat) (h : n ≤ 2147483647) : encI (n : Int) = encN n := by unfold encI; rw [if_pos (by omega), Int.toNat_natCast]
theorem encN_pos (n : Nat) : 0 < (encN n).length := (encF_len 4 n).2
/-- A right frame. -/
def FrOk (seq : Nat) (b : List Nat) : Prop := 1 ≤ seq ∧ seq ≤ 1000000 ∧ 1 ≤ b.length ∧ b.length ≤ 60
/-- The part behind the length. -/
def fRest (seq : Nat) (b : List Nat) : List Nat := four (M.crc (encN seq ++ b)) ++ (encN seq ++ b)
theorem four_len (n : Nat) : (four n).length = 4 := rfl
theorem fRest_len (seq : Nat) (b : List Nat) : (fRest seq b).length = 4 + (encN seq).length + b.length := by
  unfold fRest; rw [List.length_append, List.length_append, four_len]; omega
theorem frameOf_eq {seq : Nat} {b : List Nat} (h : FrOk seq b) : frameOf seq b = encN (fRest seq b).length ++ fRest seq b := by
  have h3 := encF_len3 seq (by unfold FrOk at h; omega)
  have hl := fRest_len seq b
  unfold frameOf
  rw [encI_pos seq (by unfold FrOk at h; omega)]
  show encI ((fRest seq b).length : Int) ++ fRest seq b = _
  rw [encI_pos _ (by rw [hl]; unfold FrOk at h; unfold encN; omega)]
theorem frameOf_one {seq : Nat} {b : List Nat} (h : FrOk seq b) : encN (fRest seq b).length = [(fRest seq b).length] := by
  have h3 := encF_len3 seq (by unfold FrOk at h; omega)
  exact encF_small 4 _ (by rw [fRest_len]; unfold FrOk at h; unfold encN; omega)
theorem frameOf_len {seq : Nat} {b : List Nat} (h : FrOk seq b) : (frameOf seq b).length = 5 + (encN seq).length + b.length := by
  rw [frameOf_eq h, List.length_append, frameOf_one h, fRest_len]; simp; omega
theorem frameOf_le {seq : Nat} {b : List Nat} (h : FrOk seq b) : (frameOf seq b).length ≤ 68 := by
  have h3 := encF_len3 seq (by unfold FrOk at h; omega)
  rw [frameOf_len h]; unfold FrOk at h; unfold encN; omega
theorem fOf_ok {seq : Nat} {b : List Nat} (h : FrOk seq b) : fOf (seq : Int) b = frameOf seq b := by
  unfold fOf; unfold FrOk at h; rw [if_pos (by omega), Int.toNat_natCast]
theorem fOf_ne {seq : Nat} {b : List Nat} (h : fOf (seq : Int) b ≠ []) : FrOk seq b := by
  unfold fOf at h
  split at h
  · unfold FrOk; omega
  · exact absurd rfl h
/-- What the model reads at the start of a window. -/
def specF (u : List Nat) : Option (Nat × List Nat × Nat) :=
  match getN u 0 with
  | none => none
  | some (n, k) =>
    if u.length < k + n ∨ n < 5 then none else
    match getN u ((k + 4 : Nat) : Int) with
    | none => none
    | some (seq, j) =>
      if k + n < k + 4 + j then none else
      if fOf (seq : Int) ((u.drop (k + 4 + j)).take (k + n - (k + 4 + j))) = u.take (k + n) ∧ (u.drop (k + 4 + j)).take (k + n - (k + 4 + j)) ≠ [] then some (seq, (u.drop (k + 4 + j)).take (k + n - (k + 4 + j)), k + n) else none
theorem specF_sound {u b : List Nat} {seq sz : Nat} (h : specF u = some (seq, b, sz)) : FrOk seq b ∧ frameOf seq b = u.take sz ∧ sz = (frameOf seq b).length := by
  unfold specF at h
  split at h
  · cases h
  · rename_i n k hg
    obtain ⟨_, _, hk, _, _⟩ := getN_some hg
    split at h
    · cases h
    · rename_i hl
      split at h
      · cases h
      · split at h
        · cases h
        · split at h
          · rename_i he
            simp only [Option.some.injEq, Prod.mk.injEq] at h
            obtain ⟨rfl, rfl, rfl⟩ := h
            have hne := fOf_ne (by rw [he.1]; intro e; have := congrArg List.length e; rw [List.length_take, List.length_nil] at this; omega)
            have h1 := he.1
            rw [fOf_ok hne] at h1
            refine ⟨hne, h1, ?_⟩
            rw [h1, List.length_take]; omega
          · cases h
theorem getN_frame {seq : Nat} {b : List Nat} (h : FrOk seq b) (rest : List Nat) :
    getN (frameOf seq b ++ rest) 0 = some ((fRest seq b).length, 1) ∧ getN (frameOf seq b ++ rest) 5 = some (seq, (encN seq).length) := by
  have h3 := encF_len3 seq (by unfold FrOk at h; omega)
  constructor
  · have h1 := getN_encN [] (fRest seq b ++ rest) (fRest seq b).length (by rw [fRest_len]; unfold FrOk at h; unfold encN; omega)
    rw [frameOf_eq h, List.append_assoc]
    rw [frameOf_one h] at h1 ⊢
    exact h1
  · have h1 := getN_encN ([(fRest seq b).length] ++ four (M.crc (encN seq ++ b))) (b ++ rest) seq (by unfold FrOk at h; omega)
    rw [frameOf_eq h, frameOf_one h]
    have e : [(fRest seq b).length] ++ fRest seq b ++ rest = ([(fRest seq b).length] ++ four (M.crc (encN seq ++ b))) ++ (encN seq ++ (b ++ rest)) := by
      unfold fRest; simp only [List.append_assoc]
    rw [e]
    rw [show ((([(fRest seq b).length] ++ four (M.crc (encN seq ++ b))).length : Nat) : Int) = 5 by rw [List.length_append, four_len]; rfl] at h1
    exact h1
theorem frame_body {seq : Nat} {b : List Nat} (h : FrOk seq b) (rest : List Nat) : ((frameOf seq b ++ rest).drop (5 + (encN seq).length)).take b.length = b := by
  rw [frameOf_eq h, frameOf_one h]
  have e : [(fRest seq b).length] ++ fRest seq b ++ rest = ([(fRest seq b).length] ++ four (M.crc (encN seq ++ b)) ++ encN seq) ++ (b ++ rest) := by
    unfold fRest; simp only [List.append_assoc]
  rw [e, List.drop_left' (by rw [List.length_append, List.length_append, four_len]; simp only [List.length_cons, List.length_nil])]
  exact List.take_left' rfl
theorem specF_made {u b : List Nat} {n seq j : Nat} (g1 : getN u 0 = some (n, 1)) (g2 : getN u 5 = some (seq, j)) (hl : 1 + n ≤ u.length) (hn : n = 4 + j + b.length) (hj : 0 < j) (hb : 1 ≤ b.length)
    (hd : (u.drop (5 + j)).take b.length = b) (he : fOf (seq : Int) b = u.take (1 + n)) : specF u = some (seq, b, 1 + n) := by
  have hd2 : (u.drop (1 + 4 + j)).take (1 + n - (1 + 4 + j)) = b := by
    rw [show 1 + 4 + j = 5 + j by omega, show 1 + n - (5 + j) = b.length by omega]; exact hd
  have g2' : getN u ((1 + 4 : Nat) : Int) = some (seq, j) := g2
  unfold specF
  rw [g1]
  simp only
  rw [if_neg (by omega), g2']
  simp only
  rw [if_neg (by omega), hd2, if_pos ⟨he, by rintro rfl; simp at hb⟩]
theorem specF_complete {seq : Nat} {b : List Nat} (h : FrOk seq b) (rest : List Nat) : specF (frameOf seq b ++ rest) = some (seq, b, (frameOf seq b).length) := by
  obtain ⟨g1, g2⟩ := getN_frame h rest
  have hl := frameOf_len h
  have hr := fRest_len seq b
  have hp := encN_pos seq
  have e2 : 1 + (fRest seq b).length = (frameOf seq b).length := by rw [hr, hl]; omega
  have := specF_made g1 g2 (by rw [List.length_append]; omega) hr hp h.2.2.1 (frame_body h rest) (by rw [fOf_ok h, e2]; exact (List.take_left' rfl).symm)
  rw [e2] at this
  exact this
/-- What the program reads at the start of a window. -/
def implF (u : List Nat) : Option (Nat × List Nat × Nat) :=
  match getT u 0 with
  | none => none
  | some (r, y) =>
    match getN r 4 with
    | none => none
    | some (seq, j) => if fOf (seq : Int) (r.drop (4 + j)) = u.take y then some (seq, r.drop (4 + j), y) else none
theorem getT_some {l t : List Nat} {at_ : Int} {y : Nat} (h : getT l at_ = some (t, y)) : ∃ n k, getN l at_ = some (n, k) ∧ t = (l.drop (at_.toNat + k)).take n ∧ y = at_.toNat + k + n ∧ y ≤ l.length := by
  unfold getT at h
  split at h
  · cases h
  · rename_i n k hg
    split at h
    · cases h
    · simp only [Option.some.injEq, Prod.mk.injEq] at h
      exact ⟨n, k, hg, h.1.symm, h.2.symm, by omega⟩
theorem implF_sound {u b : List Nat} {seq sz : Nat} (h : implF u = some (seq, b, sz)) : FrOk seq b ∧ frameOf seq b = u.take sz ∧ sz = (frameOf seq b).length := by
  unfold implF at h
  split at h
  · cases h
  · rename_i r y hg
    obtain ⟨n, k, hg1, _, hy, hyl⟩ := getT_some hg
    obtain ⟨_, _, hk, _, _⟩ := getN_some hg1
    split at h
    · cases h
    · split at h
      · rename_i he
        simp only [Option.some.injEq, Prod.mk.injEq] at h
        obtain ⟨rfl, rfl, rfl⟩ := h
        have hne := fOf_ne (by rw [he]; intro e; have := congrArg List.length e; rw [List.length_take, List.length_nil] at this; omega)
        rw [fOf_ok hne] at he
        refine ⟨hne, he, ?_⟩
        rw [he, List.length_take]; omega
      · cases h
theorem implF_made {u b r : List Nat} {seq j y : Nat} (g1 : getT u 0 = some (r, y)) (g2 : getN r 4 = some (seq, j)) (hd : r.drop (4 + j) = b) (he : fOf (seq : Int) b = u.take y) : implF u = some (seq, b, y) := by
  unfold implF
  rw [g1]
  simp only
  rw [g2]
  simp only
  rw [hd, if_pos he]
theorem implF_complete {seq : Nat} {b : List Nat} (h : FrOk seq b) (rest : List Nat) : implF (frameOf seq b ++ rest) = some (seq, b, (frameOf seq b).length) := by
  obtain ⟨g1, _⟩ := getN_frame h rest
  have hl := frameOf_len h
  have hr := fRest_len seq b
  have e : (frameOf seq b ++ rest).drop 1 = fRest seq b ++ rest := by
    rw [frameOf_eq h, frameOf_one h]
    exact List.drop_one
  have ht : getT (frameOf seq b ++ rest) 0 = some (fRest seq b, (frameOf seq b).length) := by
    have h1 := getT_yes g1 (by rw [List.length_append, Int.toNat_zero]; omega)
    rw [Int.toNat_zero, Nat.zero_add, e, List.take_left' rfl] at h1
    rw [show 1 + (fRest seq b).length = (frameOf seq b).length by omega] at h1
    exact h1
  have g2 : getN (fRest seq b) 4 = some (seq, (encN seq).length) := by
    have h1 := getN_encN (four (M.crc (encN seq ++ b))) b seq (by unfold FrOk at h; omega)
    rw [four_len] at h1
    exact h1
  have ed : (fRest seq b).drop (4 + (encN seq).length) = b := by
    unfold fRest
    rw [← List.append_assoc]
    exact List.drop_left' (by rw [List.length_append, four_len])
  exact implF_made ht g2 ed (by rw [fOf_ok h]; exact (List.take_left' rfl).symm)
theorem take_split {l p : List Nat} {n m : Nat} (h : p = (l.take n).take m) (hp : p.length ≤ n) (hm : m = p.length) : ∃ r, l = p ++ r := by
  refine ⟨l.drop p.length, ?_⟩
  have : p = l.take p.length := by
    have h2 := h
    rw [List.take_take, hm, Nat.min_eq_left hp] at h2
    exact h2
  conv => lhs; rw [← List.take_append_drop p.length l, ← this]
set_option maxRecDepth 100000 in
/-- The program and the model read the same. -/
theorem implF_eq (t : List Nat) : implF (t.take 68) = specF (t.take 80) := by
  have two : ∀ seq b, FrOk seq b → (∃ r, t = frameOf seq b ++ r) → implF (t.take 68) = some (seq, b, (frameOf seq b).length) ∧ specF (t.take 80) = some (seq, b, (frameOf seq b).length) := by
    intro seq b h ⟨r, ht⟩
    have hl := frameOf_le h
    have e : ∀ n, 68 ≤ n → t.take n = frameOf seq b ++ r.take (n - (frameOf seq b).length) := fun n hn => by
      rw [ht, List.take_append, List.take_of_length_le (by omega)]
    rw [e 68 (by omega), e 80 (by omega)]
    exact ⟨implF_complete h _, specF_complete h _⟩
  rcases h1 : implF (t.take 68) with _ | ⟨seq, b, sz⟩
  · rcases h2 : specF (t.take 80) with _ | ⟨seq, b, sz⟩
    · rfl
    · obtain ⟨ok, e, hsz⟩ := specF_sound h2
      have := (two seq b ok (take_split e (by have := frameOf_le ok; omega) hsz)).1
      rw [h1] at this; cases this
  · obtain ⟨ok, e, hsz⟩ := implF_sound h1
    rw [(two seq b ok (take_split e (by have := frameOf_le ok; omega) hsz)).2, hsz]
/-- What FrameAt reads. -/
def fAt (l : List Nat) (at_ : Int) : Option (Nat × List Nat × Nat) := if 0 ≤ at_ ∧ at_ ≤ l.length then specF ((l.drop at_.toNat).take 80) else none
/-- What FrameAt returns. -/
def frV (o : Option (Nat × List Nat × Nat)) (at_ : Nat) : Value :=
  match o with
  | some (seq, b, sz) => .tuple #[.agg #[.int .i64 (seq : Int), .string (strB b), .int .i64 ((at_ + sz : Nat) : Int)], .bool true]
  | none => .tuple #[.agg #[.int .i64 0, .string ⟨#[]⟩, .int .i64 0], .bool false]
/-- The head that FrameAt looks at. -/
theorem head_of (s : ByteArray) (a m : Nat) (hm : (m = 68 ∧ 68 ≤ s.size - a) ∨ (m = s.size - a ∧ m < 68)) : ∃ H, s.extract a (a + m) = H ∧ H.size ≤ 68 ∧ strN H = ((strN s).drop a).take 68 := by
  refine ⟨_, rfl, ?_, ?_⟩
  · rw [← strN_length, strN_extract, List.length_take]; omega
  · rw [strN_extract, show a + m - a = m by omega]
    rcases hm with ⟨rfl, _⟩ | ⟨hm, h2⟩
    · rfl
    · rw [List.take_of_length_le (by rw [List.length_drop, strN_length]; omega), List.take_of_length_le (by rw [List.length_drop, strN_length]; omega)]
theorem frameOf_all (seq : Nat) {b : List Nat} (h : AllB b) : AllB (frameOf seq b) := by
  unfold frameOf
  have h1 := AllB.append (encI_all (seq : Int)) h
  exact AllB.append (encI_all _) (AllB.append (four_all _ (M.crc_lt _ h1)) h1)
theorem fOf_all (seq : Int) {b : List Nat} (h : AllB b) : AllB (fOf seq b) := by
  unfold fOf
  split
  · exact frameOf_all _ h
  · intro x hx; cases hx
theorem box3 (w w2 : World) (v0 v1 v2 : Value) (t : TypeId) (b : Below (w.alloc (.cells #[v0, v1, v2] t)).heap.size (w.alloc (.cells #[v0, v1, v2] t)) w2) :
    (w2.cell? ⟨w.heap.size, 0, none⟩ = some v0 ∧ w2.cell? ⟨w.heap.size, 1, none⟩ = some v1 ∧ w2.cell? ⟨w.heap.size, 2, none⟩ = some v2) ∧ w2.frozen? ⟨w.heap.size, 0, none⟩ = false ∧ w2.frozen? ⟨w.heap.size, 1, none⟩ = false ∧ w2.frozen? ⟨w.heap.size, 2, none⟩ = false :=
  ⟨⟨(b.cell (by simp)).trans (by simp [go_sem]), (b.cell (by simp)).trans (by simp [go_sem]), (b.cell (by simp)).trans (by simp [go_sem])⟩, (b.frozen (by simp)).trans (by simp [go_sem]), (b.frozen (by simp)).trans (by simp [go_sem]), (b.frozen (by simp)).trans (by simp [go_sem])⟩
set_option maxRecDepth 100000 in
theorem l1Min_any (a b : Int) (w : World) : Calls Tryz.prog 34 #[.int .i64 a, .int .i64 b] w fun e w' => e = .returned (.int .i64 (if a < b then a else b)) ∧ w = w' := by
  by_cases h : a < b
  · rw [if_pos h]
    go_enter Tryz.func34, Tryz.ntmps34
    go_wp2
    go_ret
    exact ⟨rfl, rfl⟩
  · rw [if_neg h]
    have h2 : decide (a < b) = false := by simpa using h
    go_enter Tryz.func34, Tryz.ntmps34
    go_wp2
    go_ret
    exact ⟨rfl, rfl⟩
/-- The window that the model looks at. -/
theorem window_of (s : ByteArray) (a m : Nat) (ha : a ≤ s.size) (hm : (m = s.size ∧ s.size < a + 80) ∨ (m = a + 80 ∧ a + 80 ≤ s.size)) : ∃ H, s.extract a m = H ∧ H.size ≤ 80 ∧ strN H = ((strN s).drop a).take 80 := by
  refine ⟨_, rfl, ?_, ?_⟩
  · rw [← strN_length, strN_extract, List.length_take]; omega
  · rw [strN_extract]
    rcases hm with ⟨rfl, _⟩ | ⟨rfl, h2⟩
    · rw [List.take_of_length_le (by rw [List.length_drop, strN_length]; omega), List.take_of_length_le (by rw [List.length_drop, strN_length]; omega)]
    · rw [show a + 80 - a = 80 by omega]
theorem frV_form (o : Option (Nat × List Nat × Nat)) (a : Nat) : ∃ (x z : Int) (s : ByteArray) (t : Bool), frV o a = .tuple #[.agg #[.int .i64 x, .string s, .int .i64 z], .bool t] := by
  rcases o with _ | ⟨seq, b, sz⟩
  · exact ⟨0, 0, _, false, rfl⟩
  · exact ⟨_, _, _, true, rfl⟩
/-- The slice at A reads as the cells cs, and lies below block B. -/
def Rws (w : World) (B : Nat) (A : Option Addr) (cs : List Value) : Prop :=
  cs = [] ∨ ∃ b off, A = some ⟨b, off, none⟩ ∧ b < B ∧ ∀ k, k < cs.length → w.cell? ⟨b, off + k, none⟩ = cs[k]?
theorem Rws.below {w w' : World} {B : Nat} {A : Option Addr} {cs : List Value} (h : Rws w B A cs) (hb : Below B w w') : Rws w' B A cs := by
  rcases h with h | ⟨b, off, e, hlt, hc⟩
  · exact .inl h
  · exact .inr ⟨b, off, e, hlt, fun k hk => (hb.cell (by exact hlt)).trans (hc k hk)⟩
theorem Rws.more {w : World} {B B' : Nat} {A : Option Addr} {cs : List Value} (h : Rws w B A cs) (hB : B ≤ B') : Rws w B' A cs := by
  rcases h with h | ⟨b, off, e, hlt, hc⟩
  · exact .inl h
  · exact .inr ⟨b, off, e, by omega, hc⟩
theorem Rws.drewN {w : World} {B : Nat} {A : Option Addr} {cs : List Value} (h : Rws w B A cs) (n : Nat) : Rws (w.drewN n) B A cs := h
theorem own_rws {w : World} {base e sz n m c : Nat} {A : Option Addr} {cs : List Value} (h : w.ownsRow base e sz (.slice A n c) m cs) : Rws w w.heap.size A cs := by
  rcases h.2 with ⟨_, hn⟩ | ⟨g, cap, cur, hv, hb, hg, hnc, hm, hs, ht⟩
  · left
    have := h.1
    rw [hn, Nat.zero_mul] at this
    exact List.eq_nil_of_length_eq_zero this
  · injection hv with h1 h2 h3
    subst h1 h2 h3
    refine .inr ⟨g, 0, rfl, (Array.getElem?_eq_some_iff.1 hg).1, fun k hk => ?_⟩
    rw [Nat.zero_add]
    exact World.ownsRow.cellAt (g := g) (cap := c) h k (by have := h.1; omega)
theorem own_form {w : World} {base e sz n : Nat} {v : Value} {cs : List Value} (h : w.ownsRow base e sz v n cs) :
    ∃ A cap, v = .slice A n cap ∧ n ≤ cap ∧ (A = none → cap = 0) ∧ (0 < n → ∃ g, A = some ⟨g, 0, none⟩ ∧ base ≤ g) := by
  rcases h.2 with ⟨hv, hn⟩ | ⟨g, cap, cur, hv, hb, hg, hnc, hm, hs, ht⟩
  · exact ⟨none, 0, by rw [hv, hn], by omega, fun _ => rfl, fun h => by omega⟩
  · exact ⟨some ⟨g, 0, none⟩, cap, hv, hnc, (fun h => by cases h), (fun _ => ⟨g, rfl, hb⟩)⟩
theorem own_below {w w' : World} {base e sz n : Nat} {v : Value} {cs : List Value} (h : w.ownsRow base e sz v n cs) (hb : Below w.heap.size w w') : w'.ownsRow base e sz v n cs := by
  refine ⟨h.1, ?_⟩
  rcases h.2 with h2 | ⟨g, cap, cur, hv, hg, hh, r⟩
  · exact .inl h2
  · exact .inr ⟨g, cap, cur, hv, hg, by rw [hb.block g (Array.getElem?_eq_some_iff.1 hh).1]; exact hh, r⟩
theorem own_low {w : World} {base e sz n : Nat} {v : Value} {cs : List Value} (h : w.ownsRow base e sz v n cs) : ∀ k, v.ownBlock = some k → base ≤ k := fun k hk => (World.ownsRow.lt h k hk).1
/-- What a new slice is, as a function returns it. -/
def NewR (e sz : Nat) (w : World) (n : Nat) (cs : List Value) (en : Ending) (w' : World) : Prop :=
  ∃ A c, en = .returned (.slice A n c) ∧ w'.ownsRow w.heap.size e sz (.slice A n c) n cs ∧ Below w.heap.size w w'
theorem NewR.of_own {e sz : Nat} {w w' : World} {n : Nat} {cs : List Value} {v : Value} (h : w'.ownsRow w.heap.size e sz v n cs) (hb : Below w.heap.size w w') : NewR e sz w n cs (.returned v) w' := by
  obtain ⟨A, c, rfl, _, _⟩ := own_form h
  exact ⟨A, c, rfl, h, hb⟩
theorem own_empty (w : World) (base e sz : Nat) (h : base ≤ w.heap.size) : (w.alloc (.cells #[] e)).ownsRow base e sz (.slice (some ⟨w.heap.size, 0, none⟩) 0 0) 0 [] :=
  ⟨by simp, .inr ⟨_, _, _, rfl, h, heap_alloc_new _ _, Nat.le_refl _, by simp, by simp, by simp⟩⟩
theorem flat_len {α : Type} (enc : α → List Value) (sz : Nat) (h : ∀ x, (enc x).length = sz) (l : List α) : (l.flatMap enc).length = l.length * sz := by
  induction l with
  | nil => simp
  | cons x l ih => rw [List.flatMap_cons, List.length_append, h, ih, List.length_cons, Nat.succ_mul]; omega
theorem flat_get {α : Type} (enc : α → List Value) (sz : Nat) (h : ∀ x, (enc x).length = sz) (l : List α) (i f : Nat) (d : α) (hi : i < l.length) (hf : f < sz) : (l.flatMap enc)[i * sz + f]? = (enc (l.getD i d))[f]? := by
  induction l generalizing i with
  | nil => simp at hi
  | cons x l ih =>
    rw [List.flatMap_cons]
    cases i with
    | zero => rw [Nat.zero_mul, Nat.zero_add, List.getElem?_append_left (by rw [h]; exact hf)]; rfl
    | succ i =>
      rw [List.getElem?_append_right (by rw [h, Nat.succ_mul]; omega), h, show (i + 1) * sz + f - sz = i * sz + f by rw [Nat.succ_mul]; omega]
      rw [ih i (by simpa using hi)]
      rfl
/-- The cells of element i. -/
theorem Rws.el {α : Type} {enc : α → List Value} {sz : Nat} (h1 : ∀ x, (enc x).length = sz) {w : World} {B : Nat} {A : Option Addr} {l : List α} (h : Rws w B A (l.flatMap enc)) (hs : 0 < sz) {i : Nat} (d : α) (hi : i < l.length) :
    ∃ b off, A = some ⟨b, off, none⟩ ∧ b < B ∧ ∀ f, f < sz → w.cell? ⟨b, off + i * sz + f, none⟩ = (enc (l.getD i d))[f]? := by
  have hl := flat_len enc sz h1 l
  have hm : i * sz + sz ≤ l.length * sz := by rw [← Nat.succ_mul]; exact Nat.mul_le_mul_right _ hi
  rcases h with h | ⟨b, off, e, hb, hc⟩
  · rw [h] at hl; simp only [List.length_nil] at hl; omega
  · refine ⟨b, off, e, hb, fun f hf => ?_⟩
    rw [Nat.add_assoc, hc _ (by rw [hl]; omega), flat_get enc sz h1 l i f d hi hf]
/-- A frame, as Go holds it. -/
structure Fr where
  seq : Int
  body : ByteArray
  next : Int
/-- Its cells. -/
def frC (f : Fr) : List Value := [.int .i64 f.seq, .string f.body, .int .i64 f.next]
def frA (f : Fr) : Value := .agg #[.int .i64 f.seq, .string f.body, .int .i64 f.next]
def fr0 : Fr := ⟨0, ⟨#[]⟩, 0⟩
theorem frC_len (f : Fr) : (frC f).length = 3 := rfl
theorem Rws.fr {w : World} {B : Nat} {A : Option Addr} {l : List Fr} (h : Rws w B A (l.flatMap frC)) {i : Nat} (hi : i < l.length) :
    ∃ b off, A = some ⟨b, off, none⟩ ∧ b < B ∧ w.cell? ⟨b, off + i * 3, none⟩ = some (.int .i64 (l.getD i fr0).seq) ∧ w.cell? ⟨b, off + i * 3 + 1, none⟩ = some (.string (l.getD i fr0).body) ∧ w.cell? ⟨b, off + i * 3 + 2, none⟩ = some (.int .i64 (l.getD i fr0).next) := by
  obtain ⟨b, off, e, hb, hc⟩ := Rws.el frC_len h (by omega) fr0 hi
  exact ⟨b, off, e, hb, hc 0 (by omega), hc 1 (by omega), hc 2 (by omega)⟩
theorem keep3 {w w' : World} {b off : Nat} {p q r : Option Value} (hb : Below w.heap.size w w') (h : b < w.heap.size) (c : w.cell? ⟨b, off, none⟩ = p ∧ w.cell? ⟨b, off + 1, none⟩ = q ∧ w.cell? ⟨b, off + 2, none⟩ = r) :
    w'.cell? ⟨b, off, none⟩ = p ∧ w'.cell? ⟨b, off + 1, none⟩ = q ∧ w'.cell? ⟨b, off + 2, none⟩ = r :=
  ⟨(hb.cell (by exact h)).trans c.1, (hb.cell (by exact h)).trans c.2.1, (hb.cell (by exact h)).trans c.2.2⟩
theorem keep6 {w w' : World} {b off b' off' : Nat} {p q r p' q' r' : Option Value} (hb : Below w.heap.size w w') (h : b < w.heap.size) (h' : b' < w.heap.size) (c : w.cell? ⟨b, off, none⟩ = p ∧ w.cell? ⟨b, off + 1, none⟩ = q ∧ w.cell? ⟨b, off + 2, none⟩ = r)
    (c' : w.cell? ⟨b', off', none⟩ = p' ∧ w.cell? ⟨b', off' + 1, none⟩ = q' ∧ w.cell? ⟨b', off' + 2, none⟩ = r') :
    (w'.cell? ⟨b, off, none⟩ = p ∧ w'.cell? ⟨b, off + 1, none⟩ = q ∧ w'.cell? ⟨b, off + 2, none⟩ = r) ∧ (w'.cell? ⟨b', off', none⟩ = p' ∧ w'.cell? ⟨b', off' + 1, none⟩ = q' ∧ w'.cell? ⟨b', off' + 2, none⟩ = r') :=
  ⟨keep3 hb h c, keep3 hb h' c'⟩
theorem grown_of_below {a w : World} (h : Below a.heap.size a w) (row : Option Nat) : a.grownBy w row := ⟨h.os, h.tape, h.output, h.size, fun i hi _ => h.block i hi⟩
/-- The frame of the marks from q on. -/
def markF (q : Nat) : Fr := ⟨(q : Int), markT (q + 1), ((q + 2 : Nat) : Int)⟩
def marksF (k n : Nat) : List Fr := (List.range n).map fun i => markF (k + i * 3)
theorem marksF_length (k n : Nat) : (marksF k n).length = n := by simp [marksF]
theorem marksF_getD (k n i : Nat) (h : i < n) : (marksF k n).getD i fr0 = markF (k + i * 3) := by simp [marksF, h]
theorem marksF_succ (k j : Nat) : marksF k (j + 1) = marksF k j ++ [markF (k + j * 3)] := by simp [marksF, List.range_succ]
def markedF (l : List Fr) (k j : Nat) : List Value := (marksF k j).flatMap frC ++ (l.flatMap frC).drop (j * 3)
theorem markedF_zero (l : List Fr) (k : Nat) : markedF l k 0 = l.flatMap frC := by simp [markedF, marksF]
theorem markedF_all (l : List Fr) (k : Nat) : markedF l k l.length = (marksF k l.length).flatMap frC := by
  unfold markedF; rw [List.drop_of_length_le (by rw [flat_len frC 3 frC_len]; omega), List.append_nil]
theorem markedF_len (l : List Fr) (k j : Nat) (hj : j ≤ l.length) : (markedF l k j).length = l.length * 3 := by
  unfold markedF
  rw [List.length_append, flat_len frC 3 frC_len, marksF_length, List.length_drop, flat_len frC 3 frC_len]; omega
theorem markedF_set (l : List Fr) (k j : Nat) (hj : j < l.length) :
    (((markedF l k j).set (j * 3) (.int .i64 ((k + j * 3 : Nat) : Int))).set (j * 3 + 1) (.string (markT (k + j * 3 + 1)))).set (j * 3 + 2) (.int .i64 ((k + j * 3 + 2 : Nat) : Int)) = markedF l k (j + 1) := by
  have hlen : ((marksF k j).flatMap frC).length = j * 3 := by rw [flat_len frC 3 frC_len, marksF_length]
  have hl : (l.flatMap frC).length = l.length * 3 := flat_len frC 3 frC_len l
  obtain ⟨x0, x1, x2, r, hd⟩ : ∃ x0 x1 x2 r, (l.flatMap frC).drop (j * 3) = x0 :: x1 :: x2 :: r := by
    have : 3 ≤ ((l.flatMap frC).drop (j * 3)).length := by rw [List.length_drop, hl]; omega
    match h : (l.flatMap frC).drop (j * 3), this with
    | x0 :: x1 :: x2 :: r, _ => exact ⟨x0, x1, x2, r, rfl⟩
  have hd3 : (l.flatMap frC).drop ((j + 1) * 3) = r := by
    rw [show (j + 1) * 3 = 3 + j * 3 by omega, Nat.add_comm, ← List.drop_drop, hd]; rfl
  unfold markedF
  rw [hd, hd3, marksF_succ, List.flatMap_append, List.append_assoc]
  rw [List.set_append_right _ _ (by omega), hlen, Nat.sub_self, List.set_cons_zero]
  rw [List.set_append_right _ _ (by omega), hlen, show j * 3 + 1 - j * 3 = 1 by omega]
  rw [List.set_append_right _ _ (by omega), hlen, show j * 3 + 2 - j * 3 = 2 by omega]
  rfl
set_option maxRecDepth 100000 in
theorem exec_loadS {ρ : Operand → Value} {o : Oper} {x : Operand} (b off : Nat) (s : ByteArray) (w : World) (h : w.cell? ⟨b, off, none⟩ = some (.string s)) (ho : o.op = .load 9 x := by rfl) (hx : ρ x = .pointer (some ⟨b, off, none⟩) := by rfl) :
    (execOp ρ o).run Tryz.prog w = .ok (.value (.string s)) w := by
  unfold execOp
  rw [ho]
  simp [go_sem, hx, h]
theorem frC_one (f : Fr) : ∀ u ∈ frC f, u.oneCell' = true := by
  intro u hu
  simp only [frC, List.mem_cons, List.not_mem_nil, or_false] at hu
  rcases hu with rfl | rfl | rfl <;> rfl
theorem fAt_some {l : List Nat} {a seq sz : Nat} {b : List Nat} (h : fAt l (a : Int) = some (seq, b, sz)) : FrOk seq b ∧ frameOf seq b = (l.drop a).take sz ∧ sz = (frameOf seq b).length ∧ 0 < sz ∧ a + sz ≤ l.length := by
  unfold fAt at h
  split at h
  · rename_i h1
    rw [Int.toNat_natCast] at h
    obtain ⟨ok, e, hsz⟩ := specF_sound h
    have hle := frameOf_le ok
    have hl := frameOf_len ok
    have h2 : ((((l.drop a).take 80)).take sz).length = sz := by rw [← e, hsz]
    rw [List.length_take, List.length_take, List.length_drop] at h2
    refine ⟨ok, ?_, hsz, by omega, by omega⟩
    rw [e, List.take_take, Nat.min_eq_left (by omega)]
  · cases h
/-- The frames from a on, with fuel. -/
def frsF : Nat → List Nat → Nat → List Fr
  | 0, _, _ => []
  | n + 1, l, a => match fAt l (a : Int) with
    | none => []
    | some (seq, b, sz) => ⟨seq, strB b, ((a + sz : Nat) : Int)⟩ :: frsF n l (a + sz)
def framesOf (l : List Nat) : List Fr := frsF l.length l 0
theorem frsF_none {n a : Nat} {l : List Nat} (h : fAt l (a : Int) = none) : frsF n l a = [] := by
  cases n with
  | zero => rfl
  | succ n => simp only [frsF]; rw [h]
theorem frsF_some {n a seq sz : Nat} {l b : List Nat} (h : fAt l (a : Int) = some (seq, b, sz)) : frsF (n + 1) l a = ⟨seq, strB b, ((a + sz : Nat) : Int)⟩ :: frsF n l (a + sz) := by
  simp only [frsF]; rw [h]
/-- Where the loop of Frames stands: p is read, at a. -/
def FrAtt (l : List Nat) (p : List Fr) (a : Nat) : Prop := ∃ n, p ++ frsF n l a = framesOf l ∧ l.length ≤ a + n ∧ a ≤ l.length ∧ p.length ≤ a
theorem FrAtt.start (l : List Nat) : FrAtt l [] 0 := ⟨l.length, rfl, by omega, by omega, by simp⟩
theorem FrAtt.step {l : List Nat} {p : List Fr} {a seq sz : Nat} {b : List Nat} (h : FrAtt l p a) (hf : fAt l (a : Int) = some (seq, b, sz)) : FrAtt l (p ++ [⟨seq, strB b, ((a + sz : Nat) : Int)⟩]) (a + sz) := by
  obtain ⟨n, h1, h2, h3, h4⟩ := h
  obtain ⟨_, _, _, h5, h6⟩ := fAt_some hf
  cases n with
  | zero => omega
  | succ n =>
    refine ⟨n, ?_, by omega, by omega, by simp; omega⟩
    rw [← h1, frsF_some hf, List.append_assoc]; rfl
theorem FrAtt.stop {l : List Nat} {p : List Fr} {a : Nat} (h : FrAtt l p a) (hf : fAt l (a : Int) = none) : p = framesOf l := by
  obtain ⟨n, h1, _⟩ := h
  rw [← h1, frsF_none hf, List.append_nil]
theorem framesOf_len (l : List Nat) : (framesOf l).length ≤ l.length := by
  have key : ∀ n a, (frsF n l a).length ≤ n := by
    intro n
    induction n with
    | zero => intro a; simp [frsF]
    | succ n ih =>
      intro a
      simp only [frsF]
      split
      · simp
      · simp only [List.length_cons]; have := ih (a + ‹Nat›); omega
  exact key _ _
theorem own_not {w : World} {base e sz n B : Nat} {v : Value} {cs : List Value} (h : w.ownsRow base e sz v n cs) (hB : w.heap.size ≤ B) : v.ownBlock ≠ some B := by
  intro hv
  have := (World.ownsRow.lt h B hv).2
  omega
/-- What Whole returns. -/
def wholeOf (l : List Nat) : Int := if (framesOf l).length = 0 then 0 else ((framesOf l).getD ((framesOf l).length - 1) fr0).next
end Go.Proofs.YtlflgflmlfileaaGreat
