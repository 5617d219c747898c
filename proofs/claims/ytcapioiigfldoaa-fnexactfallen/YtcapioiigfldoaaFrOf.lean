/- Drawn regions by hand; FrameOf of the program and of the model. -/
import Derived.Test.YtcapioiigfldoaaRows
import Derived.Test.YtcapioiigfldoaaStrs
namespace Go.Proofs.Ytcapioiigfldoaa
open Go.RowKit
set_option linter.unusedSimpArgs false
set_option linter.unusedVariables false
theorem exec_convert {P : Program} {ρ : Operand → Value} {o : Oper} {src dst : TypeId} {x : Operand} {v : Value} {w : World} (ho : o.op = .convert src dst x) (h : (convert src dst (ρ x)).run P w = .ok v w) :
    (execOp ρ o).run P w = .ok (.value v) w := by
  unfold execOp
  rw [ho]
  simp [go_sem, h]
/-- A call of a Go function is entered. -/
theorem exec_call {P : Program} {a : Act} {o : Oper} {f : FuncId} {xs : Array Operand} {ats : Array TypeId} {args : Array Value} {fn : Func} (hf : P.funcs[f]? = some fn) (hn : (fn.name == "runtime.NumGoroutine") = false) (hb : fn.body.isNone = false) (w : World)
    (ho : o.op = .call { callee := .value (.func f), args := xs, argTypes := ats } := by rfl) (ha : xs.map a.eval = args := by (simp only [List.map_toArray, List.map_cons, List.map_nil]; rfl)) : (execOp a.eval o).run P w = .ok (.enter f args) w := by
  subst ha
  have h1 : fn.name ≠ "runtime.NumGoroutine" := by simpa using hn
  have ef : a.eval (.func f) = .func (.func f) #[] #[] := rfl
  unfold execOp
  obtain ⟨c, hc⟩ : ∃ c, fn.body = some c := by
    cases h : fn.body with
    | none => rw [h] at hb; cases hb
    | some c => exact ⟨c, rfl⟩
  simp [ho, resolve, Deferred.ofValue, invoke, ef, callFunc, hf, h1, hc]
/-- An operation that yields v in every world of the class is taken first. -/
theorem held_take {P : Program} {md : Region.Mode} {ops : Array Oper} {Q : Exit → Act → World → Prop} {S : World → Prop} {fuel : Nat} {listed : Array Bool} {a : Act} {w : World} (i d : Nat) (v : Value) {oi : Oper}
    (hi : ops[i]? = some oi) (hd : oi.dst = some d) (hs : Region.noSelect ops = true) (hf : Region.free md ops listed i = true) (hr : (Region.ready md ops listed).contains i = true)
    (hQ : ∀ c a w, Q (.panic c) (a.put (some d) v) w → Q (.panic c) a w) (hw : Region.wanted oi (yielded ops a.tmps) = true) (hS : S w) (hy : ∀ w, S w → (execOp a.eval oi).run P w = .ok (.value v) w)
    (h : wpAnyH P md ops Q S fuel (listed.setIfInBounds i true) (a.put (some d) v) w) : wpAnyH P md ops Q S (fuel + 1) listed a w :=
  wpAnyH_take hi hs hf hr (by rw [hd]; exact hQ) (.inl ⟨hw, hy⟩) hS (by rw [hd]; exact h)
/-- The one operation that may come up is a call. -/
theorem held_call {P : Program} {md : Region.Mode} {ops : Array Oper} {Q : Exit → Act → World → Prop} {S : World → Prop} {fuel : Nat} {listed : Array Bool} {a : Act} {w : World} (i d : Nat) (f : FuncId) (args : Array Value) {oi : Oper}
    (hi : ops[i]? = some oi) (hd : oi.dst = some d) (hr : Region.ready md ops listed = [i]) (hw : Region.wanted oi (yielded ops a.tmps) = true)
    (he : (execOp a.eval oi).run P w = .ok (.enter f args) w)
    (h : Calls P f args w fun e w' => ∃ v, e = .returned v ∧ S w' ∧ wpAnyH P md ops Q S fuel (listed.setIfInBounds i true) (a.put (some d) v) w') : wpAnyH P md ops Q S (fuel + 1) listed a w := by
  refine wpAnyH_ready hr (by simp) (AllReadyH.cons hi (fun K hK => ?_) AllReadyH.nil)
  rw [if_pos hw]
  unfold Oper.wp
  rw [he, Oper.upon_enter]
  refine h.mono ?_
  rintro e w' ⟨v, rfl, hS, hh⟩
  rw [hd]
  exact hK.out _ _ hS (fun _ => hh)
/-- The one operation that may come up yields v. -/
theorem held_op {P : Program} {md : Region.Mode} {ops : Array Oper} {Q : Exit → Act → World → Prop} {S : World → Prop} {fuel : Nat} {listed : Array Bool} {a : Act} {w w' : World} (i d : Nat) (v : Value) {oi : Oper}
    (hi : ops[i]? = some oi) (hd : oi.dst = some d) (hr : Region.ready md ops listed = [i]) (hw : Region.wanted oi (yielded ops a.tmps) = true)
    (he : (execOp a.eval oi).run P w = .ok (.value v) w') (hS : S w')
    (h : wpAnyH P md ops Q S fuel (listed.setIfInBounds i true) (a.put (some d) v) w') : wpAnyH P md ops Q S (fuel + 1) listed a w := by
  refine wpAnyH_ready hr (by simp) (AllReadyH.cons hi (fun K hK => ?_) AllReadyH.nil)
  rw [if_pos hw]
  unfold Oper.wp
  rw [he, Oper.upon_value, hd]
  exact hK.out _ _ hS (fun _ => h)
/-- An operation whose guard says no yields nothing. -/
theorem held_skip {P : Program} {md : Region.Mode} {ops : Array Oper} {Q : Exit → Act → World → Prop} {S : World → Prop} {fuel : Nat} {listed : Array Bool} {a : Act} {w : World} (i d : Nat) {oi : Oper}
    (hi : ops[i]? = some oi) (hd : oi.dst = some d) (hs : Region.noSelect ops = true) (hf : Region.free md ops listed i = true) (hr : (Region.ready md ops listed).contains i = true)
    (hQ : ∀ c a w, Q (.panic c) (a.put (some d) undef) w → Q (.panic c) a w) (hw : Region.wanted oi (yielded ops a.tmps) = false) (hS : S w)
    (h : wpAnyH P md ops Q S fuel (listed.setIfInBounds i true) (a.put (some d) undef) w) : wpAnyH P md ops Q S (fuel + 1) listed a w :=
  wpAnyH_take hi hs hf hr (by rw [hd]; exact hQ) (.inr ⟨hw, rfl⟩) hS (by rw [hd]; exact h)
set_option maxRecDepth 100000 in
/-- []byte(s): a new row, in a world that is as it was below. -/
theorem bytes_of (w : World) (s : ByteArray) : ∃ (A : Option Addr) (c : Nat) (w' : World), (convert 9 22 (.string s)).run Try.prog w = .ok (.slice A s.size c) w' ∧
    Bts w' w'.heap.size A (strN s) ∧ s.size ≤ c ∧ Below w.heap.size w w' := by
  refine ⟨_, _, _, run_bytes_of_string (P := Try.prog) w 9 22 5 s Try.underlying9 Try.underlying22 Try.underlying5, ?_, grownCap_ge _ _ _ _, ?_⟩
  · exact .inr ⟨_, _, rfl, by simp, row_cells w.drew s _ _⟩
  · exact ((Below.refl _ _).drew).alloc (Nat.le_refl _) _
theorem strN_strB (l : List Nat) (h : AllB l) : strN (strB l) = l := by
  unfold strB strN strOfNums
  simp only [List.map_map]
  have e : l.map (UInt8.toNat ∘ (fun n : Int => UInt8.ofNat n.toNat) ∘ (fun b : Nat => (b : Int))) = l.map id := by
    apply List.map_congr_left
    intro b hb
    have := h b hb
    simp [UInt8.toNat_ofNat']
    omega
  rw [List.map_id] at e
  exact e
theorem strB_append (a b : List Nat) : strB (a ++ b) = strB a ++ strB b := by
  apply ByteArray.ext
  unfold strB strOfNums
  simp
set_option maxRecDepth 100000 in
theorem run_add {ρ : Operand → Value} {o : Oper} {x y : Operand} (X Y : ByteArray) (w : World) (h : X.size + Y.size ≤ 9223372036854775807) (ho : o.op = .binOp .add 9 x y 9 := by rfl) (hx : ρ x = .string X := by rfl) (hy : ρ y = .string Y := by rfl) :
    (execOp ρ o).run Try.prog w = .ok (.value (.string (X ++ Y))) w := by
  unfold execOp
  rw [ho]
  simp [go_sem, hx, hy, h]
theorem strN_extract (s : ByteArray) (a b : Nat) : strN (s.extract a b) = ((strN s).drop a).take (b - a) := by
  unfold strN
  rw [ByteArray.data_extract, Array.toList_extract, List.extract_eq_take_drop, List.map_take, List.map_drop]
theorem strB_extract (l : List Nat) (hl : AllB l) (a b : Nat) : (strB l).extract a b = strB ((l.drop a).take (b - a)) := by
  rw [← strB_strN ((strB l).extract a b), strN_extract, strN_strB l hl]
theorem str_ne {S s : ByteArray} (h : ¬ S = s) : (S.toList == s.toList) = false := by
  rw [beq_eq_false_iff_ne]
  intro e
  rw [ByteArray.toList_eq, ByteArray.toList_eq] at e
  exact h (ByteArray.ext (Array.toList_inj.mp e))
theorem str_beq (S s : ByteArray) : (S.toList == s.toList) = decide (S = s) := by
  by_cases h : S = s
  · subst h; simp
  · rw [str_ne h]; simp [h]
set_option maxRecDepth 100000 in
theorem exec_neqS {ρ : Operand → Value} {o : Oper} {x y : Operand} (X Y : ByteArray) (w : World) (ho : o.op = .binOp .neq 9 x y 9 := by rfl) (hx : ρ x = .string X := by rfl) (hy : ρ y = .string Y := by rfl) :
    (execOp ρ o).run Try.prog w = .ok (.value (.bool (!decide (X = Y)))) w := by
  unfold execOp
  rw [ho]
  simp [go_sem, hx, hy, str_beq]
set_option maxRecDepth 100000 in
theorem exec_neqS_no {ρ : Operand → Value} {o : Oper} {x y : Operand} (X : ByteArray) (w : World) (ho : o.op = .binOp .neq 9 x y 9 := by rfl) (hx : ρ x = .string X := by rfl) (hy : ρ y = .string X := by rfl) :
    (execOp ρ o).run Try.prog w = .ok (.value (.bool false)) w := by
  have h := exec_neqS X X w ho hx hy
  simpa using h
set_option maxRecDepth 100000 in
theorem exec_eqS {ρ : Operand → Value} {o : Oper} {x y : Operand} (X Y : ByteArray) (w : World) (ho : o.op = .binOp .eql 9 x y 9 := by rfl) (hx : ρ x = .string X := by rfl) (hy : ρ y = .string Y := by rfl) :
    (execOp ρ o).run Try.prog w = .ok (.value (.bool (decide (X = Y)))) w := by
  unfold execOp
  rw [ho]
  simp [go_sem, hx, hy, str_beq]
set_option maxRecDepth 100000 in
theorem exec_fromS {ρ : Operand → Value} {o : Oper} {x l : Operand} (X : ByteArray) (a : Nat) (w : World) (h : a ≤ X.size) (ho : o.op = .slice 9 x (some l) none none := by rfl) (hx : ρ x = .string X := by rfl) (hl : ρ l = .int .i64 (a : Int) := by rfl) :
    (execOp ρ o).run Try.prog w = .ok (.value (.string (X.extract a X.size))) w := by
  have h1 : (0 : Int) ≤ (a : Int) := by omega
  have h2 : (a : Int) ≤ (X.size : Int) := by omega
  unfold execOp
  rw [ho]
  simp [go_sem, hx, hl, h, Instr.sliceAt]
set_option maxRecDepth 100000 in
theorem exec_toS {ρ : Operand → Value} {o : Oper} {x l : Operand} (X : ByteArray) (a : Nat) (w : World) (h : a ≤ X.size) (ho : o.op = .slice 9 x none (some l) none := by rfl) (hx : ρ x = .string X := by rfl) (hl : ρ l = .int .i64 (a : Int) := by rfl) :
    (execOp ρ o).run Try.prog w = .ok (.value (.string (X.extract 0 a))) w := by
  have h1 : (0 : Int) ≤ (a : Int) := by omega
  have h2 : (a : Int) ≤ (X.size : Int) := by omega
  unfold execOp
  rw [ho]
  simp [go_sem, hx, hl, h, Instr.sliceAt]
set_option maxRecDepth 100000 in
theorem exec_addI {ρ : Operand → Value} {o : Oper} {x y : Operand} (X Y Z : Int) (w : World) (h : X + Y = Z) (h1 : -9223372036854775808 ≤ Z) (h2 : Z ≤ 9223372036854775807) (ho : o.op = .binOp .add 3 x y 3 := by rfl) (hx : ρ x = .int .i64 X := by rfl) (hy : ρ y = .int .i64 Y := by rfl) :
    (execOp ρ o).run Try.prog w = .ok (.value (.int .i64 Z)) w := by
  have hw : IntKind.i64.wrap Z = Z := by rw [IntKind.wrap_i64]; omega
  unfold execOp
  rw [ho]
  simp [go_sem, hx, hy, h, hw]
set_option maxRecDepth 100000 in
theorem exec_toB {ρ : Operand → Value} {o : Oper} {x l : Operand} (b off n c a : Nat) (w : World) (h : a ≤ c) (ho : o.op = .slice 22 x none (some l) none := by rfl) (hx : ρ x = .slice (some ⟨b, off, none⟩) n c := by rfl) (hl : ρ l = .int .i64 (a : Int) := by rfl) :
    (execOp ρ o).run Try.prog w = .ok (.value (.slice (some ⟨b, off, none⟩) a c)) w := by
  have h1 : (0 : Int) ≤ (a : Int) := by omega
  have h2 : (a : Int) ≤ (c : Int) := by omega
  unfold execOp
  rw [ho]
  simp [go_sem, hx, hl, h, Instr.sliceAt, Try.underlying22]
/-- The four bytes of a checksum. -/
def four (n : Nat) : List Nat := [n / 16777216, n / 65536 % 256, n / 256 % 256, n % 256]
theorem four_all (n : Nat) (hn : n < 4294967296) : AllB (four n) := by
  intro b hb
  simp only [four, List.mem_cons, List.not_mem_nil, or_false] at hb
  omega
theorem four_cells (n : Nat) (w : World) : ∀ k, k < (four n).length → (w.alloc (.cells #[.int .u8 ((n : Int) / 16777216), .int .u8 ((n : Int) / 65536 % 256), .int .u8 ((n : Int) / 256 % 256), .int .u8 ((n : Int) % 256)] 5)).cell? ⟨w.heap.size, 0 + k, none⟩ = some (.int .u8 (((four n).getD k 0 : Nat) : Int)) := by
  intro k hk
  rw [Nat.zero_add, World.cell?_alloc_at _ _ _ _ rfl]
  match k, hk with
  | 0, _ => rfl
  | 1, _ => rfl
  | 2, _ => rfl
  | 3, _ => rfl
set_option maxHeartbeats 400000 in
set_option maxRecDepth 100000 in
theorem l2Four_any (n : Nat) (w : World) (hn : n < 4294967296) :
    Calls Try.prog 67 #[.int .i64 n] w fun e w' => e = .returned (.string (strB (four n))) ∧ Below w.heap.size w w' := by
  have hcv := conv_bytes _ w.heap.size 0 4 4 (four n) rfl (four_cells n w)
  go_enter Try.func67, Try.ntmps67
  go_wp2
  go_ret
  exact ⟨rfl, (Below.refl _ _).alloc (Nat.le_refl _) _⟩
/-- The bytes of a frame. -/
def frameOf (seq : Nat) (b : List Nat) : List Nat :=
  encI ((four (M.crc (encI seq ++ b)) ++ (encI seq ++ b)).length : Int) ++ (four (M.crc (encI seq ++ b)) ++ (encI seq ++ b))
/-- What FrameOf returns, as bytes. -/
def fOf (seq : Int) (b : List Nat) : List Nat := if 1 ≤ seq ∧ seq ≤ 1000000 ∧ 1 ≤ b.length ∧ b.length ≤ 60 then frameOf seq.toNat b else []
set_option maxRecDepth 100000 in
theorem OwnB.conv {w : World} {base c n : Nat} {A : Option Addr} {l : List Nat} (h : OwnB w base (.slice A n c) l) (h0 : 0 < l.length) :
    (convert 22 9 (.slice A n c)).run Try.prog w = .ok (.string (strB l)) w := by
  have hn := (OwnB.cap h).1
  subst hn
  obtain ⟨A', c', he, hb, hp⟩ := OwnB.form h
  obtain ⟨g, rfl, _⟩ := hp (by rintro rfl; simp at h0)
  injection he with h1 h2 h3
  subst h1
  subst h3
  rcases hb with rfl | ⟨b, off, e, _, hc⟩
  · simp at h0
  · injection e with e
    injection e with e1 e2
    subst e1
    subst e2
    exact conv_bytes w g 0 l.length c l rfl hc
set_option maxRecDepth 100000 in
set_option maxHeartbeats 400000 in
theorem frameOf_spec_in (seq : Nat) (s : ByteArray) (w : World) (h1 : 1 ≤ seq) (h2 : seq ≤ 1000000) (h3 : 1 ≤ s.size) (h4 : s.size ≤ 60) :
    Calls Try.prog 63 #[.int .i64 seq, .string s] w fun e w' => e = .returned (.string (strB (frameOf seq (strN s)))) ∧ Below w.heap.size w w' := by
  have C1 := Lib.hid (putNum_spec (seq : Int))
  have hel := encI_len (seq : Int)
  have hea := encI_all (seq : Int)
  have he0 : 0 < (encI (seq : Int)).length := by unfold encI; rw [if_pos (by omega)]; exact (encF_len 4 _).2
  have hsl := strN_length s
  have hsa := strN_all s
  have hse : strB (strN s) = s := strB_strN s
  generalize hE : encI (seq : Int) = E at *
  have hLa : AllB (E ++ strN s) := AllB.append hea hsa
  have hLl : (E ++ strN s).length = E.length + s.size := by rw [List.length_append, hsl]
  have hLb : strB E ++ s = strB (E ++ strN s) := by rw [strB_append, hse]
  have HF : Hid (frameOf seq (strN s) = encI ((four (M.crc (E ++ strN s)) ++ (E ++ strN s)).length : Int) ++ (four (M.crc (E ++ strN s)) ++ (E ++ strN s))) := by
    show _ = _
    unfold frameOf; rw [hE]
  have hEs : (strB E).size ≤ 5 := by rw [strB_size]; exact hel
  obtain ⟨EB, hEB⟩ : ∃ EB, strB E = EB := ⟨_, rfl⟩
  rw [hEB] at hLb hEs
  have HEB := Lib.hid hEB
  clear hEB
  obtain ⟨T, hT⟩ : ∃ T, EB ++ s = T := ⟨_, rfl⟩
  rw [hT] at hLb
  have HLn : Hid (strN T = E ++ strN s) := by show _ = _; rw [hLb, strN_strB _ hLa]
  have hTs : T.size ≤ 65 := by rw [← strN_length, HLn.out]; omega
  have hTs2 : (E ++ strN s).length ≤ 65 := by omega
  generalize E ++ strN s = L at *
  have hcr := M.crc_lt L hLa
  have c3 := fun w => l2Four_any (M.crc L) w hcr
  have hX : (strB (four (M.crc L))).size ≤ 4 := by rw [strB_size]; exact Nat.le_refl _
  have hR : strB (four (M.crc L)) ++ T = strB (four (M.crc L) ++ L) := by rw [strB_append, hLb]
  have hRl : (four (M.crc L) ++ L).length = 4 + L.length := by rw [List.length_append]; rfl
  have C2 := Lib.hid (fun A c n w (hn : n = L.length) h => crc_spec_n A L n c w.heap.size w hn (by omega) h hLa)
  generalize four (M.crc L) = F4 at *
  generalize M.crc L = q at *
  have c4 := putNum_spec ((F4 ++ L).length : Int)
  have hZ0 : 0 < (encI ((F4 ++ L).length : Int)).length := by unfold encI; rw [if_pos (by omega)]; exact (encF_len 4 _).2
  have hZ5 := encI_len ((F4 ++ L).length : Int)
  obtain ⟨U, hU⟩ : ∃ U, strB F4 ++ T = U := ⟨_, rfl⟩
  rw [hU] at hR
  have HRs : Hid ((U.size : Int) = ((F4 ++ L).length : Int)) := by show _ = _; rw [hR, strB_size]
  have HF2 : Hid (∀ Z, Z = strB (encI ((F4 ++ L).length : Int)) → Z ++ U = strB (frameOf seq (strN s))) := by
    rintro Z rfl
    rw [hR, HF.out, ← strB_append]
  have hUs : U.size ≤ 69 := by have := HRs.out; omega
  generalize strB F4 = X at *
  generalize encI ((F4 ++ L).length : Int) = ZL at *
  obtain ⟨Z, hZ⟩ : ∃ Z, strB ZL = Z := ⟨_, rfl⟩
  have hZs : Z.size ≤ 5 := by rw [← hZ, strB_size]; exact hZ5
  have HFZ : Hid (Z ++ U = strB (frameOf seq (strN s))) := HF2.out Z hZ.symm
  have HZ := Lib.hid hZ
  have C4 : Hid (∀ w, Calls Try.prog 66 #[.int .i64 (U.size : Int)] w (NewB w ZL)) := by
    show ∀ w, _
    rw [HRs.out]; exact c4
  have C3 := Lib.hid c3
  clear c3 c4 HF hLb hR hLa hsa hea hE hse HF2 hZ HRs hRl
  have hadd1 : EB.size + s.size ≤ 9223372036854775807 := by omega
  have hadd2 : X.size + T.size ≤ 9223372036854775807 := by omega
  have hadd3 : Z.size + U.size ≤ 9223372036854775807 := by omega
  go_enter Try.func63, Try.ntmps63
  go_wp2_with (go_at_call 48; refine (l1In_yes _ _ _ _ (by omega)).mono ?_; rintro e w' ⟨rfl, rfl⟩)
  refine (C1.out _).mono ?_
  rintro e w1 ⟨A1, a1, rfl, o1, b1⟩
  have hcv1 := OwnB.conv o1 he0
  rw [HEB.out] at hcv1
  obtain ⟨A2, c2, w2, hcv2, o2, hc2, b2⟩ := bytes_of w1 T
  have b12 : Below w.heap.size w w2 := b1.trans (b2.mono b1.size)
  go_wp2_with fail
  refine (C2.out _ _ _ _ (by rw [← HLn.out, strN_length]) (by rw [← HLn.out]; exact o2)).mono ?_
  rintro e w3 ⟨rfl, rfl⟩
  go_wp2_with fail
  refine (C3.out _).mono ?_
  rintro e w4 ⟨rfl, b4⟩
  have b14 : Below w.heap.size w w4 := b12.trans (b4.mono b12.size)
  clear hcv1 hcv2 b1 b2 b4 o2 o1 hc2
  go_wp2_with fail
  refine (C4.out _).mono ?_
  rintro e w5 ⟨A5, c5, rfl, o5, b5⟩
  have hcv5 := OwnB.conv o5 hZ0
  rw [HZ.out] at hcv5
  have R : Hid (Ending.returned (.string (Z ++ U)) = .returned (.string (strB (frameOf seq (strN s)))) ∧ Below w.heap.size w w5) := ⟨by rw [HFZ.out], b14.trans (b5.mono b14.size)⟩
  clear o5
  go_wp2
  go_ret
  exact R.out
set_option maxRecDepth 100000 in
theorem frameOf_spec (seq : Int) (s : ByteArray) (w : World) (hs : s.size ≤ 2097152) :
    Calls Try.prog 63 #[.int .i64 seq, .string s] w fun e w' => e = .returned (.string (strB (fOf seq (strN s)))) ∧ Below w.heap.size w w' := by
  by_cases h : 1 ≤ seq ∧ seq ≤ 1000000 ∧ 1 ≤ (strN s).length ∧ (strN s).length ≤ 60
  · unfold fOf
    rw [if_pos h]
    rw [strN_length] at h
    obtain ⟨m, rfl⟩ := Int.eq_ofNat_of_zero_le (show 0 ≤ seq by omega)
    rw [Int.toNat_natCast]
    exact frameOf_spec_in m s w (by omega) (by omega) (by omega) (by omega)
  · unfold fOf
    rw [if_neg h]
    rw [strN_length] at h
    have R : Hid (Ending.returned (.string ⟨#[]⟩) = .returned (.string (strB [])) ∧ Below w.heap.size w w) := ⟨rfl, Below.refl _ _⟩
    by_cases h1 : 1 ≤ seq ∧ seq ≤ 1000000
    · have h2 : ¬ (1 ≤ (s.size : Int) ∧ (s.size : Int) ≤ 60) := by omega
      go_enter Try.func63, Try.ntmps63
      go_wp2_with fail
      refine (l1In_yes _ _ _ _ h1).mono ?_
      rintro e w' ⟨rfl, rfl⟩
      go_wp2_with fail
      refine (l1In_no _ _ _ _ h2).mono ?_
      rintro e w' ⟨rfl, rfl⟩
      go_wp2
      go_ret
      exact R.out
    · go_enter Try.func63, Try.ntmps63
      go_wp2_with (go_at_call 48; refine (l1In_no _ _ _ _ h1).mono ?_; rintro e w' ⟨rfl, rfl⟩)
      go_ret
      exact R.out
end Go.Proofs.Ytcapioiigfldoaa
