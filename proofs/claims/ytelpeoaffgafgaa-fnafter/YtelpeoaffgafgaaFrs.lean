/- Frames, Whole, Torn, and the walks of their laws. -/
import Derived.Test.YtelpeoaffgafgaaRows
import Derived.Test.YtelpeoaffgafgaaFrMark
import Derived.WalkMore
import Derived.ScopeJumps
namespace Go.Proofs.Ytelpeoaffgafgaa
open Go.RowKit
set_option maxRecDepth 100000 in
theorem infoFr : (Try.prog.info? 38).map (fun i => (i.zero, i.size, i.bytes)) = some (some (.agg #[.int .i64 0, .string ⟨#[]⟩, .int .i64 0]), 3, 32) := by kernel_rfl
theorem frC_one (f : Fr) : ∀ u ∈ frC f, u.oneCell' = true := by
  intro u hu
  simp only [frC, List.mem_cons, List.not_mem_nil, or_false] at hu
  rcases hu with rfl | rfl | rfl <;> rfl
set_option maxRecDepth 100000 in
/-- append(v, f) of one frame. -/
theorem wpList_app1F (w : World) {ops : Array Oper} {rest : List Oper} {o : Oper} {a : Act} {Q : Exit → Act → World → Prop} (hgd : o.guard = none) (s x : Operand)
    (ho : o.op = .call { callee := .builtin .append, args := #[s, x], argTypes := #[33, 33] })
    (base : Nat) (v : Value) (p : List Fr) (hs : a.eval s = v) (hown : w.ownsRow base 38 3 v p.length (p.flatMap frC))
    (b : Nat) (f : Fr) (hx : a.eval x = .slice (some ⟨b, 0, none⟩) 1 1) (hq : w.cell? ⟨b, 0, none⟩ = some (.int .i64 f.seq) ∧ w.cell? ⟨b, 1, none⟩ = some (.string f.body) ∧ w.cell? ⟨b, 2, none⟩ = some (.int .i64 f.next))
    (hlen : p.length ≤ 1099511627776) (hbase : base ≤ w.heap.size)
    (h : ∀ v' w', w'.ownsRow base 38 3 v' (p ++ [f]).length ((p ++ [f]).flatMap frC) → w.grownBy w' v.ownBlock → wpList Try.prog ops Q rest (a.put o.dst v') w') :
    wpList Try.prog ops Q (o :: rest) a w := by
  obtain ⟨i0, hi, hz0, hz1, hz2⟩ := info_parts infoFr
  refine wpList_append_own_at (P := Try.prog) w hgd s x 33 ho base 38 i0 _ 3 32 Try.underlying33 hi hz0 hz1 hz2 rfl (by decide) v p.length (p.flatMap frC) hs hown
    ⟨b, 0, none⟩ 1 1 (frC f) hx rfl ?_ (frC_one f) (by unfold maxLen; omega) (by omega) hbase ?_
  · intro j u hj
    rw [add_at, Nat.zero_add]
    match j, hj with
    | 0, hj => simp [frC] at hj; subst hj; exact hq.1
    | 1, hj => simp [frC] at hj; subst hj; exact hq.2.1
    | 2, hj => simp [frC] at hj; subst hj; exact hq.2.2
    | j + 3, hj => simp [frC] at hj
  · intro v' w' h1 h2 _ h4
    exact h v' w' (by rw [List.flatMap_append, List.length_append]; simpa using h1) h2
theorem fAt_some {l : List Nat} {a seq sz : Nat} {b : List Nat} (h : fAt l (a : Int) = some (seq, b, sz)) : FrOk seq b ∧ frameOf seq b = (l.drop a).take sz ∧ sz = (frameOf seq b).length ∧ 0 < sz ∧ a + sz ≤ l.length := by
  unfold fAt at h
  split at h
  · rename_i h1
    rw [Int.toNat_natCast] at h
    obtain ⟨ok, e, hsz⟩ := specF_sound h
    have hle := frameOf_le ok
    have hl := frameOf_len ok
    have h2 : ((((l.drop a).take 80)).take sz).length = sz := by rw [← e, hsz]
    rw [List.length_take, List.length_take, List.length_drop] at h2
    refine ⟨ok, ?_, hsz, by omega, by omega⟩
    rw [e, List.take_take, Nat.min_eq_left (by omega)]
  · cases h
/-- The frames from a on, with fuel. -/
def frsF : Nat → List Nat → Nat → List Fr
  | 0, _, _ => []
  | n + 1, l, a => match fAt l (a : Int) with
    | none => []
    | some (seq, b, sz) => ⟨seq, strB b, ((a + sz : Nat) : Int)⟩ :: frsF n l (a + sz)
def framesOf (l : List Nat) : List Fr := frsF l.length l 0
theorem frsF_none {n a : Nat} {l : List Nat} (h : fAt l (a : Int) = none) : frsF n l a = [] := by
  cases n with
  | zero => rfl
  | succ n => simp only [frsF]; rw [h]
theorem frsF_some {n a seq sz : Nat} {l b : List Nat} (h : fAt l (a : Int) = some (seq, b, sz)) : frsF (n + 1) l a = ⟨seq, strB b, ((a + sz : Nat) : Int)⟩ :: frsF n l (a + sz) := by
  simp only [frsF]; rw [h]
/-- Where the loop of Frames stands: p is read, at a. -/
def FrAtt (l : List Nat) (p : List Fr) (a : Nat) : Prop := ∃ n, p ++ frsF n l a = framesOf l ∧ l.length ≤ a + n ∧ a ≤ l.length ∧ p.length ≤ a
theorem FrAtt.start (l : List Nat) : FrAtt l [] 0 := ⟨l.length, rfl, by omega, by omega, by simp⟩
theorem FrAtt.step {l : List Nat} {p : List Fr} {a seq sz : Nat} {b : List Nat} (h : FrAtt l p a) (hf : fAt l (a : Int) = some (seq, b, sz)) : FrAtt l (p ++ [⟨seq, strB b, ((a + sz : Nat) : Int)⟩]) (a + sz) := by
  obtain ⟨n, h1, h2, h3, h4⟩ := h
  obtain ⟨_, _, _, h5, h6⟩ := fAt_some hf
  cases n with
  | zero => omega
  | succ n =>
    refine ⟨n, ?_, by omega, by omega, by simp; omega⟩
    rw [← h1, frsF_some hf, List.append_assoc]; rfl
theorem FrAtt.stop {l : List Nat} {p : List Fr} {a : Nat} (h : FrAtt l p a) (hf : fAt l (a : Int) = none) : p = framesOf l := by
  obtain ⟨n, h1, _⟩ := h
  rw [← h1, frsF_none hf, List.append_nil]
theorem framesOf_len (l : List Nat) : (framesOf l).length ≤ l.length := by
  have key : ∀ n a, (frsF n l a).length ≤ n := by
    intro n
    induction n with
    | zero => intro a; simp [frsF]
    | succ n ih =>
      intro a
      simp only [frsF]
      split
      · simp
      · simp only [List.length_cons]; have := ih (a + ‹Nat›); omega
  exact key _ _
theorem own_not {w : World} {base e sz n B : Nat} {v : Value} {cs : List Value} (h : w.ownsRow base e sz v n cs) (hB : w.heap.size ≤ B) : v.ownBlock ≠ some B := by
  intro hv
  have := (World.ownsRow.lt h B hv).2
  omega
set_option maxRecDepth 100000 in
set_option maxHeartbeats 800000 in
theorem frames_impl (s : ByteArray) (w : World) (hs : s.size ≤ 2097152) : Calls Try.prog 16 #[.string s] w (NewR 38 3 w (framesOf (strN s)).length ((framesOf (strN s)).flatMap frC)) := by
  have hsl := strN_length s
  generalize hL : strN s = L at *
  have HL := Lib.hid hL
  clear hL
  go_enter Try.func16, Try.ntmps16
  go_wp2
  refine wp_scope_jumps 0 (fun a' w' => ∃ u0 u1 u2 u4 u5 u6 u7 u8 u9 u10 u11 u12 u13 u14 u15 u16 u17 u18 u19 u20 u21 v : Value, a' = { tmps := #[u0, u1, u2, v, u4, u5, u6, u7, u8, u9, u10, u11, u12, u13, u14, u15, u16, u17, u18, u19, u20, u21], defers := [] } ∧ NewR 38 3 w (framesOf L).length ((framesOf L).flatMap frC) (.returned v) w') (fun _ _ => 0) rfl ?_ ?_
  · go_wp2
    go_step3
    go_wp2
    go_loopw [3, 4] (fun v q wr => ∃ (p : List Fr) (a : Nat), q = .int .i64 a ∧ wr.ownsRow w.heap.size 38 3 v p.length (p.flatMap frC) ∧ FrAtt L p a ∧ Below w.heap.size w wr) (fun _ q _ => s.size - (intOf q).toNat)
    case atStart => exact ⟨[], 0, rfl, World.ownsRow_nil _ _ _ _, FrAtt.start _, Below.refl _ _⟩
    case round =>
      obtain ⟨p, a, rfl, hown, hatt, hb⟩ := hrel
      have c := frameAt_impl s (a : Int) wr hs
      rw [HL.out, Int.toNat_natCast] at c
      have hpl : p.length ≤ a ∧ a ≤ L.length := by obtain ⟨n, _, _, h3, h4⟩ := hatt; exact ⟨h4, h3⟩
      rcases hf : fAt L (a : Int) with _ | ⟨seq, b, sz⟩
      · rw [hf] at c
        have C : Hid (Calls Try.prog 23 #[.string s, .int .i64 (a : Int)] wr fun e w' => e = .returned (.tuple #[.agg #[.int .i64 0, .string ⟨#[]⟩, .int .i64 0], .bool false]) ∧ Below wr.heap.size wr w') := c
        have HE := Lib.hid (hatt.stop hf)
        clear hf hatt c
        go_wp2_with fail
        refine C.out.mono ?_
        rintro e w1 ⟨rfl, b1⟩
        have own1 := own_below hown b1
        have R := Lib.hid (NewR.of_own (World.ownsRow.alloc own1 (.cells #[.int .i64 0, .string ⟨#[]⟩, .int .i64 0] 38)) ((hb.trans (b1.mono hb.size)).alloc (hb.trans (b1.mono hb.size)).size _))
        rw [HE.out] at R
        clear own1 b1 hown hb
        go_wp2
        go_step3
        exact ⟨rfl, _, _, _, _, _, _, _, _, _, _, _, _, _, _, _, _, _, _, _, _, _, _, rfl, R.out⟩
      · obtain ⟨_, _, _, hsz, hal⟩ := fAt_some hf
        have HA := Lib.hid (hatt.step hf)
        rw [hf] at c
        obtain ⟨z, hz⟩ : ∃ z, z = a + sz := ⟨_, rfl⟩
        rw [← hz] at HA
        have C : Hid (Calls Try.prog 23 #[.string s, .int .i64 (a : Int)] wr fun e w' => e = .returned (.tuple #[.agg #[.int .i64 (seq : Int), .string (strB b), .int .i64 (z : Int)], .bool true]) ∧ Below wr.heap.size wr w') := by
          rw [hz]; exact c
        have hzl : a < z ∧ z ≤ L.length := by omega
        clear hf hatt c hz hal
        generalize strB b = bb at *
        go_wp2_with fail
        refine C.out.mono ?_
        rintro e w1 ⟨rfl, b1⟩
        have own1 := own_below hown b1
        have b2 : Below w.heap.size w w1 := hb.trans (b1.mono hb.size)
        have hbs := b2.size
        clear hown b1 hb
        go_wp2_with (at_builtin; refine wpList_app1F _ rfl (.tmp 15) (.tmp 17) rfl w.heap.size _ p rfl (World.ownsRow.alloc (World.ownsRow.alloc own1 _) _) (w1.heap.size + 1) ⟨seq, bb, z⟩ rfl (by simp [go_sem]) (by omega) (by simp; omega) ?_)
        intro v' w2 o2 g2
        have n2 : w2.cell? ⟨w1.heap.size, 2, none⟩ = some (.int .i64 (z : Int)) := World.grownBy.cell g2 (by simp [go_sem]) (fun e => own_not own1 (Nat.le_refl _) e.symm)
        have b3 : Hid (Below w.heap.size w w2) := ((b2.alloc hbs _).alloc (by simp; omega) _).grown g2 (by simp; omega) (own_low own1)
        have O2 : Hid (w2.ownsRow w.heap.size 38 3 v' (p ++ [(⟨seq, bb, z⟩ : Fr)]).length ((p ++ [(⟨seq, bb, z⟩ : Fr)]).flatMap frC)) := by
          show World.ownsRow _ _ _ _ _ _ _
          rw [List.flatMap_append, List.length_append]; simpa using o2
        clear g2 own1 o2 b2
        go_wp2
        go_roundw
        case rel => exact ⟨_, z, rfl, O2.out, HA.out, b3.out⟩
        case measure => simp [intOf]; omega
  · rintro a' w' ⟨u0, u1, u2, u4, u5, u6, u7, u8, u9, u10, u11, u12, u13, u14, u15, u16, u17, u18, u19, u20, u21, v, rfl, R⟩
    have R' := Lib.hid R
    clear R
    go_wp2
    simp only [Exit.jump]
    go_ret
    exact R'.out
set_option maxRecDepth 100000 in
set_option maxHeartbeats 800000 in
theorem frames_spec (s : ByteArray) (w : World) (hs : s.size ≤ 2097152) : Calls Try.prog 25 #[.string s] w (NewR 38 3 w (framesOf (strN s)).length ((framesOf (strN s)).flatMap frC)) := by
  have hsl := strN_length s
  generalize hL : strN s = L at *
  have HL := Lib.hid hL
  clear hL
  go_enter Try.func25, Try.ntmps25
  go_wp2
  go_loopw [3, 4] (fun v q wr => ∃ (p : List Fr) (a : Nat), q = .int .i64 a ∧ wr.ownsRow w.heap.size 38 3 v p.length (p.flatMap frC) ∧ FrAtt L p a ∧ Below w.heap.size w wr) (fun _ q _ => s.size - (intOf q).toNat)
  case atStart => exact ⟨[], 0, rfl, own_empty _ _ _ _ (Nat.le_refl _), FrAtt.start _, (Below.refl _ _).alloc (Nat.le_refl _) _⟩
  case round =>
    obtain ⟨p, a, rfl, hown, hatt, hb⟩ := hrel
    have c := frameAt_spec s (a : Int) wr hs
    rw [HL.out, Int.toNat_natCast] at c
    have hpl : p.length ≤ a ∧ a ≤ L.length := by obtain ⟨n, _, _, h3, h4⟩ := hatt; exact ⟨h4, h3⟩
    rcases hf : fAt L (a : Int) with _ | ⟨seq, b, sz⟩
    · rw [hf] at c
      have C : Hid (Calls Try.prog 22 #[.string s, .int .i64 (a : Int)] wr fun e w' => e = .returned (.tuple #[.agg #[.int .i64 0, .string ⟨#[]⟩, .int .i64 0], .bool false]) ∧ Below wr.heap.size wr w') := c
      have HE := Lib.hid (hatt.stop hf)
      clear hf hatt c
      go_wp2_with fail
      refine C.out.mono ?_
      rintro e w1 ⟨rfl, b1⟩
      have own1 := own_below hown b1
      have R := Lib.hid (NewR.of_own (World.ownsRow.alloc own1 (.cells #[.int .i64 0, .string ⟨#[]⟩, .int .i64 0] 38)) ((hb.trans (b1.mono hb.size)).alloc (hb.trans (b1.mono hb.size)).size _))
      rw [HE.out] at R
      clear own1 b1 hown hb
      go_wp2
      go_ret
      exact R.out
    · obtain ⟨_, _, _, hsz, hal⟩ := fAt_some hf
      have HA := Lib.hid (hatt.step hf)
      rw [hf] at c
      obtain ⟨z, hz⟩ : ∃ z, z = a + sz := ⟨_, rfl⟩
      rw [← hz] at HA
      have C : Hid (Calls Try.prog 22 #[.string s, .int .i64 (a : Int)] wr fun e w' => e = .returned (.tuple #[.agg #[.int .i64 (seq : Int), .string (strB b), .int .i64 (z : Int)], .bool true]) ∧ Below wr.heap.size wr w') := by
        rw [hz]; exact c
      have hzl : a < z ∧ z ≤ L.length := by omega
      clear hf hatt c hz hal
      generalize strB b = bb at *
      go_wp2_with fail
      refine C.out.mono ?_
      rintro e w1 ⟨rfl, b1⟩
      have own1 := own_below hown b1
      have b2 : Below w.heap.size w w1 := hb.trans (b1.mono hb.size)
      have hbs := b2.size
      clear hown b1 hb
      go_wp2_with (at_builtin; refine wpList_app1F _ rfl (.tmp 17) (.tmp 19) rfl w.heap.size _ p rfl (World.ownsRow.alloc (World.ownsRow.alloc own1 _) _) (w1.heap.size + 1) ⟨seq, bb, z⟩ rfl (by simp [go_sem]) (by omega) (by simp; omega) ?_)
      intro v' w2 o2 g2
      have n2 : w2.cell? ⟨w1.heap.size, 2, none⟩ = some (.int .i64 (z : Int)) := World.grownBy.cell g2 (by simp [go_sem]) (fun e => own_not own1 (Nat.le_refl _) e.symm)
      have b3 : Hid (Below w.heap.size w w2) := ((b2.alloc hbs _).alloc (by simp; omega) _).grown g2 (by simp; omega) (own_low own1)
      have O2 : Hid (w2.ownsRow w.heap.size 38 3 v' (p ++ [(⟨seq, bb, z⟩ : Fr)]).length ((p ++ [(⟨seq, bb, z⟩ : Fr)]).flatMap frC)) := by
        show World.ownsRow _ _ _ _ _ _ _
        rw [List.flatMap_append, List.length_append]; simpa using o2
      clear g2 own1 o2 b2
      go_wp2
      go_roundw
      case rel => exact ⟨_, z, rfl, O2.out, HA.out, b3.out⟩
      case measure => simp [intOf]; omega
/-- What Whole returns. -/
def wholeOf (l : List Nat) : Int := if (framesOf l).length = 0 then 0 else ((framesOf l).getD ((framesOf l).length - 1) fr0).next
set_option maxRecDepth 100000 in
theorem whole_any (F G : Nat) (hF : F = 17 ∧ G = 16 ∨ F = 29 ∧ G = 25) (s : ByteArray) (w : World) (hs : s.size ≤ 2097152) :
    Calls Try.prog F #[.string s] w fun e w' => e = .returned (.int .i64 (wholeOf (strN s))) ∧ Below w.heap.size w w' := by
  have c : ∀ w, Calls Try.prog G #[.string s] w (NewR 38 3 w (framesOf (strN s)).length ((framesOf (strN s)).flatMap frC)) := by
    rcases hF with ⟨_, rfl⟩ | ⟨_, rfl⟩
    · exact fun w => frames_impl s w hs
    · exact fun w => frames_spec s w hs
  have hl := framesOf_len (strN s)
  rw [strN_length] at hl
  have HW : Hid (wholeOf (strN s) = if (framesOf (strN s)).length = 0 then 0 else ((framesOf (strN s)).getD ((framesOf (strN s)).length - 1) fr0).next) := rfl
  generalize wholeOf (strN s) = W at *
  generalize framesOf (strN s) = fs at *
  have C := Lib.hid c
  clear c
  by_cases h0 : fs.length = 0
  · have HW0 : Hid (W = 0) := by show W = 0; rw [HW.out, if_pos h0]
    rw [h0] at C
    clear h0 HW
    rcases hF with ⟨rfl, rfl⟩ | ⟨rfl, rfl⟩
    · go_enter Try.func17, Try.ntmps17
      go_wp2_with fail
      refine (C.out _).mono ?_
      rintro e w1 ⟨A1, a1, rfl, o1, b1⟩
      go_wp2
      go_ret
      exact ⟨ret_int HW0.out.symm, b1⟩
    · go_enter Try.func29, Try.ntmps29
      go_wp2_with fail
      refine (C.out _).mono ?_
      rintro e w1 ⟨A1, a1, rfl, o1, b1⟩
      go_wp2
      go_ret
      exact ⟨ret_int HW0.out.symm, b1⟩
  · obtain ⟨m, hm⟩ : ∃ m, fs.length = m + 1 := ⟨fs.length - 1, by omega⟩
    have HW0 : Hid (W = (fs.getD m fr0).next) := by show W = _; rw [HW.out, if_neg h0, hm]; rfl
    rw [hm] at C hl
    have HM := Lib.hid hm
    clear h0 HW hm
    have hn0 : (((m : Int) + 1) == 0) = false := by simp; omega
    rcases hF with ⟨rfl, rfl⟩ | ⟨rfl, rfl⟩
    · go_enter Try.func17, Try.ntmps17
      go_wp2_with fail
      refine (C.out _).mono ?_
      rintro e w1 ⟨A1, a1, rfl, o1, b1⟩
      obtain ⟨b, off, rfl, hbB, c0, c1, c2⟩ := (own_rws o1).fr (i := m) (by rw [HM.out]; omega)
      generalize fs.getD m fr0 = x at *
      go_wp2
      go_ret
      exact ⟨ret_int HW0.out.symm, b1⟩
    · go_enter Try.func29, Try.ntmps29
      go_wp2_with fail
      refine (C.out _).mono ?_
      rintro e w1 ⟨A1, a1, rfl, o1, b1⟩
      obtain ⟨b, off, rfl, hbB, c0, c1, c2⟩ := (own_rws o1).fr (i := m) (by rw [HM.out]; omega)
      generalize fs.getD m fr0 = x at *
      go_wp2
      go_ret
      exact ⟨ret_int HW0.out.symm, b1⟩
set_option maxRecDepth 100000 in
theorem whole_impl (s : ByteArray) (w : World) (hs : s.size ≤ 2097152) : Calls Try.prog 17 #[.string s] w fun e w' => e = .returned (.int .i64 (wholeOf (strN s))) ∧ Below w.heap.size w w' := whole_any _ _ (.inl ⟨rfl, rfl⟩) s w hs
set_option maxRecDepth 100000 in
theorem whole_spec (s : ByteArray) (w : World) (hs : s.size ≤ 2097152) : Calls Try.prog 29 #[.string s] w fun e w' => e = .returned (.int .i64 (wholeOf (strN s))) ∧ Below w.heap.size w w' := whole_any _ _ (.inr ⟨rfl, rfl⟩) s w hs
set_option maxRecDepth 100000 in
theorem torn_impl (s : ByteArray) (w : World) (hs : s.size ≤ 2097152) : Calls Try.prog 18 #[.string s] w fun e w' => e = .returned (.bool (decide (wholeOf (strN s) < s.size))) ∧ Below w.heap.size w w' := by
  have C := Lib.hid (fun w => whole_impl s w hs)
  generalize wholeOf (strN s) = W at *
  go_enter Try.func18, Try.ntmps18
  go_wp2_with fail
  refine (C.out _).mono ?_
  rintro e w1 ⟨rfl, b1⟩
  go_wp2
  go_ret
  exact ⟨rfl, b1⟩
set_option maxRecDepth 100000 in
theorem torn_spec (s : ByteArray) (w : World) (hs : s.size ≤ 2097152) : Calls Try.prog 30 #[.string s] w fun e w' => e = .returned (.bool (decide (wholeOf (strN s) < s.size))) ∧ Below w.heap.size w w' := by
  have C := Lib.hid (fun w => whole_spec s w hs)
  generalize wholeOf (strN s) = W at *
  go_enter Try.func30, Try.ntmps30
  go_wp2_with fail
  refine (C.out _).mono ?_
  rintro e w1 ⟨rfl, b1⟩
  go_wp2
  go_ret
  exact ⟨rfl, b1⟩
set_option maxRecDepth 100000 in
theorem FnExactWhole_walk (s : ByteArray) (w : World) (hm : s.size ≤ maxLen) :
    Calls Try.prog 8 #[.string s] w fun e w' => e = .returned (.bool true) ∧ Below w.heap.size w w' := by
  unfold maxLen at hm
  by_cases hbig : 1048576 < s.size
  · go_enter Try.func8, Try.ntmps8
    go_wp2
    go_ret
    exact ⟨rfl, Below.refl _ _⟩
  have C1 := Lib.hid (fun w => whole_spec s w (by omega))
  have C2 := Lib.hid (fun w => whole_impl s w (by omega))
  generalize wholeOf (strN s) = W at *
  have hne : (W != W) = false := by simp
  go_enter Try.func8, Try.ntmps8
  go_wp2_with fail
  refine (C1.out _).mono ?_
  rintro e w1 ⟨rfl, b1⟩
  go_wp2_with fail
  refine (C2.out _).mono ?_
  rintro e w2 ⟨rfl, b2⟩
  go_wp2
  go_ret
  exact ⟨rfl, b1.trans (b2.mono b1.size)⟩
set_option maxRecDepth 100000 in
theorem FnExactTorn_walk (s : ByteArray) (w : World) (hm : s.size ≤ maxLen) :
    Calls Try.prog 9 #[.string s] w fun e w' => e = .returned (.bool true) ∧ Below w.heap.size w w' := by
  unfold maxLen at hm
  by_cases hbig : 1048576 < s.size
  · go_enter Try.func9, Try.ntmps9
    go_wp2
    go_ret
    exact ⟨rfl, Below.refl _ _⟩
  have C1 := Lib.hid (fun w => torn_spec s w (by omega))
  have C2 := Lib.hid (fun w => torn_impl s w (by omega))
  generalize decide (wholeOf (strN s) < s.size) = W at *
  have hne : (W != W) = false := by simp
  go_enter Try.func9, Try.ntmps9
  go_wp2_with fail
  refine (C1.out _).mono ?_
  rintro e w1 ⟨rfl, b1⟩
  go_wp2_with fail
  refine (C2.out _).mono ?_
  rintro e w2 ⟨rfl, b2⟩
  go_wp2
  go_ret
  exact ⟨rfl, b1.trans (b2.mono b1.size)⟩
set_option maxRecDepth 100000 in
set_option maxHeartbeats 400000 in
theorem FnExactFrames_walk (s : ByteArray) (w : World) (hm : s.size ≤ maxLen) :
    Calls Try.prog 7 #[.string s] w fun e w' => e = .returned (.bool true) ∧ Below w.heap.size w w' := by
  unfold maxLen at hm
  by_cases hbig : 1048576 < s.size
  · go_enter Try.func7, Try.ntmps7
    go_wp2
    go_ret
    exact ⟨rfl, Below.refl _ _⟩
  have hl := framesOf_len (strN s)
  rw [strN_length] at hl
  have c1 := fun w => frames_spec s w (by omega)
  have c2 := fun w => frames_impl s w (by omega)
  generalize framesOf (strN s) = l at hl c1 c2
  have hle : l.length ≤ 2097152 := by omega
  have C1 := Lib.hid c1
  have C2 := Lib.hid c2
  clear c1 c2
  have hq1 : decide (((1 + l.length * 3 : Nat) : Int) < 0) = false := by simp; omega
  have hq2 : (((1 + l.length * 3 : Nat) : Int) != ((1 + l.length * 3 : Nat) : Int)) = false := by simp
  generalize hqq : 1 + l.length * 3 = qq at hq1 hq2
  have HQ := Lib.hid hqq
  clear hqq
  go_enter Try.func7, Try.ntmps7
  go_wp2_with fail
  refine (C1.out _).mono ?_
  rintro e w1 ⟨A1, a1, rfl, o1, b1⟩
  go_wp2_with fail
  refine (C2.out _).mono ?_
  rintro e w2 ⟨A2, a2, rfl, o2, b2⟩
  go_wp2_with fail
  refine (eqFrS_same A2 A1 l a2 a1 _ hle (own_rws o2) (own_rws (own_below o1 b2))).mono ?_
  rintro e w2' ⟨rfl, b2'⟩
  have o2' := own_below o2 b2'
  have b22 : Below w1.heap.size w1 w2' := b2.trans (b2'.mono b2.size)
  go_wp2_with fail
  refine (markFrS_any A2 l 1 a2 _ _ hle (by omega) o2').mono ?_
  rintro e w3 ⟨rfl, o3, g3⟩
  rw [HQ.out]
  have b3 : Below w1.heap.size w1 w3 := b22.grown g3 b22.size (own_low o2)
  go_wp2_with fail
  refine (heldFrS_any A2 1 l.length a2 _ (by omega) (by omega) (own_rws o3)).mono ?_
  rintro e w5 ⟨rfl, b5⟩
  rw [HQ.out]
  have o5 := own_below o3 b5
  have b5' : Below w1.heap.size w1 w5 := b3.trans (b5.mono b3.size)
  go_wp2_with fail
  refine (C2.out _).mono ?_
  rintro e w4 ⟨A4, a4, rfl, o4, b4⟩
  have b4' : Below w1.heap.size w1 w4 := b5'.trans (b4.mono b5'.size)
  go_wp2_with fail
  refine (eqFrS_same A4 A1 l a4 a1 _ hle (own_rws o4) (own_rws (own_below o1 b4'))).mono ?_
  rintro e w6 ⟨rfl, b6⟩
  have b46 : Below w5.heap.size w5 w6 := b4.trans (b6.mono b4.size)
  go_wp2_with fail
  refine (heldFrS_any A2 1 l.length a2 _ (by omega) (by omega) (own_rws (own_below o5 b46))).mono ?_
  rintro e w7 ⟨rfl, b7⟩
  rw [HQ.out]
  have bf : Below w.heap.size w w6 := b1.trans ((b5'.trans (b46.mono b5'.size)).mono b1.size)
  go_wp2
  go_ret
  exact ⟨rfl, bf.trans (b7.mono bf.size)⟩
end Go.Proofs.Ytelpeoaffgafgaa
