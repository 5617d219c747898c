/- Decoding lemmas, strings and marks. -/
import Derived.Test.YtcapioiigfldoaaRows
import Derived.Test.YtcapioiigfldoaaCur
namespace Go.Proofs.Ytcapioiigfldoaa
open Go.RowKit
set_option linter.unusedSimpArgs false
set_option linter.unusedVariables false
/-- A varint that was written is read, whatever stands behind it. -/
theorem getF_encF (f k a n : Nat) (rest : List Nat) (hn : n < 128 ^ (f + 1)) (hk : k = 0 ∨ n ≠ 0) (hle : a + n * 128 ^ k ≤ 2147483647) :
    getF (f + 1) k a (encF f n ++ rest) = some (a + n * 128 ^ k, k + (encF f n).length) := by
  induction f generalizing k a n with
  | zero =>
    simp at hn
    simp only [encF, List.cons_append, List.nil_append, getF]
    rw [if_neg (by omega), if_neg (by omega)]
    simp
  | succ f ih =>
    by_cases h : n < 128
    · rw [encF_small _ _ h]
      simp only [List.cons_append, List.nil_append, getF]
      rw [if_neg (by omega), if_neg (by omega)]
      simp
    · rw [encF_step f n (by omega)]
      have hd : n / 128 * 128 + n % 128 = n := Nat.div_add_mod' n 128
      have hval : a + (n % 128 + 128) % 128 * 128 ^ k + n / 128 * 128 ^ (k + 1) = a + n * 128 ^ k := by
        have e1 : (n % 128 + 128) % 128 = n % 128 := by omega
        rw [e1, Nat.pow_succ, Nat.add_assoc]
        congr 1
        have e2 : n / 128 * (128 ^ k * 128) = n / 128 * 128 * 128 ^ k := by rw [Nat.mul_comm (128 ^ k) 128, Nat.mul_assoc]
        rw [e2, ← Nat.add_mul, Nat.add_comm (n % 128), hd]
      have h1 : n / 128 < 128 ^ (f + 1) := by rw [Nat.div_lt_iff_lt_mul (by omega)]; rw [Nat.pow_succ] at hn; exact hn
      have := ih (k + 1) (a + (n % 128 + 128) % 128 * 128 ^ k) (n / 128) h1 (.inr (by omega)) (by rw [hval]; exact hle)
      simp only [List.cons_append]
      rw [getF, if_pos (by omega), this, hval, List.length_cons]
      congr 2
      omega
theorem getN_encN (p rest : List Nat) (n : Nat) (hn : n ≤ 2147483647) : getN (p ++ (encN n ++ rest)) (p.length : Int) = some (n, (encN n).length) := by
  unfold getN
  rw [if_neg (by omega), Int.toNat_natCast, List.drop_left]
  have := getF_encF 4 0 0 n rest (by omega) (.inl rfl) (by omega)
  simpa [encN] using this
theorem strB_strN (s : ByteArray) : strB (strN s) = s := by
  unfold strB strN strOfNums
  rw [List.map_map, List.map_map]
  have e : s.data.toList.map ((fun n : Int => UInt8.ofNat n.toNat) ∘ (fun b : Nat => (b : Int)) ∘ UInt8.toNat) = s.data.toList := by
    have h : ((fun n : Int => UInt8.ofNat n.toNat) ∘ (fun b : Nat => (b : Int)) ∘ UInt8.toNat) = id := by
      funext b; simp
    rw [h, List.map_id]
  exact congrArg (fun x : List UInt8 => (⟨x.toArray⟩ : ByteArray)) e
theorem getT_put (p : List Nat) (s : ByteArray) (hs : s.size < 128) :
    getT (p ++ (encI s.size ++ strN s)) (p.length : Int) = some (strN s, (p ++ (encI s.size ++ strN s)).length) := by
  have he : encI s.size = encN s.size := by unfold encI; rw [if_pos (by omega), Int.toNat_natCast]
  rw [he]
  have hg := getN_encN p (strN s) s.size (by omega)
  have h1 : encN s.size = [s.size] := encF_small 4 _ hs
  have hl := strN_length s
  have hlen : (p ++ (encN s.size ++ strN s)).length = p.length + 1 + s.size := by
    rw [h1]; simp only [List.length_append, List.length_cons, List.length_nil]; omega
  rw [h1] at hg hlen ⊢
  have := getT_yes hg (by rw [hlen]; simp)
  rw [this, hlen]
  have hd : (p ++ ([s.size] ++ strN s)).drop ((p.length : Int).toNat + [s.size].length) = strN s := by
    rw [Int.toNat_natCast, ← List.append_assoc]
    exact List.drop_left' (by simp)
  rw [hd, ← hl, List.take_length]
  congr 2
theorem encF_all (f n : Nat) (hn : n < 128 ^ (f + 1)) : AllB (encF f n) := by
  induction f generalizing n with
  | zero => intro b hb; simp [encF] at hb; simp at hn; omega
  | succ f ih =>
    by_cases h : n < 128
    · rw [encF_small _ _ h]; intro b hb; simp at hb; omega
    · rw [encF_step f n (by omega)]
      intro b hb
      rcases List.mem_cons.1 hb with rfl | hb
      · omega
      · exact ih (n / 128) (by rw [Nat.div_lt_iff_lt_mul (by omega)]; rw [Nat.pow_succ] at hn; exact hn) b hb
theorem encI_all (n : Int) : AllB (encI n) := by
  unfold encI
  split
  · exact encF_all 4 _ (by omega)
  · intro b hb; simp at hb
theorem AllB.append {a b : List Nat} (ha : AllB a) (hb : AllB b) : AllB (a ++ b) := by
  intro x hx
  rcases List.mem_append.1 hx with h | h
  · exact ha x h
  · exact hb x h
theorem OwnB.nil {w : World} {base n c : Nat} {A : Option Addr} {l : List Nat} (h : OwnB w base (.slice A n c) l) : A = none → c = 0 := by
  rintro rfl
  rcases h.2 with ⟨hv, hn⟩ | ⟨g, cap, cur, hv, _⟩
  · injection hv with _ _ h3
  · injection hv with h1; cases h1
/-- A product of two small numbers, under one name. -/
theorem mul_small (x y a b : Nat) (hx : x < a) (hy : y < b) : ∃ p : Nat, (x : Int) * (y : Int) = (p : Int) ∧ p < a * b :=
  ⟨x * y, by push_cast; rfl, Nat.mul_lt_mul_of_lt_of_lt hx hy⟩
theorem strB_size (l : List Nat) : (strB l).size = l.length := by unfold strB; rw [strOfNums_size, List.length_map]
/-- The digits that markText lays. -/
def mfin : Nat → Nat → ByteArray → ByteArray
  | 0, _, S => S
  | f + 1, n, S => if n = 0 then S else mfin f (n / 10) (strB [48 + n % 10] ++ S)
def markT (k : Nat) : ByteArray := if k = 0 then ⟨#[109, 48]⟩ else ⟨#[109]⟩ ++ mfin 20 k ⟨#[]⟩
theorem mfin_zero (f : Nat) (S : ByteArray) : mfin f 0 S = S := by cases f <;> simp [mfin]
theorem mfin_step (f n : Nat) (S : ByteArray) (h : 0 < n) : mfin (f + 1) n S = mfin f (n / 10) (strB [48 + n % 10] ++ S) := by simp only [mfin]; rw [if_neg (by omega)]
def Marked (w : World) (s : ByteArray) (e : Ending) (w' : World) : Prop := e = .returned (.string s) ∧ Below w.heap.size w w'
/-- The cells of a row of strings. -/
def scells (l : List ByteArray) : List Value := l.map Value.string
theorem scells_length (l : List ByteArray) : (scells l).length = l.length := by simp [scells]
theorem scells_append (a b : List ByteArray) : scells (a ++ b) = scells a ++ scells b := by simp [scells]
theorem scells_get (l : List ByteArray) (k : Nat) (h : k < l.length) : (scells l)[k]? = some (.string (l.getD k ByteArray.empty)) := by simp [scells, h]
theorem scells_one (l : List ByteArray) : ∀ u ∈ scells l, u.oneCell' = true := by
  intro u hu
  simp only [scells, List.mem_map] at hu
  obtain ⟨b, _, rfl⟩ := hu
  rfl
/-- The slice at A reads as the strings l, and lies below block B. -/
def Sts (w : World) (B : Nat) (A : Option Addr) (l : List ByteArray) : Prop :=
  l = [] ∨ ∃ b off, A = some ⟨b, off, none⟩ ∧ b < B ∧ ∀ k, k < l.length → w.cell? ⟨b, off + k, none⟩ = some (.string (l.getD k ByteArray.empty))
theorem Sts.at_ {w : World} {B : Nat} {A : Option Addr} {l : List ByteArray} (h : Sts w B A l) {k : Nat} (hk : k < l.length) :
    ∃ b off, A = some ⟨b, off, none⟩ ∧ b < B ∧ w.cell? ⟨b, off + k, none⟩ = some (.string (l.getD k ByteArray.empty)) := by
  rcases h with rfl | ⟨b, off, e, hb, hc⟩
  · simp at hk
  · exact ⟨b, off, e, hb, hc k hk⟩
theorem Sts.below {w w' : World} {B : Nat} {A : Option Addr} {l : List ByteArray} (h : Sts w B A l) (hb : Below B w w') : Sts w' B A l := by
  rcases h with h | ⟨b, off, e, hlt, hc⟩
  · exact .inl h
  · exact .inr ⟨b, off, e, hlt, fun k hk => (hb.cell (by exact hlt)).trans (hc k hk)⟩
theorem Sts.more {w : World} {B B' : Nat} {A : Option Addr} {l : List ByteArray} (h : Sts w B A l) (hB : B ≤ B') : Sts w B' A l := by
  rcases h with h | ⟨b, off, e, hlt, hc⟩
  · exact .inl h
  · exact .inr ⟨b, off, e, by omega, hc⟩
def OwnS (w : World) (base : Nat) (v : Value) (l : List ByteArray) : Prop := w.ownsRow base 9 1 v l.length (scells l)
theorem OwnS.form {w : World} {base : Nat} {v : Value} {l : List ByteArray} (h : OwnS w base v l) :
    ∃ A cap, v = .slice A l.length cap ∧ Sts w w.heap.size A l ∧ (l ≠ [] → ∃ g, A = some ⟨g, 0, none⟩ ∧ base ≤ g) := by
  rcases h.2 with ⟨rfl, hn⟩ | ⟨g, cap, cur, rfl, hb, hg, hnc, hm, hs, ht⟩
  · have : l = [] := List.eq_nil_of_length_eq_zero hn
    subst this
    exact ⟨none, 0, rfl, .inl rfl, fun h => absurd rfl h⟩
  · refine ⟨_, cap, rfl, .inr ⟨g, 0, rfl, (Array.getElem?_eq_some_iff.1 hg).1, fun k hk => ?_⟩, fun _ => ⟨g, rfl, hb⟩⟩
    have := World.ownsRow.cellAt (g := g) (cap := cap) h k (by omega)
    rw [Nat.zero_add, this, scells_get l k hk]
theorem OwnS.below {w w' : World} {base : Nat} {v : Value} {l : List ByteArray} (h : OwnS w base v l) (hb : Below w.heap.size w w') : OwnS w' base v l := by
  refine ⟨h.1, ?_⟩
  rcases h.2 with h2 | ⟨g, cap, cur, hv, hg, hh, r⟩
  · exact .inl h2
  · exact .inr ⟨g, cap, cur, hv, hg, by rw [hb.block g (Array.getElem?_eq_some_iff.1 hh).1]; exact hh, r⟩
theorem OwnS.drewN {w : World} {base : Nat} {v : Value} {l : List ByteArray} (h : OwnS w base v l) (n : Nat) : OwnS (w.drewN n) base v l := h
theorem OwnS.sts {w : World} {base n : Nat} {A : Option Addr} {c : Nat} {l : List ByteArray} (h : OwnS w base (.slice A n c) l) : Sts w w.heap.size A l := by
  obtain ⟨A', c', he, hb, _⟩ := OwnS.form h
  injection he with h1 _ _
  rw [h1]; exact hb
theorem owns_lo {w : World} {base : Nat} {v : Value} {l : List ByteArray} (h : OwnS w base v l) : ∀ k, v.ownBlock = some k → base ≤ k := fun k hk => (World.ownsRow.lt h k hk).1
def NewS (w : World) (l : List ByteArray) (e : Ending) (w' : World) : Prop :=
  ∃ A c, e = .returned (.slice A l.length c) ∧ OwnS w' w.heap.size (.slice A l.length c) l ∧ Below w.heap.size w w'
theorem NewS.of_own {w w' : World} {l : List ByteArray} {v : Value} (h : OwnS w' w.heap.size v l) (hb : Below w.heap.size w w') : NewS w l (.returned v) w' := by
  obtain ⟨A, c, rfl, _, _⟩ := OwnS.form h
  exact ⟨A, c, rfl, h, hb⟩
set_option maxRecDepth 100000 in
theorem info9 : (Try.prog.info? 9).map (fun i => (i.zero, i.size, i.bytes)) = some (some (.string ⟨#[]⟩), 1, 16) := by kernel_rfl
set_option maxRecDepth 100000 in
/-- append(v, s) of one string. -/
theorem wpList_app1S (w : World) {ops : Array Oper} {rest : List Oper} {o : Oper} {a : Act} {Q : Exit → Act → World → Prop} (hgd : o.guard = none) (s x : Operand)
    (ho : o.op = .call { callee := .builtin .append, args := #[s, x], argTypes := #[81, 81] })
    (base : Nat) (v : Value) (p : List ByteArray) (hs : a.eval s = v) (hown : OwnS w base v p)
    (b : Nat) (t : ByteArray) (hx : a.eval x = .slice (some ⟨b, 0, none⟩) 1 1) (hq : w.cell? ⟨b, 0, none⟩ = some (.string t))
    (hlen : p.length ≤ 1099511627776) (hbase : base ≤ w.heap.size)
    (h : ∀ v' w', OwnS w' base v' (p ++ [t]) → w.grownBy w' v.ownBlock → wpList Try.prog ops Q rest (a.put o.dst v') w') :
    wpList Try.prog ops Q (o :: rest) a w := by
  obtain ⟨i0, hi, hz0, hz1, hz2⟩ := info_parts info9
  refine wpList_append_own_at (P := Try.prog) w hgd s x 81 ho base 9 i0 (.string ⟨#[]⟩) 1 16 Try.underlying81 hi hz0 hz1 hz2 rfl (by decide) v p.length (scells p) hs hown
    ⟨b, 0, none⟩ 1 1 (scells [t]) hx (by simp [scells_length]) ?_ (scells_one _) (by unfold maxLen; omega) (by omega) hbase ?_
  · intro j u hj
    match j, hj with
    | 0, hj =>
      simp [scells] at hj
      subst hj
      rw [add_at]; exact hq
    | j + 1, hj => simp [scells] at hj
  · intro v' w' h1 h2 _ h4
    exact h v' w' (by unfold OwnS; rw [List.length_append, scells_append]; exact h1) h2
/-- n marks from k on. -/
def marksS (k n : Nat) : List ByteArray := (List.range n).map fun i => markT (k + i)
theorem marksS_length (k n : Nat) : (marksS k n).length = n := by simp [marksS]
theorem marksS_getD (k n i : Nat) (h : i < n) : (marksS k n).getD i ByteArray.empty = markT (k + i) := by simp [marksS, h]
def markedS (l : List ByteArray) (k j : Nat) : List Value := scells (marksS k j) ++ (scells l).drop j
theorem markedS_zero (l : List ByteArray) (k : Nat) : markedS l k 0 = scells l := by simp [markedS, marksS, scells]
theorem markedS_all (l : List ByteArray) (k : Nat) : markedS l k l.length = scells (marksS k l.length) := by
  unfold markedS; rw [List.drop_of_length_le (by rw [scells_length]; omega), List.append_nil]
theorem markedS_set (l : List ByteArray) (k j : Nat) (hj : j < l.length) : (markedS l k j).set j (.string (markT (k + j))) = markedS l k (j + 1) := by
  unfold markedS
  have hlen : (scells (marksS k j)).length = j := by rw [scells_length, marksS_length]
  rw [List.set_append_right _ _ (by omega), hlen, Nat.sub_self]
  have hd : (scells l).drop j = (scells l)[j]'(by rw [scells_length]; exact hj) :: (scells l).drop (j + 1) := List.drop_eq_getElem_cons _
  rw [hd, List.set_cons_zero]
  have hm : marksS k (j + 1) = marksS k j ++ [markT (k + j)] := by simp [marksS, List.range_succ]
  rw [hm, scells_append, List.append_assoc]
  rfl
def GotInt (w : World) (g : Nat) (A : Option Addr) (l : List Nat) (c : Nat) (xs : List Int) (e : Ending) (w' : World) : Prop :=
  ∃ n ∈ xs, e = .returned (.int .i64 n) ∧ Cur w' g A l c ∧ w.grownBy w' (some g)
set_option maxRecDepth 100000 in
set_option maxHeartbeats 400000 in
theorem l1PickInt_any (A : Option Addr) (l : List Nat) (c g : Nat) (xs : List Int) (p m c' : Nat) (w : World) (hl : l.length ≤ 2097152) (hb : AllB l) (hc : Cur w g A l c)
    (hm : m = xs.length) (h0 : 0 < xs.length) (h1 : xs.length ≤ 256) (hp : p ≠ g) (hx : ∀ k, k < xs.length → w.cell? ⟨p, k, none⟩ = some (.int .i64 (xs.getD k 0))) :
    Calls Try.prog 54 #[.pointer (some ⟨g, 0, none⟩), .slice (some ⟨p, 0, none⟩) m c'] w (GotInt w g A l c xs) := by
  subst hm
  have HX := Lib.hid hx
  clear hx
  go_enter Try.func54, Try.ntmps54
  go_wp2_with fail
  refine (l1Below_any A l c g xs.length _ hl hb h0 (by omega) hc).mono ?_
  rintro e w1 ⟨x, hx, rfl, hc1, gr1⟩
  have hcell : w1.cell? ⟨p, x, none⟩ = some (.int .i64 (xs.getD x 0)) := gr1.cell (HX.out x hx) (by simpa using hp)
  have hs := getD_mem xs x 0 hx
  generalize xs.getD x 0 = s at *
  go_wp2
  go_ret
  exact ⟨s, hs, rfl, hc1, gr1⟩
theorem ints_new (w : World) (xs : List Int) : ∀ k, k < xs.length → (w.alloc (.cells (xs.map (Value.int .i64)).toArray 3)).cell? ⟨w.heap.size, k, none⟩ = some (.int .i64 (xs.getD k 0)) := by
  intro k hk
  rw [World.cell?_alloc_at _ _ _ _ rfl]
  simp [hk]
end Go.Proofs.Ytcapioiigfldoaa
