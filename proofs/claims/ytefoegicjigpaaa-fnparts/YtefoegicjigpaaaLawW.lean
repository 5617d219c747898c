/- The law FnWire: what was written is read. -/
import Derived.Test.YtefoegicjigpaaaPick
import Derived.Test.YtefoegicjigpaaaLaw2
import Derived.Test.YtefoegicjigpaaaLaw4
namespace Go.Proofs.Ytefoegicjigpaaa
open Go.RowKit

/-- A varint that was written is read, whatever stands behind it. -/
theorem getF_encF (f k a n : Nat) (rest : List Nat) (hn : n < 128 ^ (f + 1)) (hk : k = 0 ∨ n ≠ 0) (hle : a + n * 128 ^ k ≤ 2147483647) :
    getF (f + 1) k a (encF f n ++ rest) = some (a + n * 128 ^ k, k + (encF f n).length) := by
  induction f generalizing k a n with
  | zero =>
    simp at hn
    simp only [encF, List.cons_append, List.nil_append, getF]
    rw [if_neg (by omega), if_neg (by omega)]
    simp
  | succ f ih =>
    by_cases h : n < 128
    · rw [encF_small _ _ h]
      simp only [List.cons_append, List.nil_append, getF]
      rw [if_neg (by omega), if_neg (by omega)]
      simp
    · rw [encF_step f n (by omega)]
      have hd : n / 128 * 128 + n % 128 = n := Nat.div_add_mod' n 128
      have hval : a + (n % 128 + 128) % 128 * 128 ^ k + n / 128 * 128 ^ (k + 1) = a + n * 128 ^ k := by
        have e1 : (n % 128 + 128) % 128 = n % 128 := by omega
        rw [e1, Nat.pow_succ, Nat.add_assoc]
        congr 1
        have e2 : n / 128 * (128 ^ k * 128) = n / 128 * 128 * 128 ^ k := by rw [Nat.mul_comm (128 ^ k) 128, Nat.mul_assoc]
        rw [e2, ← Nat.add_mul, Nat.add_comm (n % 128), hd]
      have h1 : n / 128 < 128 ^ (f + 1) := by rw [Nat.div_lt_iff_lt_mul (by omega)]; rw [Nat.pow_succ] at hn; exact hn
      have := ih (k + 1) (a + (n % 128 + 128) % 128 * 128 ^ k) (n / 128) h1 (.inr (by omega)) (by rw [hval]; exact hle)
      simp only [List.cons_append]
      rw [getF, if_pos (by omega), this, hval, List.length_cons]
      congr 2
      omega
theorem getN_encN (p rest : List Nat) (n : Nat) (hn : n ≤ 2147483647) : getN (p ++ (encN n ++ rest)) (p.length : Int) = some (n, (encN n).length) := by
  unfold getN
  rw [if_neg (by omega), Int.toNat_natCast, List.drop_left]
  have := getF_encF 4 0 0 n rest (by omega) (.inl rfl) (by omega)
  simpa [encN] using this
theorem strB_strN (s : ByteArray) : strB (strN s) = s := by
  unfold strB strN strOfNums
  rw [List.map_map, List.map_map]
  have e : s.data.toList.map ((fun n : Int => UInt8.ofNat n.toNat) ∘ (fun b : Nat => (b : Int)) ∘ UInt8.toNat) = s.data.toList := by
    have h : ((fun n : Int => UInt8.ofNat n.toNat) ∘ (fun b : Nat => (b : Int)) ∘ UInt8.toNat) = id := by
      funext b; simp
    rw [h, List.map_id]
  exact congrArg (fun x : List UInt8 => (⟨x.toArray⟩ : ByteArray)) e
theorem getT_put (p : List Nat) (s : ByteArray) (hs : s.size < 128) :
    getT (p ++ (encI s.size ++ strN s)) (p.length : Int) = some (strN s, (p ++ (encI s.size ++ strN s)).length) := by
  have he : encI s.size = encN s.size := by unfold encI; rw [if_pos (by omega), Int.toNat_natCast]
  rw [he]
  have hg := getN_encN p (strN s) s.size (by omega)
  have h1 : encN s.size = [s.size] := encF_small 4 _ hs
  have hl := strN_length s
  have hlen : (p ++ (encN s.size ++ strN s)).length = p.length + 1 + s.size := by
    rw [h1]; simp only [List.length_append, List.length_cons, List.length_nil]; omega
  rw [h1] at hg hlen ⊢
  have := getT_yes hg (by rw [hlen]; simp)
  rw [this, hlen]
  have hd : (p ++ ([s.size] ++ strN s)).drop ((p.length : Int).toNat + [s.size].length) = strN s := by
    rw [Int.toNat_natCast, ← List.append_assoc]
    exact List.drop_left' (by simp)
  rw [hd, ← hl, List.take_length]
  congr 2
theorem getNum_impl_n (A : Option Addr) (l : List Nat) (n c : Nat) (at_ : Int) (w : World) (hn : n = l.length) (hl : l.length ≤ 2097152) (hc : l.length ≤ c) (hA : Bts w w.heap.size A l) (hb : AllB l)
    (hat : at_ ≤ 9223372036854775807) {v k : Nat} (hg : getN l at_ = some (v, k)) :
    Calls Try.prog 17 #[.slice A n c, .int .i64 at_] w fun e w' => e = .returned (.tuple #[.int .i64 (v : Int), .int .i64 ((at_.toNat + k : Nat) : Int), .bool true]) ∧ Below w.heap.size w w' := by
  subst hn
  exact (getNum_impl A l c at_ w hl hc hA hb hat).mono fun e w' ⟨he, h⟩ => ⟨by rw [he, hg]; rfl, h⟩
theorem getText_impl_n (A : Option Addr) (l : List Nat) (n c : Nat) (at_ : Int) (w : World) (hn : n = l.length) (hl : l.length ≤ 2097152) (hc : l.length ≤ c) (hA : Bts w w.heap.size A l) (hb : AllB l)
    (hat : at_ ≤ 9223372036854775807) {t : List Nat} {y : Nat} (hg : getT l at_ = some (t, y)) :
    Calls Try.prog 18 #[.slice A n c, .int .i64 at_] w fun e w' => e = .returned (.tuple #[.string (strB t), .int .i64 (y : Int), .bool true]) ∧ Below w.heap.size w w' := by
  subst hn
  exact (getText_impl A l c at_ w hl hc hA hb hat).mono fun e w' ⟨he, h⟩ => ⟨by rw [he, hg]; rfl, h⟩
theorem encF_all (f n : Nat) (hn : n < 128 ^ (f + 1)) : AllB (encF f n) := by
  induction f generalizing n with
  | zero => intro b hb; simp [encF] at hb; simp at hn; omega
  | succ f ih =>
    by_cases h : n < 128
    · rw [encF_small _ _ h]; intro b hb; simp at hb; omega
    · rw [encF_step f n (by omega)]
      intro b hb
      rcases List.mem_cons.1 hb with rfl | hb
      · omega
      · exact ih (n / 128) (by rw [Nat.div_lt_iff_lt_mul (by omega)]; rw [Nat.pow_succ] at hn; exact hn) b hb
theorem encI_all (n : Int) : AllB (encI n) := by
  unfold encI
  split
  · exact encF_all 4 _ (by omega)
  · intro b hb; simp at hb
theorem AllB.append {a b : List Nat} (ha : AllB a) (hb : AllB b) : AllB (a ++ b) := by
  intro x hx
  rcases List.mem_append.1 hx with h | h
  · exact ha x h
  · exact hb x h
theorem OwnB.nil {w : World} {base n c : Nat} {A : Option Addr} {l : List Nat} (h : OwnB w base (.slice A n c) l) : A = none → c = 0 := by
  rintro rfl
  rcases h.2 with ⟨hv, hn⟩ | ⟨g, cap, cur, hv, _⟩
  · injection hv with _ _ h3
  · injection hv with h1; cases h1
/-- A product of two small numbers, under one name. -/
theorem mul_small (x y a b : Nat) (hx : x < a) (hy : y < b) : ∃ p : Nat, (x : Int) * (y : Int) = (p : Int) ∧ p < a * b :=
  ⟨x * y, by push_cast; rfl, Nat.mul_lt_mul_of_lt_of_lt hx hy⟩

set_option maxHeartbeats 1600000 in
set_option maxRecDepth 100000 in
theorem FnWire_walk (A : Option Addr) (l : List Nat) (cap : Nat) (w : World) (hA : Bts w w.heap.size A l) (hb : AllB l) (hm : l.length ≤ maxLen) :
    Calls Try.prog 3 #[.slice A l.length cap] w fun e w' => e = .returned (.bool true) ∧ Below w.heap.size w w' := by
  unfold maxLen at hm
  by_cases hbig : 1048576 < l.length
  · go_enter Try.func3, Try.ntmps3
    go_wp2_with (go_at_call 12; refine (big_yes _ _ _ _ hbig).mono ?_; rintro e w' ⟨rfl, rfl⟩)
    go_ret
    exact ⟨rfl, Below.refl _ _⟩
  have hle : l.length ≤ 1048576 := by omega
  have CA := Lib.hid (fun i w hi hA => at0_any A l cap w.heap.size i w (by omega) hi hA hb)
  have hx1 := at0N_lt hb 1
  have hx2 := at0N_lt hb 2
  have hx3 := at0N_lt hb 3
  have hx4 := at0N_lt hb 4
  generalize e1 : at0N l 1 = x1 at *
  generalize e2 : at0N l 2 = x2 at *
  generalize e3 : at0N l 3 = x3 at *
  generalize e4 : at0N l 4 = x4 at *
  have E1 := Lib.hid e1
  have E2 := Lib.hid e2
  have E3 := Lib.hid e3
  have E4 := Lib.hid e4
  clear e1 e2 e3 e4
  obtain ⟨p, hp, hpl⟩ := mul_small x1 x2 256 256 hx1 hx2
  obtain ⟨q, hq, hql⟩ := mul_small p x3 65536 256 (by omega) hx3
  obtain ⟨n, hn⟩ : ∃ n : Nat, (q : Int) * 9 + x4 = (n : Int) := ⟨q * 9 + x4, by push_cast; rfl⟩
  have hnl : n ≤ 2147483647 := by omega
  have hql2 : q < 16777216 := by omega
  have hpl2 : p < 65536 := by omega
  clear hql hpl
  go_enter Try.func3, Try.ntmps3
  go_wp2_with fail
  refine (big_no _ _ _ _ hle).mono ?_
  rintro e w' ⟨rfl, rfl⟩
  go_wp2_with fail
  refine (CA.out 1 _ (by omega) hA).mono ?_
  rintro e w' ⟨rfl, rfl⟩
  rw [E1.out]
  go_wp2_with fail
  refine (CA.out 2 _ (by omega) hA).mono ?_
  rintro e w' ⟨rfl, rfl⟩
  rw [E2.out]
  go_wp2_with fail
  refine (CA.out 3 _ (by omega) hA).mono ?_
  rintro e w' ⟨rfl, rfl⟩
  rw [E3.out]
  go_wp2_with fail
  refine (CA.out 4 _ (by omega) hA).mono ?_
  rintro e w' ⟨rfl, rfl⟩
  rw [E4.out]
  go_wp2_with fail
  clear hp hq
  refine (drawPutText_any A l cap _ (by omega) hA hb).mono ?_
  rintro e w1 ⟨s, hs, rfl, b1⟩
  have hsz : s.size ≤ 9 := by
    simp only [fourTexts, List.mem_cons, List.not_mem_nil, or_false] at hs
    rcases hs with rfl | rfl | rfl | rfl <;> decide
  clear hs
  obtain ⟨E, hE⟩ : ∃ E, E = encN n := ⟨_, rfl⟩
  have hEI : encI (n : Int) = E := by rw [hE]; unfold encI; rw [if_pos (by omega), Int.toNat_natCast]
  have hEl : E.length ≤ 5 := by rw [← hEI]; exact encI_len _
  have hEb : AllB E := by rw [← hEI]; exact encI_all _
  have C2 := Lib.hid (putNum_impl (n : Int))
  have C9 := Lib.hid (putNum_spec (n : Int))
  rw [hEI] at C2 C9
  obtain ⟨T, hT⟩ : ∃ T, T = encI s.size ++ strN s := ⟨_, rfl⟩
  have hTl : T.length ≤ 20 := by rw [hT, List.length_append, strN_length]; have := encI_len s.size; omega
  have hTb : AllB T := by rw [hT]; exact (encI_all _).append (strN_all s)
  have C4 := Lib.hid (fun w => putText_impl s w (by omega))
  rw [← hT] at C4
  obtain ⟨L, hL⟩ : ∃ L, L = [200, 3] ++ E ++ T := ⟨_, rfl⟩
  have hLl : L.length ≤ 100 := by rw [hL]; simp only [List.length_append, List.length_cons, List.length_nil]; omega
  have hLb : AllB L := by
    rw [hL]
    refine AllB.append (AllB.append ?_ hEb) hTb
    intro b hb; simp at hb; omega
  obtain ⟨y, hy⟩ : ∃ y, y = 2 + E.length := ⟨_, rfl⟩
  have G1 : Hid (getN L 2 = some (n, E.length)) := by
    have h := getN_encN [200, 3] T n hnl
    rw [← hE] at h
    show _ = _
    rw [hL, List.append_assoc]
    exact h
  have G2 : Hid (getT L (y : Int) = some (strN s, L.length)) := by
    have h := getT_put ([200, 3] ++ E) s (by omega)
    rw [← hT] at h
    show _ = _
    rw [hL, hy]
    rw [List.length_append] at h
    exact h
  have CG := Lib.hid (fun A m c w hn hc hA => getNum_impl_n A L m c 2 w hn (by omega) hc hA hLb (by omega) G1.out)
  have CT := Lib.hid (fun A m c w hn hc hA => getText_impl_n A L m c (y : Int) w hn (by omega) hc hA hLb (by omega) G2.out)
  have e2 : (2 : Int).toNat + E.length = y := by rw [hy]; rfl
  rw [e2] at CG
  rw [strB_strN] at CT
  have HL := Lib.hid hL
  have hyy : ((y : Int) == 2 + (E.length : Int)) = true := by simp; omega
  have hyb : y ≤ 7 := by omega
  clear e2 hy hL hE hEI hT G1 G2 hEb hTb
  have ow := Own_new w1 w1.heap.size [200, 3] (Nat.le_refl _) (by simp)
  have bw : Below w1.heap.size w1 (w1.alloc (.cells (bcells [200, 3]).toArray 5)) := (Below.refl _ _).alloc (Nat.le_refl _) _
  go_wp2_with fail
  refine (C2.out _).mono ?_
  rintro e w2 ⟨A2, c2, rfl, o2, b2⟩
  have ow2 := OwnB.below ow b2
  have bw2 : Below w1.heap.size w1 w2 := bw.trans (b2.mono bw.size)
  clear ow bw
  go_wp2_with (at_builtin; refine wpList_appA _ rfl (.tmp 28) (.tmp 30) rfl w1.heap.size _ [200, 3] rfl ow2 w2.heap.size A2 c2 E _ rfl rfl o2.bts o2.nil (by simp; omega) bw2.size ?_)
  intro v3 w3 o3 g3 _
  have b3 : Below w1.heap.size w1 w3 := bw2.grown g3 bw2.size (own_lo ow2)
  have o3 : OwnB w3 w1.heap.size v3 ([200, 3] ++ E) := o3
  have hle3 : ([200, 3] ++ E).length ≤ 7 := by simp only [List.length_append, List.length_cons, List.length_nil]; omega
  obtain ⟨P, hP⟩ : ∃ P, P = [200, 3] ++ E := ⟨_, rfl⟩
  rw [← hP] at o3 hle3 HL
  clear hP ow2 o2 b2 bw2 g3
  go_wp2_with fail
  refine (C4.out _).mono ?_
  rintro e w4 ⟨A4, c4, rfl, o4, b4⟩
  have o34 := OwnB.below o3 b4
  have b4' : Below w1.heap.size w1 w4 := b3.trans (b4.mono b3.size)
  go_wp2_with (at_builtin; refine wpList_appA _ rfl (.tmp 31) (.tmp 33) rfl w1.heap.size _ P rfl o34 w4.heap.size A4 c4 T _ rfl rfl o4.bts o4.nil (by omega) b4'.size ?_)
  intro v5 w5 o5 g5 _
  rw [← HL.out] at o5
  have b5 : Below w1.heap.size w1 w5 := b4'.grown g5 b4'.size (own_lo o34)
  clear o34 o4 b4 b4' g5 o3 b3
  obtain ⟨A5, c5, hv, ht5, _⟩ := OwnB.form o5
  subst hv
  have hc5 := (OwnB.cap o5).2
  go_wp2_with fail
  refine (CG.out A5 _ c5 _ rfl hc5 ht5).mono ?_
  rintro e w6 ⟨rfl, b6⟩
  go_wp2_with fail
  refine (CT.out A5 _ c5 _ rfl hc5 ((ht5.below b6).more b6.size)).mono ?_
  rintro e w7 ⟨rfl, b7⟩
  go_wp2_with fail
  refine (C9.out _).mono ?_
  rintro e w8 ⟨A8, c8, rfl, o8, b8⟩
  have bf : Below w.heap.size w w8 := b1.trans ((b5.trans ((b6.trans ((b7.trans (b8.mono b7.size)).mono b6.size)).mono b5.size)).mono b1.size)
  go_wp2
  go_ret
  exact ⟨rfl, bf⟩
end Go.Proofs.Ytefoegicjigpaaa
