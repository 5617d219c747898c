/- The law FnCrc: one byte changed changes the checksum. -/
import Derived.Test.YtefoegicjigpaaaLaw3
import Derived.RegionTactic
import Derived.Deep.RegionWith
import Derived.Deep.RegionHeld3
import Derived.StillTailTactics
namespace Go.Proofs.Ytefoegicjigpaaa
open Go.RowKit

theorem big_no (A : Option Addr) (n c : Nat) (w : World) (h : n ≤ 1048576) : Calls Try.prog 12 #[.slice A n c] w fun e w' => e = .returned (.bool false) ∧ w = w' := by
  have hd : decide (1048576 < (n : Int)) = false := by simp; omega
  go_enter Try.func12, Try.ntmps12
  go_wp2
  go_ret
  exact ⟨rfl, rfl⟩
theorem big_yes (A : Option Addr) (n c : Nat) (w : World) (h : 1048576 < n) : Calls Try.prog 12 #[.slice A n c] w fun e w' => e = .returned (.bool true) ∧ w = w' := by
  have hd : decide (1048576 < (n : Int)) = true := by simp; omega
  go_enter Try.func12, Try.ntmps12
  go_wp2
  go_ret
  exact ⟨rfl, rfl⟩
/-- The law's own reader of its code. -/
def at0N (l : List Nat) (i : Nat) : Nat := if i < l.length then l.getD i 0 else (i * 7 + l.length) % 256
theorem at0N_lt {l : List Nat} (h : AllB l) (i : Nat) : at0N l i < 256 := by
  unfold at0N; split
  · exact h.getD i
  · omega
theorem at0_any (A : Option Addr) (l : List Nat) (c B i : Nat) (w : World) (hl : l.length ≤ 2097152) (hi : i ≤ 2097152) (hA : Bts w B A l) (hb : AllB l) :
    Calls Try.prog 13 #[.slice A l.length c, .int .i64 i] w fun e w' => e = .returned (.int .i64 ((at0N l i : Nat) : Int)) ∧ w = w' := by
  by_cases h : i < l.length
  · obtain ⟨b, off, rfl, hbB, hc⟩ := hA.at_ h
    have hv := hb.getD i
    have e : at0N l i = l.getD i 0 := by unfold at0N; rw [if_pos h]
    rw [e]
    clear e
    generalize l.getD i 0 = v at *
    go_enter Try.func13, Try.ntmps13
    go_wp2
    go_ret
    exact ⟨rfl, rfl⟩
  · have e : at0N l i = (i * 7 + l.length) % 256 := by unfold at0N; rw [if_neg h]
    rw [e]
    clear e
    go_enter Try.func13, Try.ntmps13
    go_wp2
    go_ret
    exact ⟨rfl, rfl⟩
theorem Bts.take {w : World} {B : Nat} {A : Option Addr} {l : List Nat} (h : Bts w B A l) (k : Nat) : Bts w B A (l.take k) := by
  rcases h with rfl | ⟨b, off, e, hb, hc⟩
  · exact .inl (by simp)
  · refine .inr ⟨b, off, e, hb, fun j hj => ?_⟩
    simp at hj
    rw [hc j (by omega)]
    simp [List.getD_eq_getElem?_getD, hj]
    rw [List.getElem?_eq_getElem (by omega)]; rfl
/-- append(v, q...) where v is the call's own and q came in, nil or not. -/
theorem wpList_appA (w : World) {ops : Array Oper} {rest : List Oper} {o : Oper} {a : Act} {Q : Exit → Act → World → Prop} (hgd : o.guard = none) (s x : Operand)
    (ho : o.op = .call { callee := .builtin .append, args := #[s, x], argTypes := #[22, 22] })
    (base : Nat) (v : Value) (p : List Nat) (hs : a.eval s = v) (hown : OwnB w base v p)
    (B : Nat) (A : Option Addr) (c : Nat) (q : List Nat) (m : Nat) (hmq : m = q.length) (hx : a.eval x = .slice A m c) (hq : Bts w B A q) (hnil : A = none → c = 0)
    (hlen : p.length + q.length ≤ 1099511627776) (hbase : base ≤ w.heap.size)
    (h : ∀ v' w', OwnB w' base v' (p ++ q) → w.grownBy w' v.ownBlock → (v'.ownBlock = v.ownBlock ∨ v'.ownBlock = some w.heap.size) → wpList Try.prog ops Q rest (a.put o.dst v') w') :
    wpList Try.prog ops Q (o :: rest) a w := by
  subst hmq
  obtain ⟨i0, hi, hz0, hz1, hz2⟩ := info_parts info5
  rcases A with _ | ad
  · have hq0 : q = [] := by
      rcases hq with h | ⟨_, _, h, _⟩
      · exact h
      · cases h
    subst hq0
    rw [hnil rfl] at hx
    exact wpList_appB_nil w hgd s x ho base v p hs hown hx (h v w (by simpa using hown) (World.grownBy.refl _ _) (.inl rfl))
  · refine wpList_append_own_at (P := Try.prog) w hgd s x 22 ho base 5 i0 (.int .u8 0) 1 1 Try.underlying22 hi hz0 hz1 hz2 rfl (by decide) v p.length (bcells p) hs hown
      ad q.length c (bcells q) hx (by simp [bcells_length]) ?_ (bcells_one q) (by unfold maxLen; omega) (by omega) hbase ?_
    · intro j u hj
      have hj' : j < q.length := by
        rcases Nat.lt_or_ge j q.length with h | h
        · exact h
        · rw [List.getElem?_eq_none (by rw [bcells_length]; exact h)] at hj; cases hj
      rcases hq with rfl | ⟨b, off, e, _, hc⟩
      · simp at hj'
      · injection e with e
        subst e
        rw [add_at, hc j hj', ← hj, bcells_get q j hj']
    · intro v' w' h1 h2 _ h4
      exact h v' w' (by unfold OwnB; rw [List.length_append, bcells_append]; exact h1) h2 h4
theorem crc_impl_n (A : Option Addr) (l : List Nat) (n cap B : Nat) (w : World) (hn : n = l.length) (hl : l.length ≤ 2097152) (hA : Bts w B A l) (hb : AllB l) :
    Calls Try.prog 22 #[.slice A n cap] w fun e w' => e = .returned (.int .i64 (M.crc l)) ∧ w = w' := by subst hn; exact crc_impl A l cap B w hl hA hb
theorem crc_spec_n (A : Option Addr) (l : List Nat) (n cap B : Nat) (w : World) (hn : n = l.length) (hl : l.length ≤ 2097152) (hA : Bts w B A l) (hb : AllB l) :
    Calls Try.prog 23 #[.slice A n cap] w fun e w' => e = .returned (.int .i64 (M.crc l)) ∧ w = w' := by subst hn; exact crc_spec A l cap B w hl hA hb

theorem bcells_set (l : List Nat) (k v : Nat) : (bcells l).set k (.int .u8 (v : Int)) = bcells (l.set k v) := by
  unfold bcells; rw [List.map_set]
theorem set_split (l : List Nat) (k v : Nat) (h : k < l.length) : l = l.take k ++ l.getD k 0 :: l.drop (k + 1) ∧ l.set k v = l.take k ++ v :: l.drop (k + 1) := by
  constructor
  · rw [← drop_cons l k h, List.take_append_drop]
  · rw [List.set_eq_take_append_cons_drop, if_pos h]
theorem crc_set (l : List Nat) (hb : AllB l) (k v : Nat) (h : k < l.length) (hv : v < 256) (hne : l.getD k 0 ≠ v) : M.crc (l.set k v) ≠ M.crc l := by
  obtain ⟨h1, h2⟩ := set_split l k v h
  rw [h2]
  intro e
  have e2 : M.crc (l.take k ++ v :: l.drop (k + 1)) = M.crc (l.take k ++ l.getD k 0 :: l.drop (k + 1)) := by rw [e, ← h1]
  exact M.crc_changed (l.take k) (l.drop (k + 1)) (hb.take k) (hb.drop (k + 1)) hv (hb.getD k) hne.symm e2
theorem set_all (l : List Nat) (hb : AllB l) (k v : Nat) (hv : v < 256) : AllB (l.set k v) := by
  intro b hb'
  rcases List.mem_or_eq_of_mem_set hb' with h | rfl
  · exact hb b h
  · exact hv
theorem OwnB.set {w : World} {base g c k v n : Nat} {l : List Nat} (h : OwnB w base (.slice (some ⟨g, 0, none⟩) n c) l) :
    OwnB (w.setCell ⟨g, k, none⟩ (.int .u8 (v : Int))) base (.slice (some ⟨g, 0, none⟩) n c) (l.set k v) := by
  have hn := (OwnB.cap h).1
  subst hn
  have := (World.ownsRow.stored h k (.int .u8 (v : Int))).1
  unfold OwnB
  rw [List.length_set, ← bcells_set]
  exact this
theorem OwnB.bts_n {w : World} {base n : Nat} {A : Option Addr} {c : Nat} {l : List Nat} (h : OwnB w base (.slice A n c) l) : Bts w w.heap.size A l := by
  obtain ⟨A', c', he, hb, _⟩ := OwnB.form h
  injection he with h1 _ _
  rw [h1]; exact hb
theorem xor_ne {a m : Nat} (hm : 0 < m) : a ≠ a ^^^ m := by
  intro h
  have h2 : a ^^^ 0 = a ^^^ m := by rw [Nat.xor_zero]; exact h
  have := M.xor_cancel_left h2
  omega

set_option maxHeartbeats 1600000 in
set_option maxRecDepth 100000 in
theorem FnCrc_walk (A : Option Addr) (l : List Nat) (cap : Nat) (w : World) (hA : Bts w w.heap.size A l) (hb : AllB l) (hm : l.length ≤ maxLen) (hnil : A = none → cap = 0) :
    Calls Try.prog 5 #[.slice A l.length cap] w fun e w' => e = .returned (.bool true) ∧ Below w.heap.size w w' := by
  unfold maxLen at hm
  by_cases hbig : 1048576 < l.length
  · go_enter Try.func5, Try.ntmps5
    go_wp2_with (go_at_call 12; refine (big_yes _ _ _ _ hbig).mono ?_; rintro e w' ⟨rfl, rfl⟩)
    go_ret
    exact ⟨rfl, Below.refl _ _⟩
  have hle : l.length ≤ 1048576 := by omega
  have ow := Own_new w w.heap.size [7] (Nat.le_refl _) (by simp)
  have bw : Below w.heap.size w (w.alloc (.cells (bcells [7]).toArray 5)) := (Below.refl _ _).alloc (Nat.le_refl _) _
  have HL : Hid ((7 :: l).length = l.length + 1 ∧ AllB (7 :: l)) := by
    refine ⟨by simp, fun b hb' => ?_⟩
    simp at hb'
    rcases hb' with rfl | h
    · omega
    · exact hb b h
  have HN := Lib.hid hnil
  clear hnil
  go_enter Try.func5, Try.ntmps5
  go_wp2_with (first | (go_at_call 12; refine (big_no _ _ _ _ hle).mono ?_; rintro e w' ⟨rfl, rfl⟩) | (at_builtin; go_loud (refine wpList_appA _ rfl (.tmp 9) (.tmp 10) rfl w.heap.size _ [7] rfl ow w.heap.size A cap l _ rfl rfl (hA.below bw) HN.out (by simp; omega) (by simp) ?_)))
  intro v1 w1 o1 g1 _
  have b1 : Below w.heap.size w w1 := bw.grown g1 (by simp) (own_lo ow)
  obtain ⟨hL1, hL2⟩ := HL.out
  clear HL ow bw g1
  have o1 : OwnB w1 w.heap.size v1 (7 :: l) := o1
  generalize 7 :: l = L at o1 hL1 hL2
  obtain ⟨A1, c1, hv, ht1, hp1⟩ := OwnB.form o1
  obtain ⟨g, rfl, hg⟩ := hp1 (by rintro rfl; simp at hL1)
  subst hv
  have hc1 := (OwnB.cap o1).2
  have hL3 : 0 < L.length := by omega
  have hL4 : L.length ≤ 2097152 := by omega
  have HL1 := Lib.hid hL1
  clear hL1 o1
  obtain ⟨Mx, hMx⟩ : ∃ Mx, Mx = L.take 200 := ⟨_, rfl⟩
  have tM : Bts w1 w1.heap.size (some ⟨g, 0, none⟩) Mx := by rw [hMx]; exact ht1.take 200
  have bM : AllB Mx := by rw [hMx]; exact hL2.take 200
  have hM0 : 0 < Mx.length := by rw [hMx]; simp; omega
  have hM1 : Mx.length ≤ 200 := by rw [hMx]; simp; omega
  have hx0 := at0N_lt hb 0
  have hx1 := at0N_lt hb 1
  have CA := Lib.hid (fun i w hi hA => at0_any A l cap w.heap.size i w (by omega) hi hA hb)
  have oe := Own_new w1 w1.heap.size [] (Nat.le_refl _) (by simp)
  have be : Below w1.heap.size w1 (w1.alloc (.cells (bcells []).toArray 5)) := (Below.refl _ _).alloc (Nat.le_refl _) _
  have tA := (hA.below b1).more b1.size
  obtain ⟨n, hn, HMn⟩ : ∃ n : Nat, (n = if 200 < L.length then 200 else L.length) ∧ Hid (n = Mx.length) := by
    refine ⟨_, rfl, ?_⟩
    show _ = _
    rw [hMx, List.length_take]
    split <;> omega
  obtain ⟨kk, hkk⟩ : ∃ kk, kk = at0N l 0 % n := ⟨_, rfl⟩
  have hkn : kk < Mx.length := by rw [← HMn.out, hkk]; exact Nat.mod_lt _ (by rw [HMn.out]; exact hM0)
  clear hMx ht1 hL2
  have hk0 : ∃ n' : Nat, n' = n ∧ True := ⟨n, rfl, trivial⟩
  generalize hx0e : at0N l 0 = x0 at *
  have HX0 := Lib.hid hx0e
  clear hx0e
  obtain ⟨vk, hvk⟩ : ∃ vk, vk = Mx.getD kk 0 := ⟨_, rfl⟩
  have hvl : vk < 256 := by rw [hvk]; exact bM.getD kk
  generalize hx1e : at0N l 1 = x1 at *
  have HX1 := Lib.hid hx1e
  clear hx1e hk0
  obtain ⟨nv, hnv⟩ : ∃ nv, nv = vk ^^^ (1 + x1 % 255) := ⟨_, rfl⟩
  have hnl : nv < 256 := by rw [hnv]; exact Nat.xor_lt_two_pow (n := 8) (by omega) (by omega)
  have hxor : bits .xor .u8 (vk : Int) (1 + (x1 : Int) % 255) = (nv : Int) := by
    have h := u8_xor_nat vk (1 + x1 % 255) (by omega) (by omega)
    rw [← hnv] at h
    exact h
  have HC : Hid (((M.crc (Mx.set kk nv) : Int) != (M.crc Mx : Int)) = true) := by
    show _ = _
    have := crc_set Mx bM kk nv hkn hnl (by rw [← hvk, hnv]; exact xor_ne (by omega))
    simp; omega
  have bN := set_all Mx bM kk nv hnl
  have HXOR := Lib.hid hxor
  clear hxor
  have HNV := Lib.hid hnv
  have HVK := Lib.hid hvk
  have HKK := Lib.hid hkk
  clear hnv hvk hkk
  by_cases h200 : 200 < L.length
  rotate_left
  · rw [if_neg h200] at hn
    subst hn
    have hk : (x0 : Int) % (L.length : Int) = kk := by have := HKK.out; omega
    go_wp2_with (first | (go_at_call 13; refine (CA.out 0 _ (by omega) tA).mono ?_; rintro e w' ⟨rfl, rfl⟩; rw [HX0.out]) | (go_at_call 22; refine (crc_impl_n _ Mx _ _ _ _ HMn.out (by omega) tM bM).mono ?_; rintro e w' ⟨rfl, rfl⟩) | (at_builtin; refine wpList_appA _ rfl (.tmp 24) (.tmp 25) rfl w1.heap.size _ [] rfl oe w1.heap.size (some ⟨g, 0, none⟩) _ Mx _ HMn.out rfl (tM.below be) (by simp) (by simp; omega) (by simp) ?_))
    intro v2 w2 o2 g2 _
    have o2 : OwnB w2 w1.heap.size v2 Mx := by simpa using o2
    have b2 : Below w1.heap.size w1 w2 := be.grown g2 (by simp) (own_lo oe)
    clear g2 hk
    obtain ⟨A2, c2, hv, _, hp2⟩ := OwnB.form o2
    obtain ⟨g2, rfl, hg2⟩ := hp2 (by intro h; rw [h] at hM0; simp at hM0)
    subst hv
    obtain ⟨_, _, he, _, hcell⟩ := (OwnB.bts o2).at_ hkn
    injection he with he
    injection he with he1 he2 _
    subst he1 he2
    rw [Nat.zero_add, ← HVK.out] at hcell
    have hfz := World.ownsRow.frozenAt o2 kk
    have tA2 := (tA.below b2).more b2.size
    have hki : (kk : Int) < (Mx.length : Int) := by omega
    clear hp2
    have b3 : Below w1.heap.size w1 (w2.setCell ⟨g2, kk, none⟩ (.int .u8 (nv : Int))) := b2.setCell (by exact hg2) _
    have o3 := OwnB.set (k := kk) (v := nv) o2
    have bf : Below w.heap.size w (w2.setCell ⟨g2, kk, none⟩ (.int .u8 (nv : Int))) := b1.trans (b3.mono b1.size)
    have HC2 := HC
    go_wp2_with fail
    go_region_with (go_at_call 13; refine (CA.out 1 _ (by omega) (by exact tA2)).mono ?_; rintro e w' ⟨rfl, rfl⟩; rw [HX1.out])
    all_goals
      go_wp2_with fail
      rw [HXOR.out]
      refine (crc_spec_n _ Mx _ _ _ _ HMn.out (by omega) (by exact tM.below b3.drew) bM).mono ?_
      rintro e w' ⟨rfl, rfl⟩
      go_wp2_with fail
      refine (crc_impl_n _ (Mx.set kk nv) _ _ _ _ (by simp) (by simp; omega) (by exact o3.bts_n) bN).mono ?_
      rintro e w' ⟨rfl, rfl⟩
      have hne := HC2.out
      go_wp2
      go_ret
      exact ⟨rfl, bf.drew⟩
  · rw [if_pos h200] at hn
    subst hn
    have hk : (x0 : Int) % 200 = kk := by have := HKK.out; omega
    go_wp2_with (first | (go_at_call 13; refine (CA.out 0 _ (by omega) tA).mono ?_; rintro e w' ⟨rfl, rfl⟩; rw [HX0.out]) | (go_at_call 22; refine (crc_impl_n _ Mx _ _ _ _ HMn.out (by omega) tM bM).mono ?_; rintro e w' ⟨rfl, rfl⟩) | (at_builtin; refine wpList_appA _ rfl (.tmp 24) (.tmp 25) rfl w1.heap.size _ [] rfl oe w1.heap.size (some ⟨g, 0, none⟩) _ Mx _ HMn.out rfl (tM.below be) (by simp) (by simp; omega) (by simp) ?_))
    intro v2 w2 o2 g2 _
    have o2 : OwnB w2 w1.heap.size v2 Mx := by simpa using o2
    have b2 : Below w1.heap.size w1 w2 := be.grown g2 (by simp) (own_lo oe)
    clear g2 hk
    obtain ⟨A2, c2, hv, _, hp2⟩ := OwnB.form o2
    obtain ⟨g2, rfl, hg2⟩ := hp2 (by intro h; rw [h] at hM0; simp at hM0)
    subst hv
    obtain ⟨_, _, he, _, hcell⟩ := (OwnB.bts o2).at_ hkn
    injection he with he
    injection he with he1 he2 _
    subst he1 he2
    rw [Nat.zero_add, ← HVK.out] at hcell
    have hfz := World.ownsRow.frozenAt o2 kk
    have tA2 := (tA.below b2).more b2.size
    have hki : (kk : Int) < (Mx.length : Int) := by omega
    clear hp2
    have b3 : Below w1.heap.size w1 (w2.setCell ⟨g2, kk, none⟩ (.int .u8 (nv : Int))) := b2.setCell (by exact hg2) _
    have o3 := OwnB.set (k := kk) (v := nv) o2
    have bf : Below w.heap.size w (w2.setCell ⟨g2, kk, none⟩ (.int .u8 (nv : Int))) := b1.trans (b3.mono b1.size)
    have HC2 := HC
    go_wp2_with fail
    go_region_with (go_at_call 13; refine (CA.out 1 _ (by omega) (by exact tA2)).mono ?_; rintro e w' ⟨rfl, rfl⟩; rw [HX1.out])
    all_goals
      go_wp2_with fail
      rw [HXOR.out]
      refine (crc_spec_n _ Mx _ _ _ _ HMn.out (by omega) (by exact tM.below b3.drew) bM).mono ?_
      rintro e w' ⟨rfl, rfl⟩
      go_wp2_with fail
      refine (crc_impl_n _ (Mx.set kk nv) _ _ _ _ (by simp) (by simp; omega) (by exact o3.bts_n) bN).mono ?_
      rintro e w' ⟨rfl, rfl⟩
      have hne := HC2.out
      go_wp2
      go_ret
      exact ⟨rfl, bf.drew⟩
end Go.Proofs.Ytefoegicjigpaaa
