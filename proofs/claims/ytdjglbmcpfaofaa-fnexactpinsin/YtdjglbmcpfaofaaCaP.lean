/- PinsIn of the program. -/
import Derived.Test.YtdjglbmcpfaofaaRows
import Derived.Test.YtdjglbmcpfaofaaCaS
import Derived.Test.YtdjglbmcpfaofaaPtyL
import Derived.Test.YtdjglbmcpfaofaaCaI
namespace Go.Proofs.Ytdjglbmcpfaofaa
open Go.RowKit Go.Shelf
set_option linter.unusedSimpArgs false
set_option linter.unusedVariables false
set_option maxRecDepth 100000 in
theorem sortOff_impl (l : List Pn) (D : Option Addr) (d base : Nat) (w : World) (hl : l.length ≤ 2097152) (hown : w.ownsRow base 70 2 (.slice D l.length d) l.length (l.flatMap pnC)) :
    Calls Try.prog 46 #[.slice D l.length d, .func (.func 47) #[] #[]] w fun e w' => e = .returned (.tuple #[]) ∧ ∃ l' : List Pn, l'.Perm l ∧ l'.Pairwise lePn ∧ w'.ownsRow base 70 2 (.slice D l.length d) l.length (l'.flatMap pnC) ∧ w.grownBy w' (Value.slice D l.length d).ownBlock := by
  by_cases h0 : l.length = 0
  · have hn : l = [] := List.eq_nil_of_length_eq_zero h0
    subst hn
    refine (AnyF.slices_SortFunc_none Try.sortPin D d (.func (.func 47) #[] #[]) w).mono ?_
    rintro e w' ⟨rfl, rfl⟩
    exact ⟨rfl, [], List.Perm.refl _, List.Pairwise.nil, hown, World.grownBy.refl _ _⟩
  · obtain ⟨g, rfl⟩ : ∃ g, D = some ⟨g, 0, none⟩ := by
      rcases hown.2 with ⟨h1, _⟩ | ⟨g, cap', cur, he, hb, hgb, hnc, hm, hs, hty⟩
      · injection h1 with h1 h2 h3; exact absurd h2 h0
      · injection he with h1 h2 h3; exact ⟨g, h1⟩
    refine (sortPins_impl l base g d w hl hown).mono ?_
    rintro e w' ⟨rfl, l', hp, hs, ho, hg⟩
    refine ⟨rfl, l', hp, ?_, ho, hg⟩
    rw [List.pairwise_iff_getElem]
    intro i j hi hj hij
    have := hs i j hij hj
    unfold lePn Pn.less
    simpa [List.getD_eq_getElem?_getD, hi, hj] using this
set_option maxRecDepth 100000 in
set_option maxHeartbeats 3200000 in
theorem pinsIn_impl (A : Option Addr) (l : List Pt) (c : Nat) (cabin : Int) (w : World) (hl : l.length ≤ 2097152) (hA : Rws w w.heap.size A (l.flatMap ptC)) (hf : ∀ f ∈ l, f.fits) (hc : inI cabin) :
    Calls Try.prog 19 #[.slice A l.length c, .int .i64 cabin] w (NewR 70 2 w (pinsV l cabin).length ((pinsV l cabin).flatMap pnC)) := by
  have O0 : Hid (w.ownsRow w.heap.size 70 2 (.slice none 0 0) 0 []) := World.ownsRow_nil _ _ _ _
  go_enter Try.func19, Try.ntmps19
  go_wp2
  go_loopw [5, 10] (fun v i wr => ∃ k : Nat, k ≤ l.length ∧ i = .int .i64 k ∧ Hid (wr.ownsRow w.heap.size 70 2 v (offPn (l.take k) cabin).length ((offPn (l.take k) cabin).flatMap pnC)) ∧ Hid (Below w.heap.size w wr)) (fun _ i _ => l.length - (intOf i).toNat)
  case atStart => exact ⟨0, by omega, rfl, O0, Below.refl _ _⟩
  case round =>
    obtain ⟨k, hk, rfl, ho, hb⟩ := hrel
    obtain ⟨D, d, rfl, _, _, _⟩ := own_form ho.out
    by_cases hlt : k < l.length
    · have hR := rws_below hA hb.out
      obtain ⟨b, off, rfl, hbB, hx⟩ := hR.pt hlt
      clear hR
      have HS0 := Lib.hid (offPn_take l cabin k hlt)
      have hml : (offPn (l.take k) cabin).length ≤ 2097152 := by have := offPn_len (l.take k) cabin; rw [List.length_take] at this; omega
      generalize l.getD k pt0 = x at *
      generalize offPn (l.take k) cabin = m at *
      obtain ⟨W, hW⟩ : ∃ W, wr.alloc (.cells #[.int .i64 x.id, .int .i64 x.cabin, .int .i64 x.from_, .int .i64 x.size, .int .i64 x.tier, .int .i64 x.since, .int .i64 x.turn, .int .i64 x.state, .int .i64 x.until_, .int .i64 x.asked] 65) = W := ⟨_, rfl⟩
      have xa : Below wr.heap.size wr W := by rw [← hW]; exact (Below.refl _ _).alloc (Nat.le_refl _) _
      have g0 : W.heap[wr.heap.size]? = some (.cells #[.int .i64 x.id, .int .i64 x.cabin, .int .i64 x.from_, .int .i64 x.size, .int .i64 x.tier, .int .i64 x.since, .int .i64 x.turn, .int .i64 x.state, .int .i64 x.until_, .int .i64 x.asked] 65) := by rw [← hW]; exact heap_new _ _
      have bW : Below w.heap.size w W := hb.out.trans (xa.mono hb.out.size)
      have C := Lib.hid (isOffered_im x cabin W)
      have KX := Lib.hid (fun w' (h : Below W.heap.size W w') => Pt.here.blk (blk_call g0 h))
      have OX := Lib.hid (own_below ho.out xa)
      have HW := Lib.hid hW
      have BW := Lib.hid bW
      obtain ⟨c0, c1, c2, c3, c4, c5, c6, c7, c8, c9⟩ := hx
      obtain ⟨q, hq⟩ : ∃ q, decide (x.state = 2 ∧ x.cabin = cabin) = q := ⟨_, rfl⟩
      rw [hq] at C
      have HQ := Lib.hid hq
      unfold ptA at C
      clear hq hW xa g0 bW ho hb
      go_wp2_with fail
      rw [HW.out]
      refine C.out.mono ?_
      rintro e w1 ⟨rfl, b1⟩
      have B2 := Lib.hid (BW.out.trans (b1.mono BW.out.size))
      have O2 := Lib.hid (own_below OX.out b1)
      have K1 := KX.out w1 b1
      clear b1 C c0 c1 c2 c3 c4 c5 c6 c7 c8 c9 HW BW KX OX
      obtain ⟨d0, d1, d2, d3, d4, d5, d6, d7, d8, d9⟩ := K1
      clear d1 d2 d3 d4 d5 d6 d7 d9
      cases q with
      | false =>
        have O3 : Hid (w1.ownsRow w.heap.size 70 2 (.slice D m.length d) (offPn (l.take (k + 1)) cabin).length ((offPn (l.take (k + 1)) cabin).flatMap pnC)) := by
          show World.ownsRow _ _ _ _ _ _ _
          rw [HS0.out, if_neg (of_decide_eq_false HQ.out), List.append_nil]; exact O2.out
        clear HS0 HQ O2
        go_wp2
        go_roundw
        case rel => exact ⟨k + 1, by omega, by go_num, O3, B2⟩
        case measure => simp [intOf]; omega
      | true =>
        have HS : Hid (offPn (l.take (k + 1)) cabin = m ++ [⟨x.until_, x.id⟩]) := by show _ = _; rw [HS0.out, if_pos (of_decide_eq_true HQ.out)]
        clear HS0 HQ
        have O3 := Lib.hid (O2.out.alloc (.cells #[.int .i64 x.until_, .int .i64 x.id] 70))
        have RN : Hid (Rws (w1.alloc (.cells #[.int .i64 x.until_, .int .i64 x.id] 70)) (w1.heap.size + 1) (some ⟨w1.heap.size, 0, none⟩) (pnC ⟨x.until_, x.id⟩)) := Rws.new w1 (pnC ⟨x.until_, x.id⟩) 70
        have hbs := B2.out.size
        have B3 : Hid (Below w.heap.size w (w1.alloc (.cells #[.int .i64 x.until_, .int .i64 x.id] 70))) := B2.out.alloc hbs _
        clear O2 B2
        go_wp2_with (at_builtin; refine wpList_appR rowPin _ rfl (.tmp 17) (.tmp 23) rfl w.heap.size _ m.length (m.flatMap pnC) rfl O3.out _ (some ⟨w1.heap.size, 0, none⟩) 1 1 (pnC ⟨x.until_, x.id⟩) rfl rfl RN.out (fun h => by cases h) (by intro u hu; simp [pnC] at hu; rcases hu with rfl | rfl <;> rfl) (by omega) (by simp; omega) ?_)
        intro v2 w2 o2 g2
        have B4 := Lib.hid (B3.out.grown g2 (by simp; omega) (own_low O3.out))
        have O4 : Hid (w2.ownsRow w.heap.size 70 2 v2 (offPn (l.take (k + 1)) cabin).length ((offPn (l.take (k + 1)) cabin).flatMap pnC)) := by
          show World.ownsRow _ _ _ _ _ _ _
          rw [HS.out, List.length_append, List.flatMap_append]
          have e : [(⟨x.until_, x.id⟩ : Pn)].flatMap pnC = pnC ⟨x.until_, x.id⟩ := by simp
          rw [e]; exact o2
        clear o2 g2 O3 RN B3 HS d0 d8
        go_wp2
        go_roundw
        case rel => exact ⟨k + 1, by omega, by go_num, O4, B4⟩
        case measure => simp [intOf]; omega
    · obtain rfl : k = l.length := by omega
      rw [List.take_length] at ho ⊢
      have hml : (offPn l cabin).length ≤ 2097152 := by have := offPn_len l cabin; omega
      have HV := Lib.hid (fun m hp hs => pinsV_is (l := l) (cabin := cabin) (m := m) hp hs)
      generalize offPn l cabin = m at *
      have C := Lib.hid (sortOff_impl m D d w.heap.size wr hml ho.out)
      have HL := Lib.hid (own_low ho.out)
      clear ho
      go_wp2_with fail
      refine C.out.mono ?_
      rintro e w2 ⟨rfl, l', hp, hs, o2, g2⟩
      have R : Hid (NewR 70 2 w (pinsV l cabin).length ((pinsV l cabin).flatMap pnC) (.returned (.slice D m.length d)) w2) := by
        rw [← HV.out l' hp hs, hp.length_eq]
        exact NewR.of_own o2 (hb.out.grown g2 hb.out.size HL.out)
      clear C HV hp hs o2 g2 HL
      go_wp2
      go_ret
      exact R.out
end Go.Proofs.Ytdjglbmcpfaofaa
