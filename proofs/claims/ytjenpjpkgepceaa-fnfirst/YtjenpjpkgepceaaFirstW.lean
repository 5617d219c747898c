/- The walk of the law FnFirst. -/
import Derived.Test.YtjenpjpkgepceaaRows
import Derived.Test.YtjenpjpkgepceaaEnI
import Derived.Test.YtjenpjpkgepceaaEn7
namespace Go.Proofs.Ytjenpjpkgepceaa
open Go.RowKit
set_option linter.unusedSimpArgs false
set_option linter.unusedVariables false
set_option maxRecDepth 100000 in
set_option maxHeartbeats 3200000 in
theorem FnFirst_walk (A : Option Addr) (l : List Nat) (cap : Nat) (w : World) (hA : Bts w w.heap.size A l) (hb : AllB l) (hm : l.length ≤ maxLen) :
    Calls Try.prog 9 #[.slice A l.length cap] w fun e w' => e = .returned (.bool true) ∧ Below w.heap.size w w' := by
  by_cases hbig : 1048576 < l.length
  · go_enter Try.func9, Try.ntmps9
    go_wp2_with fail
    refine (big_yes _ _ _ _ hbig).mono ?_
    rintro e w' ⟨rfl, rfl⟩
    go_wp2
    go_ret
    exact ⟨rfl, Below.refl _ _⟩
  have hl : l.length ≤ 1048576 := by omega
  clear hbig hm
  have CD := Lib.hid (drawFirstFit_any A l cap w (by omega) hA hb)
  go_enter Try.func9, Try.ntmps9
  go_wp2_with fail
  refine (big_no _ _ _ _ hl).mono ?_
  rintro e w' ⟨rfl, rfl⟩
  go_wp2_with fail
  refine CD.out.mono ?_
  rintro e w2 ⟨el, LA, lc, free, sk, PA, pc, hel1, hel, hp1, hfr, rfl, hL, hP, b2⟩
  have CF := Lib.hid (firstFit_impl LA PA el sk lc pc free w2 (by omega) (by omega) hL hP hel)
  go_wp2_with fail
  refine CF.out.mono ?_
  rintro e w3 ⟨rfl, b3⟩
  have KL := Lib.hid (fun w' (h : Below w3.heap.size w3 w') => rws_below (rws_below hL b3) h)
  have CH : Hid (∀ w', Below w3.heap.size w3 w' → ∀ z, Calls Try.prog 33 #[.slice PA sk.length pc, .int .i64 z] w' fun e w'' => e = .returned (.bool (decide (z ∈ sk))) ∧ w' = w'') := fun w' h z => hasInt_any PA sk pc z w' (by omega) (rws_below (rws_below hP b3) h)
  have BF : Hid (Below w.heap.size w w3) := b2.trans (b3.mono b2.size)
  clear CD CF hL hP b2 b3 hel
  have hLA : el = [] ∨ ∃ b off, LA = some ⟨b, off, none⟩ := by
    rcases KL.out w3 (Below.refl _ _) with h | ⟨b, off, e, _⟩
    · left
      have hlen : (el.flatMap enC).length = el.length * 4 := flat_len enC 4 enC_len el
      rw [h] at hlen
      simp at hlen
      cases el with
      | nil => rfl
      | cons a r => simp at hlen
    · exact .inr ⟨b, off, e⟩
  rcases hLA with rfl | ⟨b, off, rfl⟩
  · have hk : fitAt [] free sk = -1 := rfl
    rw [hk]
    clear hk KL CH
    go_wp2
    go_loop [8] (fun i => i = .int .i64 0) (fun _ => 0)
    case atStart => rfl
    case round =>
      subst hrel
      go_wp2
      go_ret
      exact ⟨rfl, BF.out⟩
  rcases fitAt_cases el free sk with ⟨hk, hall⟩ | ⟨k, hk, hkl, hpk, hall⟩
  · rw [hk]
    have HA := Lib.hid hall
    clear hk hall
    go_wp2
    go_loop [8] (fun i => ∃ j : Nat, j ≤ el.length ∧ i = .int .i64 j) (fun i => el.length - (intOf i).toNat)
    case atStart => exact ⟨0, by omega, rfl⟩
    case round =>
      obtain ⟨j, hj0, rfl⟩ := hrel
      by_cases hj : j < el.length
      · obtain ⟨b', off', eb, _, c0, c1, c2, c3⟩ := (KL.out w3 (Below.refl _ _)).en (i := j) (by omega)
        obtain ⟨rfl, rfl⟩ : b = b' ∧ off = off' := by injection eb with eb; injection eb with e1 e2; exact ⟨e1, e2⟩
        clear eb
        have hfj := HA.out j hj
        have CX := Lib.hid (CH.out w3 (Below.refl _ _) (el.getD j en0).id)
        generalize el.getD j en0 = x at *
        by_cases h1 : x.size ≤ free
        · have hm : decide (x.id ∈ sk) = true := by
            unfold fitP at hfj
            rw [decide_eq_true h1] at hfj
            simpa using hfj
          rw [hm] at CX
          clear hfj hm
          go_wp2_with fail
          refine CX.out.mono ?_
          rintro e w' ⟨rfl, rfl⟩
          go_wp2
          go_round
          case rel => first | exact ⟨j + 1, by omega, by go_num⟩ | (refine ⟨trivial, ?_⟩; (repeat apply Exists.intro); exact ⟨⟨j + 1, by omega, by go_num⟩, rfl⟩)
          case measure => simp [intOf]; omega
        · have h1' : decide (x.size ≤ free) = false := decide_eq_false h1
          clear hfj CX
          go_wp2
          go_round
          case rel => exact ⟨j + 1, by omega, by go_num⟩
          case measure => simp [intOf]; omega
      · go_wp2
        go_ret
        exact ⟨rfl, BF.out⟩
  · rw [hk]
    have HA := Lib.hid hall
    have hk1 : decide ((k : Int) < 0) = false := decide_eq_false (by omega)
    have hk2 : decide ((k : Int) < -1) = false := decide_eq_false (by omega)
    have hk3 : decide (el.length < k) = false := decide_eq_false (by omega)
    have hk4 : decide (el.length ≤ k) = false := decide_eq_false (by omega)
    clear hk hall
    go_wp2
    go_loop [8] (fun i => ∃ j : Nat, j ≤ k ∧ i = .int .i64 j) (fun i => k - (intOf i).toNat)
    case atStart => exact ⟨0, by omega, rfl⟩
    case round =>
      obtain ⟨j, hj0, rfl⟩ := hrel
      by_cases hj : j < k
      · obtain ⟨b', off', eb, _, c0, c1, c2, c3⟩ := (KL.out w3 (Below.refl _ _)).en (i := j) (by omega)
        obtain ⟨rfl, rfl⟩ : b = b' ∧ off = off' := by injection eb with eb; injection eb with e1 e2; exact ⟨e1, e2⟩
        clear eb
        have hfj := HA.out j hj
        have CX := Lib.hid (CH.out w3 (Below.refl _ _) (el.getD j en0).id)
        generalize el.getD j en0 = x at *
        by_cases h1 : x.size ≤ free
        · have hm : decide (x.id ∈ sk) = true := by
            unfold fitP at hfj
            rw [decide_eq_true h1] at hfj
            simpa using hfj
          rw [hm] at CX
          clear hfj hm
          go_wp2_with fail
          refine CX.out.mono ?_
          rintro e w' ⟨rfl, rfl⟩
          go_wp2
          go_round
          case rel => first | exact ⟨j + 1, by omega, by go_num⟩ | (refine ⟨trivial, ?_⟩; (repeat apply Exists.intro); exact ⟨⟨j + 1, by omega, by go_num⟩, rfl⟩)
          case measure => simp [intOf]; omega
        · have h1' : decide (x.size ≤ free) = false := decide_eq_false h1
          clear hfj CX
          go_wp2
          go_round
          case rel => exact ⟨j + 1, by omega, by go_num⟩
          case measure => simp [intOf]; omega
      · obtain ⟨b', off', eb, _, c0, c1, c2, c3⟩ := (KL.out w3 (Below.refl _ _)).en (i := k) hkl
        obtain ⟨rfl, rfl⟩ : b = b' ∧ off = off' := by injection eb with eb; injection eb with e1 e2; exact ⟨e1, e2⟩
        clear eb
        have CX := Lib.hid (CH.out w3 (Below.refl _ _) (el.getD k en0).id)
        generalize el.getD k en0 = x at *
        obtain ⟨h1, h2⟩ : x.size ≤ free ∧ decide (x.id ∈ sk) = false := by
          unfold fitP at hpk
          simpa using hpk
        rw [h2] at CX
        clear hpk h2
        go_wp2_with fail
        refine CX.out.mono ?_
        rintro e w' ⟨rfl, rfl⟩
        go_wp2
        go_ret
        exact ⟨rfl, BF.out⟩
end Go.Proofs.Ytjenpjpkgepceaa
