/- The walks of the exact laws of chapter 4. -/
import Derived.Test.YtcapioiigfldoaaRows
import Derived.Test.YtcapioiigfldoaaFallJ
namespace Go.Proofs.Ytcapioiigfldoaa
open Go.RowKit
set_option linter.unusedSimpArgs false
set_option linter.unusedVariables false
set_option maxRecDepth 100000 in
theorem left_spec' (a : Ar) (k : Int) (w : World) (hg : a.go) (_ : inI k) : Calls Try.prog 24 #[arA a, .int .i64 k] w fun e w' => e = .returned (arA (leftA a k)) ∧ Below w.heap.size w w' := left_spec a k w hg
set_option maxRecDepth 100000 in
set_option maxHeartbeats 800000 in
theorem FnExactLeft_walk (a : Ar) (n : Int) (w : World) (hg : a.go) (hn : inI n) : Calls Try.prog 5 #[arA a, .int .i64 n] w fun e w' => e = .returned (.bool true) ∧ Below w.heap.size w w' := by
  have CS := Lib.hid (fun w => szArea_any a 1048576 w hg (by omega) (by omega))
  have CT := Lib.hid (fun w => toArea_any a w)
  have C1 := Lib.hid (fun w => left_spec' a n w hg hn)
  have C2 := Lib.hid (fun w => left_impl a n w hg hn)
  clear hg
  generalize leftA a n = R at C1 C2
  obtain ⟨d, z⟩ := R
  have CE := Lib.hid (fun w => eqArea_same ⟨d, z⟩ w)
  unfold arA at CS CT C1 C2
  unfold arA at CE
  unfold arA
  go_enter Try.func5, Try.ntmps5
  go_wp2_with fail
  refine (CS.out _).mono ?_
  rintro e w1 ⟨⟨r, rfl, hr⟩, b1⟩
  clear hr
  by_cases hr0 : r < 0
  · go_wp2
    go_ret
    exact ⟨rfl, boxB _ _ _ b1⟩
  have q0 := boxk w w1 _ _ b1 0 _ rfl
  have q1 := boxk w w1 _ _ b1 1 _ rfl
  go_wp2_with fail
  refine (CT.out _).mono ?_
  rintro e w2 ⟨rfl, b2⟩
  go_wp2_with fail
  refine (C1.out _).mono ?_
  rintro e w3 ⟨rfl, b3⟩
  have b3 := b1.trans ((b2.trans (b3.mono b2.size)).mono b1.size)
  clear b1 b2
  clear q0 q1
  have q0 := boxk w w3 _ _ b3 0 _ rfl
  have q1 := boxk w w3 _ _ b3 1 _ rfl
  have lt3 : w.heap.size < w3.heap.size := by have := b3.size; simp at this; omega
  go_wp2_with fail
  refine (CT.out _).mono ?_
  rintro e w4 ⟨rfl, b4⟩
  go_wp2_with fail
  refine (C2.out _).mono ?_
  rintro e w5 ⟨rfl, b5⟩
  have b45 := b4.trans (b5.mono b4.size)
  clear b4 b5
  clear q0 q1
  have p0 := boxk w3 w5 _ _ b45 0 _ rfl
  have p1 := boxk w3 w5 _ _ b45 1 _ rfl
  have lt5 : w3.heap.size < w5.heap.size := by have := b45.size; simp at this; omega
  have b5 := (b3.alloc b3.size _).trans (b45.mono (by have := b3.size; simp at this ⊢; omega))
  clear b3 b45
  go_wp2_with fail
  refine (CE.out _).mono ?_
  rintro e w6 ⟨rfl, b6⟩
  have b6 := (b5.alloc b5.size _).trans (b6.mono (by have := b5.size; simp at this ⊢; omega))
  clear b5
  go_wp2
  go_ret
  exact ⟨rfl, boxB _ _ _ b6⟩
set_option maxRecDepth 100000 in
set_option maxHeartbeats 800000 in
theorem FnExactCalm_walk (s : St) (w : World) (hg : s.go) : Calls Try.prog 8 #[stA s] w fun e w' => e = .returned (.bool true) ∧ Below w.heap.size w w' := by
  have CS := Lib.hid (fun w => szStore_any s 1048576 w hg (by omega) (by omega))
  have CT := Lib.hid (fun w => toStore_any s w)
  have C1 := Lib.hid (fun w => calm_spec s w)
  have C2 := Lib.hid (fun w => calm_impl s w hg)
  clear hg
  generalize decide (calmS s) = R at C1 C2
  have nt : (R != R) = false := by simp
  unfold stA at CS CT C1 C2
  unfold stA
  go_enter Try.func8, Try.ntmps8
  go_wp2_with fail
  refine (CS.out _).mono ?_
  rintro e w1 ⟨⟨r, rfl, hr⟩, b1⟩
  clear hr
  by_cases hr0 : r < 0
  · go_wp2
    go_ret
    exact ⟨rfl, boxB _ _ _ b1⟩
  have q0 := boxk w w1 _ _ b1 0 _ rfl
  have q1 := boxk w w1 _ _ b1 1 _ rfl
  have q2 := boxk w w1 _ _ b1 2 _ rfl
  have q3 := boxk w w1 _ _ b1 3 _ rfl
  have q4 := boxk w w1 _ _ b1 4 _ rfl
  have q5 := boxk w w1 _ _ b1 5 _ rfl
  go_wp2_with fail
  refine (CT.out _).mono ?_
  rintro e w2 ⟨rfl, b2⟩
  go_wp2_with fail
  refine (C1.out _).mono ?_
  rintro e w3 ⟨rfl, b3⟩
  have b3 := b1.trans ((b2.trans (b3.mono b2.size)).mono b1.size)
  clear b1 b2
  clear q0 q1 q2 q3 q4 q5
  have q0 := boxk w w3 _ _ b3 0 _ rfl
  have q1 := boxk w w3 _ _ b3 1 _ rfl
  have q2 := boxk w w3 _ _ b3 2 _ rfl
  have q3 := boxk w w3 _ _ b3 3 _ rfl
  have q4 := boxk w w3 _ _ b3 4 _ rfl
  have q5 := boxk w w3 _ _ b3 5 _ rfl
  go_wp2_with fail
  refine (CT.out _).mono ?_
  rintro e w4 ⟨rfl, b4⟩
  go_wp2_with fail
  refine (C2.out _).mono ?_
  rintro e w5 ⟨rfl, b5⟩
  have b5 := b3.trans ((b4.trans (b5.mono b4.size)).mono b3.size)
  clear b3 b4
  clear q0 q1 q2 q3 q4 q5
  go_wp2
  go_ret
  exact ⟨rfl, boxB _ _ _ b5⟩
set_option maxRecDepth 100000 in
set_option maxHeartbeats 1600000 in
theorem FnExactCould_walk (s t : St) (w : World) (hg : s.go) (hg2 : t.go) : Calls Try.prog 7 #[stA s, stA t] w fun e w' => e = .returned (.bool true) ∧ Below w.heap.size w w' := by
  have CS := Lib.hid (fun w => szStore_any s 1048576 w hg (by omega) (by omega))
  have CT := Lib.hid (fun w q => szStore_any t q w hg2)
  unfold stA at CS CT
  unfold stA
  go_enter Try.func7, Try.ntmps7
  go_wp2_with fail
  refine (CS.out _).mono ?_
  rintro e w1 ⟨⟨r, rfl, hr⟩, b1⟩
  by_cases hr0 : r < 0
  · clear hr
    go_wp2
    go_ret
    exact ⟨rfl, boxB _ _ _ (boxB _ _ _ b1)⟩
  have hr1 : r ≤ 1048576 := by have := hr (by omega); omega
  have HR1 := Lib.hid (hr (by omega))
  clear hr
  have p0 := boxk _ w1 _ _ b1 0 _ rfl
  have p1 := boxk _ w1 _ _ b1 1 _ rfl
  have p2 := boxk _ w1 _ _ b1 2 _ rfl
  have p3 := boxk _ w1 _ _ b1 3 _ rfl
  have p4 := boxk _ w1 _ _ b1 4 _ rfl
  have p5 := boxk _ w1 _ _ b1 5 _ rfl
  simp only [World.size_alloc] at p0 p1 p2 p3 p4 p5
  go_wp2_with fail
  refine (CT.out _ _ (by omega) (by omega)).mono ?_
  rintro e w2 ⟨⟨r2, rfl, hr2⟩, b2⟩
  have b2 := b1.trans (b2.mono b1.size)
  clear b1 p0 p1 p2 p3 p4 p5
  by_cases hr3 : r2 < 0
  · clear hr2
    go_wp2
    go_ret
    exact ⟨rfl, boxB _ _ _ (boxB _ _ _ b2)⟩
  have HR2 := Lib.hid (hr2 (by omega))
  clear hr2
  have C1 := Lib.hid (fun w => could_spec s t w hg)
  have C2 := Lib.hid (fun w => could_impl s t w hg hg2)
  generalize decide (couldS s t) = R at C1 C2
  have nt : (R != R) = false := by simp
  have KS : Hid (∀ w', Below w2.heap.size w2 w' → ∀ k v, (#[.string s.log.data, .int .i64 s.log.safe, .string s.even.data, .int .i64 s.even.safe, .string s.odd.data, .int .i64 s.odd.safe] : Array Value)[k]? = some v → w'.cell? ⟨w.heap.size, k, none⟩ = some v) := fun w' h k v hk =>
    boxk w w' _ _ (boxB _ w' _ (b2.trans (h.mono b2.size))) k v hk
  have KT : Hid (∀ w', Below w2.heap.size w2 w' → ∀ k v, (#[.string t.log.data, .int .i64 t.log.safe, .string t.even.data, .int .i64 t.even.safe, .string t.odd.data, .int .i64 t.odd.safe] : Array Value)[k]? = some v → w'.cell? ⟨w.heap.size + 1, k, none⟩ = some v) := fun w' h k v hk => by
    have := boxk _ w' _ _ (b2.trans (h.mono b2.size)) k v hk
    rwa [World.size_alloc] at this
  have bW := Lib.hid (boxB _ _ _ (boxB _ _ _ b2))
  clear b2 CS CT HR1 HR2
  go_wp2_with fail
  refine wp_region_held_drew (S := fun w' => Hid (Below w2.heap.size w2 w')) (by kernel_rfl) (below_drawn (Below.refl _ _) 1) (fun hHeld => ?_)
  refine held_take 0 18 (stA s) rfl rfl (by kernel_rfl) (by kernel_rfl) (by kernel_rfl) (fun _ _ _ h => h) rfl hHeld (fun w hS => exec_loadSt _ s w (KS.out w hS.out)) ?_
  refine held_take 2 20 (stA t) rfl rfl (by kernel_rfl) (by kernel_rfl) (by kernel_rfl) (fun _ _ _ h => h) rfl hHeld (fun w hS => exec_loadSt _ t w (KT.out w hS.out)) ?_
  simp only [Act.put, List.setIfInBounds_toArray, List.set_cons_zero, List.set_cons_succ]
  refine held_call 1 19 28 #[stA s] rfl rfl (by kernel_rfl) rfl (exec_call Try.func28 (by kernel_rfl) (by kernel_rfl) _) ?_
  refine (toStore_any s _).mono ?_
  rintro e u1 ⟨rfl, x1⟩
  have k1 := hHeld.out.trans (x1.mono hHeld.out.size)
  refine ⟨_, rfl, k1, ?_⟩
  simp only [Act.put, List.setIfInBounds_toArray, List.set_cons_zero, List.set_cons_succ]
  refine held_call 3 21 28 #[stA t] rfl rfl (by kernel_rfl) rfl (exec_call Try.func28 (by kernel_rfl) (by kernel_rfl) _) ?_
  refine (toStore_any t _).mono ?_
  rintro e u2 ⟨rfl, x2⟩
  have k2 := k1.trans (x2.mono k1.size)
  refine ⟨_, rfl, k2, ?_⟩
  simp only [Act.put, List.setIfInBounds_toArray, List.set_cons_zero, List.set_cons_succ]
  refine held_call 4 22 32 #[stA s, stA t] rfl rfl (by kernel_rfl) rfl (exec_call Try.func32 (by kernel_rfl) (by kernel_rfl) _) ?_
  refine (C1.out _).mono ?_
  rintro e u3 ⟨rfl, x3⟩
  have k3 := k2.trans (x3.mono k2.size)
  refine ⟨_, rfl, k3, ?_⟩
  simp only [Act.put, List.setIfInBounds_toArray, List.set_cons_zero, List.set_cons_succ]
  refine held_op 5 6 (.bool R) rfl rfl (by kernel_rfl) rfl rfl k3 ?_
  simp only [Act.put, List.setIfInBounds_toArray, List.set_cons_zero, List.set_cons_succ]
  refine wpAnyH_done (by kernel_rfl) ?_ _
  have KS : Hid (∀ w', Below u3.heap.size u3 w' → ∀ k v, (#[.string s.log.data, .int .i64 s.log.safe, .string s.even.data, .int .i64 s.even.safe, .string s.odd.data, .int .i64 s.odd.safe] : Array Value)[k]? = some v → w'.cell? ⟨w.heap.size, k, none⟩ = some v) := fun w' h k v hk => KS.out w' (k3.trans (h.mono k3.size)) k v hk
  have KT : Hid (∀ w', Below u3.heap.size u3 w' → ∀ k v, (#[.string t.log.data, .int .i64 t.log.safe, .string t.even.data, .int .i64 t.even.safe, .string t.odd.data, .int .i64 t.odd.safe] : Array Value)[k]? = some v → w'.cell? ⟨w.heap.size + 1, k, none⟩ = some v) := fun w' h k v hk => KT.out w' (k3.trans (h.mono k3.size)) k v hk
  have bW := Lib.hid (bW.out.trans (k3.mono bW.out.size))
  clear k1 k2 k3 x1 x2 x3 hHeld
  go_wp2_with fail
  refine wp_region_held_drew (S := fun w' => Hid (Below u3.heap.size u3 w')) (by kernel_rfl) (below_drawn (Below.refl _ _) 1) (fun hHeld => ?_)
  refine held_take 0 23 (stA s) rfl rfl (by kernel_rfl) (by kernel_rfl) (by kernel_rfl) (fun _ _ _ h => h) rfl hHeld (fun w hS => exec_loadSt _ s w (KS.out w hS.out)) ?_
  refine held_take 2 25 (stA t) rfl rfl (by kernel_rfl) (by kernel_rfl) (by kernel_rfl) (fun _ _ _ h => h) rfl hHeld (fun w hS => exec_loadSt _ t w (KT.out w hS.out)) ?_
  simp only [Act.put, List.setIfInBounds_toArray, List.set_cons_zero, List.set_cons_succ]
  refine held_call 1 24 28 #[stA s] rfl rfl (by kernel_rfl) rfl (exec_call Try.func28 (by kernel_rfl) (by kernel_rfl) _) ?_
  refine (toStore_any s _).mono ?_
  rintro e v1 ⟨rfl, x1⟩
  have k1 := hHeld.out.trans (x1.mono hHeld.out.size)
  refine ⟨_, rfl, k1, ?_⟩
  simp only [Act.put, List.setIfInBounds_toArray, List.set_cons_zero, List.set_cons_succ]
  refine held_call 3 26 28 #[stA t] rfl rfl (by kernel_rfl) rfl (exec_call Try.func28 (by kernel_rfl) (by kernel_rfl) _) ?_
  refine (toStore_any t _).mono ?_
  rintro e v2 ⟨rfl, x2⟩
  have k2 := k1.trans (x2.mono k1.size)
  refine ⟨_, rfl, k2, ?_⟩
  simp only [Act.put, List.setIfInBounds_toArray, List.set_cons_zero, List.set_cons_succ]
  refine held_call 4 27 14 #[stA s, stA t] rfl rfl (by kernel_rfl) rfl (exec_call Try.func14 (by kernel_rfl) (by kernel_rfl) _) ?_
  refine (C2.out _).mono ?_
  rintro e v3 ⟨rfl, x3⟩
  have k3 := k2.trans (x3.mono k2.size)
  refine ⟨_, rfl, k3, ?_⟩
  simp only [Act.put, List.setIfInBounds_toArray, List.set_cons_zero, List.set_cons_succ]
  refine held_op 5 7 (.bool R) rfl rfl (by kernel_rfl) rfl rfl k3 ?_
  simp only [Act.put, List.setIfInBounds_toArray, List.set_cons_zero, List.set_cons_succ]
  refine wpAnyH_done (by kernel_rfl) ?_ _
  go_wp2
  go_ret
  exact ⟨rfl, bW.out.trans (k3.mono bW.out.size)⟩
set_option maxRecDepth 100000 in
set_option maxHeartbeats 1600000 in
theorem FnExactLost_walk (s t : St) (w : World) (hg : s.go) (hg2 : t.go) : Calls Try.prog 9 #[stA s, stA t] w fun e w' => e = .returned (.bool true) ∧ Below w.heap.size w w' := by
  have CS := Lib.hid (fun w => szStore_any s 1048576 w hg (by omega) (by omega))
  have CT := Lib.hid (fun w q => szStore_any t q w hg2)
  unfold stA at CS CT
  unfold stA
  go_enter Try.func9, Try.ntmps9
  go_wp2_with fail
  refine (CS.out _).mono ?_
  rintro e w1 ⟨⟨r, rfl, hr⟩, b1⟩
  by_cases hr0 : r < 0
  · clear hr
    go_wp2
    go_ret
    exact ⟨rfl, boxB _ _ _ (boxB _ _ _ b1)⟩
  have hr1 : r ≤ 1048576 := by have := hr (by omega); omega
  have HR1 := Lib.hid (hr (by omega))
  clear hr
  have p0 := boxk _ w1 _ _ b1 0 _ rfl
  have p1 := boxk _ w1 _ _ b1 1 _ rfl
  have p2 := boxk _ w1 _ _ b1 2 _ rfl
  have p3 := boxk _ w1 _ _ b1 3 _ rfl
  have p4 := boxk _ w1 _ _ b1 4 _ rfl
  have p5 := boxk _ w1 _ _ b1 5 _ rfl
  simp only [World.size_alloc] at p0 p1 p2 p3 p4 p5
  go_wp2_with fail
  refine (CT.out _ _ (by omega) (by omega)).mono ?_
  rintro e w2 ⟨⟨r2, rfl, hr2⟩, b2⟩
  have b2 := b1.trans (b2.mono b1.size)
  clear b1 p0 p1 p2 p3 p4 p5
  by_cases hr3 : r2 < 0
  · clear hr2
    go_wp2
    go_ret
    exact ⟨rfl, boxB _ _ _ (boxB _ _ _ b2)⟩
  have HR2 := Lib.hid (hr2 (by omega))
  clear hr2
  have hl1 : lenS s ≤ 2097152 := by have := HR1.out; unfold lenS; omega
  have hl2 : lenS t ≤ 2097152 := by have := HR1.out; have := HR2.out; unfold lenS; omega
  have C1 := Lib.hid (fun w => lost_spec s t w hg hl1 hl2)
  have C2 := Lib.hid (fun w => lost_impl s t w hg hg2 hl1 hl2)
  generalize lostS s t = R at C1 C2
  have nt : (R != R) = false := by simp
  have KS : Hid (∀ w', Below w2.heap.size w2 w' → ∀ k v, (#[.string s.log.data, .int .i64 s.log.safe, .string s.even.data, .int .i64 s.even.safe, .string s.odd.data, .int .i64 s.odd.safe] : Array Value)[k]? = some v → w'.cell? ⟨w.heap.size, k, none⟩ = some v) := fun w' h k v hk =>
    boxk w w' _ _ (boxB _ w' _ (b2.trans (h.mono b2.size))) k v hk
  have KT : Hid (∀ w', Below w2.heap.size w2 w' → ∀ k v, (#[.string t.log.data, .int .i64 t.log.safe, .string t.even.data, .int .i64 t.even.safe, .string t.odd.data, .int .i64 t.odd.safe] : Array Value)[k]? = some v → w'.cell? ⟨w.heap.size + 1, k, none⟩ = some v) := fun w' h k v hk => by
    have := boxk _ w' _ _ (b2.trans (h.mono b2.size)) k v hk
    rwa [World.size_alloc] at this
  have bW := Lib.hid (boxB _ _ _ (boxB _ _ _ b2))
  clear b2 CS CT HR1 HR2
  go_wp2_with fail
  refine wp_region_held_drew (S := fun w' => Hid (Below w2.heap.size w2 w')) (by kernel_rfl) (below_drawn (Below.refl _ _) 1) (fun hHeld => ?_)
  refine held_take 0 18 (stA s) rfl rfl (by kernel_rfl) (by kernel_rfl) (by kernel_rfl) (fun _ _ _ h => h) rfl hHeld (fun w hS => exec_loadSt _ s w (KS.out w hS.out)) ?_
  refine held_take 2 20 (stA t) rfl rfl (by kernel_rfl) (by kernel_rfl) (by kernel_rfl) (fun _ _ _ h => h) rfl hHeld (fun w hS => exec_loadSt _ t w (KT.out w hS.out)) ?_
  simp only [Act.put, List.setIfInBounds_toArray, List.set_cons_zero, List.set_cons_succ]
  refine held_call 1 19 28 #[stA s] rfl rfl (by kernel_rfl) rfl (exec_call Try.func28 (by kernel_rfl) (by kernel_rfl) _) ?_
  refine (toStore_any s _).mono ?_
  rintro e u1 ⟨rfl, x1⟩
  have k1 := hHeld.out.trans (x1.mono hHeld.out.size)
  refine ⟨_, rfl, k1, ?_⟩
  simp only [Act.put, List.setIfInBounds_toArray, List.set_cons_zero, List.set_cons_succ]
  refine held_call 3 21 28 #[stA t] rfl rfl (by kernel_rfl) rfl (exec_call Try.func28 (by kernel_rfl) (by kernel_rfl) _) ?_
  refine (toStore_any t _).mono ?_
  rintro e u2 ⟨rfl, x2⟩
  have k2 := k1.trans (x2.mono k1.size)
  refine ⟨_, rfl, k2, ?_⟩
  simp only [Act.put, List.setIfInBounds_toArray, List.set_cons_zero, List.set_cons_succ]
  refine held_call 4 22 34 #[stA s, stA t] rfl rfl (by kernel_rfl) rfl (exec_call Try.func34 (by kernel_rfl) (by kernel_rfl) _) ?_
  refine (C1.out _).mono ?_
  rintro e u3 ⟨rfl, x3⟩
  have k3 := k2.trans (x3.mono k2.size)
  refine ⟨_, rfl, k3, ?_⟩
  simp only [Act.put, List.setIfInBounds_toArray, List.set_cons_zero, List.set_cons_succ]
  refine held_op 5 6 (.int .i64 R) rfl rfl (by kernel_rfl) rfl rfl k3 ?_
  simp only [Act.put, List.setIfInBounds_toArray, List.set_cons_zero, List.set_cons_succ]
  refine wpAnyH_done (by kernel_rfl) ?_ _
  have KS : Hid (∀ w', Below u3.heap.size u3 w' → ∀ k v, (#[.string s.log.data, .int .i64 s.log.safe, .string s.even.data, .int .i64 s.even.safe, .string s.odd.data, .int .i64 s.odd.safe] : Array Value)[k]? = some v → w'.cell? ⟨w.heap.size, k, none⟩ = some v) := fun w' h k v hk => KS.out w' (k3.trans (h.mono k3.size)) k v hk
  have KT : Hid (∀ w', Below u3.heap.size u3 w' → ∀ k v, (#[.string t.log.data, .int .i64 t.log.safe, .string t.even.data, .int .i64 t.even.safe, .string t.odd.data, .int .i64 t.odd.safe] : Array Value)[k]? = some v → w'.cell? ⟨w.heap.size + 1, k, none⟩ = some v) := fun w' h k v hk => KT.out w' (k3.trans (h.mono k3.size)) k v hk
  have bW := Lib.hid (bW.out.trans (k3.mono bW.out.size))
  clear k1 k2 k3 x1 x2 x3 hHeld
  go_wp2_with fail
  refine wp_region_held_drew (S := fun w' => Hid (Below u3.heap.size u3 w')) (by kernel_rfl) (below_drawn (Below.refl _ _) 1) (fun hHeld => ?_)
  refine held_take 0 23 (stA s) rfl rfl (by kernel_rfl) (by kernel_rfl) (by kernel_rfl) (fun _ _ _ h => h) rfl hHeld (fun w hS => exec_loadSt _ s w (KS.out w hS.out)) ?_
  refine held_take 2 25 (stA t) rfl rfl (by kernel_rfl) (by kernel_rfl) (by kernel_rfl) (fun _ _ _ h => h) rfl hHeld (fun w hS => exec_loadSt _ t w (KT.out w hS.out)) ?_
  simp only [Act.put, List.setIfInBounds_toArray, List.set_cons_zero, List.set_cons_succ]
  refine held_call 1 24 28 #[stA s] rfl rfl (by kernel_rfl) rfl (exec_call Try.func28 (by kernel_rfl) (by kernel_rfl) _) ?_
  refine (toStore_any s _).mono ?_
  rintro e v1 ⟨rfl, x1⟩
  have k1 := hHeld.out.trans (x1.mono hHeld.out.size)
  refine ⟨_, rfl, k1, ?_⟩
  simp only [Act.put, List.setIfInBounds_toArray, List.set_cons_zero, List.set_cons_succ]
  refine held_call 3 26 28 #[stA t] rfl rfl (by kernel_rfl) rfl (exec_call Try.func28 (by kernel_rfl) (by kernel_rfl) _) ?_
  refine (toStore_any t _).mono ?_
  rintro e v2 ⟨rfl, x2⟩
  have k2 := k1.trans (x2.mono k1.size)
  refine ⟨_, rfl, k2, ?_⟩
  simp only [Act.put, List.setIfInBounds_toArray, List.set_cons_zero, List.set_cons_succ]
  refine held_call 4 27 15 #[stA s, stA t] rfl rfl (by kernel_rfl) rfl (exec_call Try.func15 (by kernel_rfl) (by kernel_rfl) _) ?_
  refine (C2.out _).mono ?_
  rintro e v3 ⟨rfl, x3⟩
  have k3 := k2.trans (x3.mono k2.size)
  refine ⟨_, rfl, k3, ?_⟩
  simp only [Act.put, List.setIfInBounds_toArray, List.set_cons_zero, List.set_cons_succ]
  refine held_op 5 7 (.int .i64 R) rfl rfl (by kernel_rfl) rfl rfl k3 ?_
  simp only [Act.put, List.setIfInBounds_toArray, List.set_cons_zero, List.set_cons_succ]
  refine wpAnyH_done (by kernel_rfl) ?_ _
  go_wp2
  go_ret
  exact ⟨rfl, bW.out.trans (k3.mono bW.out.size)⟩
theorem Rws.below' {w w' : World} {A : Option Addr} {cs : List Value} (h : Rws w w.heap.size A cs) (hb : Below w.heap.size w w') : Rws w' w'.heap.size A cs := (h.below hb).more hb.size
set_option maxRecDepth 100000 in
set_option maxHeartbeats 1600000 in
theorem FnExactFallen_walk (s : St) (A : Option Addr) (l : List Int) (c : Nat) (w : World) (hg : s.go) (hl : l.length ≤ 9223372036854775807) (hi : ∀ z ∈ l, inI z) (hA : Rws w w.heap.size A (ints l)) :
    Calls Try.prog 6 #[stA s, .slice A l.length c] w fun e w' => e = .returned (.bool true) ∧ Below w.heap.size w w' := by
  by_cases hbig : 1048576 < l.length
  · unfold stA
    go_enter Try.func6, Try.ntmps6
    go_wp2
    go_ret
    exact ⟨rfl, (Below.refl _ _).alloc (Nat.le_refl _) _⟩
  have hle : l.length ≤ 2097152 := by omega
  have CS := Lib.hid (fun w => szStore_any s 1048576 w hg (by omega) (by omega))
  have CT := Lib.hid (fun w => toStore_any s w)
  have CI := Lib.hid (fun w (h : Rws w w.heap.size A (ints l)) => toInt_any A l c w.heap.size w hle h (Nat.le_refl _))
  have C1 := Lib.hid (fun A c w h => fallen_spec s A l c w hg hl h)
  have C2 := Lib.hid (fun A c w h => fallen_impl s A l c w hg hle hi h)
  clear hg hi
  generalize fallS s l = R at C1 C2
  have CE := Lib.hid (fun w => eqStore_same R w)
  unfold stA at CS CT C1 C2 CE ⊢
  go_enter Try.func6, Try.ntmps6
  go_wp2_with fail
  refine (CS.out _).mono ?_
  rintro e w1 ⟨⟨r, rfl, hr⟩, b1⟩
  clear hr
  by_cases hr0 : r < 0
  · go_wp2
    go_ret
    exact ⟨rfl, boxB _ _ _ b1⟩
  have q0 := boxk w w1 _ _ b1 0 _ rfl
  have q1 := boxk w w1 _ _ b1 1 _ rfl
  have q2 := boxk w w1 _ _ b1 2 _ rfl
  have q3 := boxk w w1 _ _ b1 3 _ rfl
  have q4 := boxk w w1 _ _ b1 4 _ rfl
  have q5 := boxk w w1 _ _ b1 5 _ rfl
  go_wp2_with fail
  refine (CT.out _).mono ?_
  rintro e w2 ⟨rfl, b2⟩
  have b2 := b1.trans (b2.mono b1.size)
  clear b1 q0 q1 q2 q3 q4 q5
  have bW := boxB _ _ _ b2
  go_wp2_with fail
  refine (CI.out _ (hA.below' bW)).mono ?_
  rintro e w3 ⟨rfl, rfl⟩
  have x3 : Below w2.heap.size w2 (w2.alloc (.cells (ints l).toArray 3)) := (Below.refl _ _).alloc (Nat.le_refl _) _
  have b3 := b2.trans (x3.mono b2.size)
  clear b2 bW x3
  have hR := (Rws.new w2 (ints l) 3)
  go_wp2_with fail
  refine (C1.out _ _ _ (by rw [World.size_alloc]; exact hR)).mono ?_
  rintro e w4 ⟨rfl, b4⟩
  have b4 := b3.trans (b4.mono b3.size)
  clear b3 hR
  have lt4 : w.heap.size < w4.heap.size := by have := b4.size; simp at this; omega
  have bW := boxB _ _ _ b4
  have bA := bW.alloc bW.size (.cells #[.string R.log.data, .int .i64 R.log.safe, .string R.even.data, .int .i64 R.even.safe, .string R.odd.data, .int .i64 R.odd.safe] 27)
  go_wp2_with fail
  refine (CI.out _ (hA.below' bA)).mono ?_
  rintro e w5 ⟨rfl, rfl⟩
  have hS := heap_new w4 (.cells #[.string R.log.data, .int .i64 R.log.safe, .string R.even.data, .int .i64 R.even.safe, .string R.odd.data, .int .i64 R.odd.safe] 27)
  have hS := blk_alloc hS (.cells (ints l).toArray 3)
  have b5 := b4.alloc b4.size (.cells #[.string R.log.data, .int .i64 R.log.safe, .string R.even.data, .int .i64 R.even.safe, .string R.odd.data, .int .i64 R.odd.safe] 27)
  have hX := Rws.new (w4.alloc (.cells #[.string R.log.data, .int .i64 R.log.safe, .string R.even.data, .int .i64 R.even.safe, .string R.odd.data, .int .i64 R.odd.safe] 27)) (ints l) 3
  rw [World.size_alloc] at hX
  have b5 := b5.alloc (by have := b4.size; simp at this ⊢; omega) (.cells (ints l).toArray 3)
  clear bA bW
  obtain ⟨U, hU⟩ : ∃ U, (w4.alloc (.cells #[.string R.log.data, .int .i64 R.log.safe, .string R.even.data, .int .i64 R.even.safe, .string R.odd.data, .int .i64 R.odd.safe] 27)).alloc (.cells (ints l).toArray 3) = U := ⟨_, rfl⟩
  rw [hU] at hS hX b5
  have hUs : U.heap.size = w4.heap.size + 1 + 1 := by rw [← hU]; simp
  have q0 := boxk w U _ _ b5 0 _ rfl
  have q1 := boxk w U _ _ b5 1 _ rfl
  have q2 := boxk w U _ _ b5 2 _ rfl
  have q3 := boxk w U _ _ b5 3 _ rfl
  have q4 := boxk w U _ _ b5 4 _ rfl
  have q5 := boxk w U _ _ b5 5 _ rfl
  go_wp2_with fail
  refine (CT.out _).mono ?_
  rintro e w6 ⟨rfl, x6⟩
  have b6 := b5.trans (x6.mono b5.size)
  have hS := blk_call hS x6
  have hX := (hX.more (by omega)).below' x6
  clear b5 x6 q0 q1 q2 q3 q4 q5 hU hUs b4
  go_wp2_with fail
  refine (C2.out _ _ _ hX).mono ?_
  rintro e w7 ⟨rfl, x7⟩
  have b7 := b6.trans (x7.mono b6.size)
  have hS := blk_call hS x7
  have hX := hX.below' x7
  clear b6 x7
  have ltS := blk_lt hS
  have c0 := cell_of_row _ _ 0 _ _ _ hS
  have c1 := cell_of_row _ _ 1 _ _ _ hS
  have c2 := cell_of_row _ _ 2 _ _ _ hS
  have c3 := cell_of_row _ _ 3 _ _ _ hS
  have c4 := cell_of_row _ _ 4 _ _ _ hS
  have c5 := cell_of_row _ _ 5 _ _ _ hS
  simp at c0 c1 c2 c3 c4 c5
  go_wp2_with fail
  refine (CE.out _).mono ?_
  rintro e w8 ⟨rfl, x8⟩
  have b8 := (b7.alloc b7.size (.cells #[.string R.log.data, .int .i64 R.log.safe, .string R.even.data, .int .i64 R.even.safe, .string R.odd.data, .int .i64 R.odd.safe] 27)).trans (x8.mono (by have := b7.size; simp at this ⊢; omega))
  have hX := (hX.alloc (Nat.le_refl _) (.cells #[.string R.log.data, .int .i64 R.log.safe, .string R.even.data, .int .i64 R.even.safe, .string R.odd.data, .int .i64 R.odd.safe] 27))
  have hX := (hX.more (show _ ≤ (w7.alloc (.cells #[.string R.log.data, .int .i64 R.log.safe, .string R.even.data, .int .i64 R.even.safe, .string R.odd.data, .int .i64 R.odd.safe] 27)).heap.size by simp)).below' x8
  clear b7 x8 c0 c1 c2 c3 c4 c5 hS
  have bW := boxB _ _ _ b8
  go_wp2_with fail
  refine (CI.out _ (hA.below' bW)).mono ?_
  rintro e w9 ⟨rfl, rfl⟩
  have x9 : Below w8.heap.size w8 (w8.alloc (.cells (ints l).toArray 3)) := (Below.refl _ _).alloc (Nat.le_refl _) _
  have hX := hX.below' x9
  have hY := Rws.new w8 (ints l) 3
  go_wp2_with fail
  refine (eqInt_same _ _ l _ _ _ _ _ hle hX hY).mono ?_
  rintro e w10 ⟨rfl, x10⟩
  have x10 := x9.trans (x10.mono (by simp))
  go_wp2
  go_ret
  exact ⟨rfl, bW.trans (x10.mono bW.size)⟩
end Go.Proofs.Ytcapioiigfldoaa
