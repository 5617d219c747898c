/- QueuePut, QueueCut of the model. -/
import Derived.Test.YtlflgflmlfileaaGreatRows
import Derived.Test.YtlflgflmlfileaaGreatEn3
namespace Go.Proofs.YtlflgflmlfileaaGreat
open Go.RowKit
set_option linter.unusedSimpArgs false
set_option linter.unusedVariables false
/-- A new row of entries and a bool. -/
def GotQ (w : World) (r : List En × Bool) (e : Ending) (w' : World) : Prop := ∃ B d, e = .returned (.tuple #[.slice B r.1.length d, .bool r.2]) ∧ w'.ownsRow w.heap.size 100 4 (.slice B r.1.length d) r.1.length (r.1.flatMap enC) ∧ Below w.heap.size w w'
/-- What QueuePut returns. -/
def quPutV (l : List En) (x : En) : List En × Bool := if quB l = true ∧ quB (enPut l x) = true then (enPut l x, true) else (l, false)
theorem quPutV_no {l : List En} {x : En} (h : ¬ (quB l = true ∧ quB (enPut l x) = true)) : quPutV l x = (l, false) := if_neg h
theorem quPutV_yes {l : List En} {x : En} (h1 : quB l = true) (h2 : quB (enPut l x) = true) : quPutV l x = (enPut l x, true) := if_pos ⟨h1, h2⟩
/-- What QueueCut returns. -/
def quCutV (l : List En) (id : Int) : List En × Bool := if enAt l id < 0 then (l, false) else (l.take (enAt l id).toNat ++ l.drop ((enAt l id).toNat + 1), true)
theorem quPutV_len (l : List En) (x : En) : (quPutV l x).1.length ≤ l.length + 1 := by
  unfold quPutV
  split
  · rw [enPut_len]; omega
  · show l.length ≤ _; omega
theorem quCutV_len (l : List En) (id : Int) : (quCutV l id).1.length ≤ l.length := by
  unfold quCutV
  split
  · exact Nat.le_refl _
  · simp only [List.length_append, List.length_take, List.length_drop]; omega
set_option maxRecDepth 100000 in
set_option maxHeartbeats 3200000 in
theorem queuePut_spec (A : Option Addr) (l : List En) (c : Nat) (x : En) (w : World) (hl : l.length ≤ 2097152) (hc : l.length ≤ c) (hn : A = none → c = 0) (hA : Rws w w.heap.size A (l.flatMap enC)) :
    Calls Tryz.prog 76 #[.slice A l.length c, enA x] w (GotQ w (quPutV l x)) := by
  have bW : Hid (Below w.heap.size w (w.alloc (.cells #[.int .i64 x.lev, .int .i64 x.turn, .int .i64 x.id, .int .i64 x.size] 100))) := (Below.refl _ _).alloc (Nat.le_refl _) _
  have CP := Lib.hid (l7Put_spec A l c x (w.alloc (.cells #[.int .i64 x.lev, .int .i64 x.turn, .int .i64 x.id, .int .i64 x.size] 100)) hl hc hn (rws_below hA bW.out))
  have HL := Lib.hid (enPut_len l x)
  generalize hP : enPut l x = P at *
  unfold enA at CP
  unfold enA
  go_enter Tryz.func76, Tryz.ntmps76
  go_wp2_with fail
  refine CP.out.mono ?_
  rintro e w1 ⟨PA, pc, rfl, o1, b1⟩
  have HO1 := Lib.hid o1
  have B1 : Hid (Below w.heap.size w w1) := bW.out.trans (b1.mono bW.out.size)
  clear CP o1 b1
  have CQ := Lib.hid (queueOk_spec A l c w1 (by omega) (rws_below hA B1.out))
  obtain ⟨q1, eq1⟩ : ∃ q, quB l = q := ⟨_, rfl⟩
  rw [eq1] at CQ
  go_wp2_with fail
  refine CQ.out.mono ?_
  rintro e w2 ⟨rfl, b2⟩
  have B2 : Hid (Below w.heap.size w w2) := B1.out.trans (b2.mono B1.out.size)
  have HO2 := Lib.hid (own_below HO1.out b2)
  clear HO1 b2 CQ
  cases q1 with
  | false =>
    have HV := Lib.hid (quPutV_no (l := l) (x := x) (fun h => by rw [eq1] at h; cases h.1))
    have CC := Lib.hid (l7Copy_spec A l c w2 hl hc hn (rws_below hA B2.out))
    clear eq1
    go_wp2_with fail
    refine CC.out.mono ?_
    rintro e w3 ⟨CA, cc, rfl, o3, b3⟩
    have R : Hid (GotQ w (l, false) (.returned (.tuple #[.slice CA l.length cc, .bool false])) w3) := ⟨CA, cc, rfl, own_weak o3 B2.out.size, B2.out.trans (b3.mono B2.out.size)⟩
    clear CC o3 b3
    go_wp2
    simp [bodyPost, results, Tryz.results76, go_sem]
    rw [HV.out]
    exact R.out
  | true =>
    have CQ := Lib.hid (queueOk_spec PA P pc w2 (by have := HL.out; omega) (own_rws HO2.out))
    obtain ⟨q2, eq2⟩ : ∃ q, quB P = q := ⟨_, rfl⟩
    rw [eq2] at CQ
    have HE := Lib.hid eq1
    clear eq1
    go_wp2_with fail
    refine CQ.out.mono ?_
    rintro e w3 ⟨rfl, b3⟩
    have B3 : Hid (Below w.heap.size w w3) := B2.out.trans (b3.mono B2.out.size)
    have HO3 := Lib.hid (own_below HO2.out b3)
    clear HO2 b3 CQ
    cases q2 with
    | false =>
      have HV := Lib.hid (quPutV_no (l := l) (x := x) (fun h => by rw [hP, eq2] at h; cases h.2))
      have CC := Lib.hid (l7Copy_spec A l c w3 hl hc hn (rws_below hA B3.out))
      clear eq2 hP
      go_wp2_with fail
      refine CC.out.mono ?_
      rintro e w4 ⟨CA, cc, rfl, o3, b3⟩
      have R : Hid (GotQ w (l, false) (.returned (.tuple #[.slice CA l.length cc, .bool false])) w4) := ⟨CA, cc, rfl, own_weak o3 B3.out.size, B3.out.trans (b3.mono B3.out.size)⟩
      clear CC o3 b3
      go_wp2
      simp [bodyPost, results, Tryz.results76, go_sem]
      rw [HV.out]
      exact R.out
    | true =>
      have HV := Lib.hid (quPutV_yes (l := l) (x := x) HE.out (by rw [hP]; exact eq2))
      rw [hP] at HV
      clear eq2 hP
      have R : Hid (GotQ w (P, true) (.returned (.tuple #[.slice PA P.length pc, .bool true])) w3) := ⟨PA, pc, rfl, own_weak HO3.out bW.out.size, B3.out⟩
      go_wp2
      simp [bodyPost, results, Tryz.results76, go_sem]
      rw [HV.out]
      exact R.out
end Go.Proofs.YtlflgflmlfileaaGreat
