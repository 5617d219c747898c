/- QueueAt, FirstFit of the model. -/
import Derived.Test.YtlflgflmlfileaaGreatRows
import Derived.Test.YtlflgflmlfileaaGreatEnL
import Derived.Test.YtlflgflmlfileaaGreatHs4
import Derived.Test.YtlflgflmlfileaaGreatHs6
namespace Go.Proofs.YtlflgflmlfileaaGreat
open Go.RowKit
set_option linter.unusedSimpArgs false
set_option linter.unusedVariables false
/-- Where an entry stands in the list. -/
def enAt (l : List En) (id : Int) : Int := idxV (l.findIdx? fun x => x.id == id)
/-- An entry that fits and is not skipped. -/
def fitP (free : Int) (sk : List Int) (x : En) : Bool := decide (x.size ≤ free) && !decide (x.id ∈ sk)
def fitAt (l : List En) (free : Int) (sk : List Int) : Int := idxV (l.findIdx? (fitP free sk))
set_option maxRecDepth 100000 in
set_option maxHeartbeats 800000 in
theorem queueAt_spec (A : Option Addr) (l : List En) (c : Nat) (id : Int) (w : World) (hl : l.length ≤ 2097152) (hA : Rws w w.heap.size A (l.flatMap enC)) :
    Calls Tryz.prog 104 #[.slice A l.length c, .int .i64 id] w fun e w' => e = .returned (.int .i64 (enAt l id)) ∧ w = w' := by
  go_enter Tryz.func104, Tryz.ntmps104
  go_wp2
  go_loop [5] (fun i => ∃ k : Nat, k ≤ l.length ∧ i = .int .i64 k ∧ (∀ j, j < k → ((l.getD j en0).id == id) = false)) (fun i => l.length - (intOf i).toNat)
  case atStart => exact ⟨0, by omega, rfl, (fun j hj => by omega)⟩
  case round =>
    obtain ⟨k, hk, rfl, hall⟩ := hrel
    by_cases hlt : k < l.length
    · obtain ⟨b, off, rfl, hbB, hc⟩ := hA.en hlt
      by_cases hx : ((l.getD k en0).id == id) = true
      · have HY : Hid (enAt l id = (k : Int)) := by
          show _ = _
          unfold enAt; rw [findIdx_at _ l en0 k hlt hall hx]; rfl
        clear hall
        generalize l.getD k en0 = x at *
        obtain ⟨c0, c1, c2, c3⟩ := hc
        go_wp2
        go_ret
        exact ⟨by rw [HY.out] <;> rfl, rfl⟩
      · have hx : ((l.getD k en0).id == id) = false := by simpa using hx
        have hall' : ∀ j, j < k + 1 → ((l.getD j en0).id == id) = false := by
          intro j hj
          by_cases e : j = k
          · subst e; exact hx
          · exact hall j (by omega)
        have HA := Lib.hid hall'
        clear hall hall'
        generalize l.getD k en0 = x at *
        obtain ⟨c0, c1, c2, c3⟩ := hc
        go_wp2
        go_round
        case rel => exact ⟨k + 1, by omega, by go_num, HA.out⟩
        case measure => simp [intOf]; omega
    · obtain rfl : k = l.length := by omega
      have HN : Hid (enAt l id = -1) := by
        show _ = _
        unfold enAt; rw [findIdx_no _ l en0 hall]; rfl
      clear hall
      go_wp2
      go_ret
      exact ⟨by rw [HN.out] <;> rfl, rfl⟩
end Go.Proofs.YtlflgflmlfileaaGreat
