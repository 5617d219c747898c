/- PutText: what the program and the model return. -/
import Derived.Test.YtefoegicjigpaaaApp
import Derived.Lib.AppendStr
import Derived.Laws.IdiomStrings
namespace Go.Proofs.Ytefoegicjigpaaa
open Go.RowKit

/-- The bytes of a string, as numbers. -/
def strN (s : ByteArray) : List Nat := s.data.toList.map UInt8.toNat
theorem strN_length (s : ByteArray) : (strN s).length = s.size := by rw [strN, List.length_map, Array.length_toList]; rfl
theorem strN_all (s : ByteArray) : AllB (strN s) := by
  intro b hb
  simp only [strN, List.mem_map] at hb
  obtain ⟨c, _, rfl⟩ := hb
  exact c.toNat_lt
theorem strCells_eq (s : ByteArray) : Lib.strCells s = bcells (strN s) := by
  unfold Lib.strCells bcells strN
  rw [List.map_map]
  rfl
theorem strN_getD (s : ByteArray) (k : Nat) (h : k < s.data.size) : (strN s).getD k 0 = s.data[k].toNat := by
  simp [strN]
  rw [Array.getElem?_eq_getElem h]; rfl
/-- append(v, s...) for a string s. -/
theorem wpList_appS (w : World) {ops : Array Oper} {rest : List Oper} {o : Oper} {a : Act} {Q : Exit → Act → World → Prop} (hgd : o.guard = none) (sl x : Operand)
    (ho : o.op = .call { callee := .builtin .append, args := #[sl, x], argTypes := #[22, 9] })
    (base : Nat) (v : Value) (p : List Nat) (hs : a.eval sl = v) (hown : OwnB w base v p) (s : ByteArray) (hx : a.eval x = .string s)
    (hlen : p.length + s.size ≤ 1099511627776) (hbase : base ≤ w.heap.size)
    (h : ∀ v' w', OwnB w' base v' (p ++ strN s) → w.grownBy w' v.ownBlock → wpList Try.prog ops Q rest (a.put o.dst v') w') :
    wpList Try.prog ops Q (o :: rest) a w := by
  obtain ⟨i0, hi, hz0, hz1, hz2⟩ := info_parts info5
  refine Lib.wpList_append_own_string (P := Try.prog) w hgd sl x 22 9 ho base 5 i0 Try.underlying22 Try.underlying9 hi hz0 hz1 hz2 v p.length (bcells p) hs hown s hx (by unfold maxLen; omega) (by omega) hbase ?_
  intro v' w' h1 h2 _
  exact h v' w' (by unfold OwnB; rw [List.length_append, bcells_append, strN_length, ← strCells_eq]; exact h1) h2

set_option maxHeartbeats 400000 in
theorem putText_impl (s : ByteArray) (w : World) (hs : s.size ≤ 2097152) : Calls Try.prog 16 #[.string s] w (NewB w (encI s.size ++ strN s)) := by
  have hle : (encI s.size).length ≤ 5 := by
    unfold encI; split
    · exact (encF_len 4 _).1
    · simp
  have c2 := putNum_impl (s.size : Int)
  generalize encI s.size = l at *
  have C2 := Lib.hid c2
  clear c2
  go_enter Try.func16, Try.ntmps16
  go_wp2_with fail
  refine (C2.out _).mono ?_
  rintro e w1 ⟨A1, a1, rfl, o1, b1⟩
  have hsz := b1.size
  go_wp2_with (at_builtin; refine wpList_appS _ rfl (.tmp 5) (.tmp 6) rfl w.heap.size _ l rfl o1 s rfl (by omega) (by omega) ?_)
  intro v' w2 o2 g2
  have R := Lib.hid (NewB.of_own o2 (b1.grown g2 hsz (own_lo o1)))
  clear o1 o2 g2 b1
  go_wp2
  go_ret
  exact R.out

theorem row_cells (w : World) (s : ByteArray) (cap : Nat) (fr : Nat × Nat) : ∀ k, k < (strN s).length → (w.alloc (.cells (bytesRow s cap) 5 fr)).cell? ⟨w.heap.size, 0 + k, none⟩ = some (.int .u8 (((strN s).getD k 0 : Nat) : Int)) := by
  intro k hk
  rw [strN_length] at hk
  rw [Nat.zero_add, World.cell?_alloc_mark, bytesRow_at s cap k hk, strN_getD s k hk]
set_option maxHeartbeats 400000 in
theorem putText_spec (s : ByteArray) (w : World) (hs : s.size ≤ 2097152) : Calls Try.prog 29 #[.string s] w (NewB w (encI s.size ++ strN s)) := by
  have hle : (encI s.size).length ≤ 5 := by
    unfold encI; split
    · exact (encF_len 4 _).1
    · simp
  have c2 := putNum_spec (s.size : Int)
  generalize encI s.size = l at *
  have C2 := Lib.hid c2
  clear c2
  go_enter Try.func29, Try.ntmps29
  go_wp2_with fail
  refine (C2.out _).mono ?_
  rintro e w1 ⟨A1, a1, rfl, o1, b1⟩
  have hsz := b1.size
  have hsl := strN_length s
  have hcv := run_bytes_of_string (P := Try.prog) w1 9 22 5 s Try.underlying9 Try.underlying22 Try.underlying5
  have hsl2 : (strN s).length ≤ 2097152 := by omega
  have HSL := Lib.hid hsl
  clear hsl
  go_wp2_with (at_builtin; refine wpList_appB _ rfl (.tmp 5) (.tmp 7) rfl w.heap.size _ l rfl (own_alloc (w := w1.drew) o1 _) w1.heap.size 0 _ (strN s) s.size HSL.out.symm rfl (row_cells w1.drew s _ _) (by omega) (by simp; omega) ?_)
  intro v' w2 o2 g2 _
  have R := Lib.hid (NewB.of_own o2 (((b1.drew).alloc hsz _).grown (w' := w2) g2 (by simp; omega) (own_lo o1)))
  clear o1 o2 g2 b1 hcv
  go_wp2
  go_ret
  exact R.out
end Go.Proofs.Ytefoegicjigpaaa
