/-
  The walk of impl.readJournal for every number and text.
  The walk of spec.l06Last: what it answers.
-/
import Derived.Test.YthiifhfcognedaaDoorJoint33
import Derived.Test.YthiifhfcognedaaDoorJoint3
import Derived.Test.YthiifhfcognedaaDoorJoint1
namespace Go.Proofs.YthiifhfcognedaaDoor
open Go.RowKit

theorem readJ_big {n : Int} {s : ByteArray} (h : 20000 < s.size) : readJ n s = none := readJ_nil (by rw [ufT, if_pos h])
set_option maxRecDepth 1000000 in
set_option maxHeartbeats 2000000 in
theorem readJournal_bad (n : Int) (s : ByteArray) (hs : s.size ≤ 1048576) (hbad : within n 0 999 = false ∨ 20000 < s.size) (w : World) : Calls Tryd.prog 20 #[.int .i64 n, .string s] w fun e w' => rjIDid (readJ n s) w e w' := by
  have HN : Hid (readJ n s = none) := by
    rcases hbad with h | h
    · exact readJ_n h
    · exact readJ_big h
  have R0 : BlockIs (w.alloc (.cells #[.int .i64 0, .int .i64 0, .int .i64 0, .int .i64 0, .int .i64 0, .slice none 0 0] 26)) w.heap.size 26 [.int .i64 0, .int .i64 0, .int .i64 0, .int .i64 0, .int .i64 0, .slice none 0 0] := heap_alloc_new w _
  have BL := hid (((((((below_more (Below.refl w.heap.size w) (.cells #[.int .i64 0, .int .i64 0, .int .i64 0, .int .i64 0, .int .i64 0, .slice none 0 0] 26)).setCell (p := ⟨w.heap.size, 0, none⟩) (Nat.le_refl _) (.int .i64 0)).setCell (p := ⟨w.heap.size, 1, none⟩) (Nat.le_refl _) (.int .i64 0)).setCell (p := ⟨w.heap.size, 2, none⟩) (Nat.le_refl _) (.int .i64 0)).setCell (p := ⟨w.heap.size, 3, none⟩) (Nat.le_refl _) (.int .i64 0)).setCell (p := ⟨w.heap.size, 4, none⟩) (Nat.le_refl _) (.int .i64 0)).setCell (p := ⟨w.heap.size, 5, none⟩) (Nat.le_refl _) (.slice none 0 0))
  have HR0 := hid R0
  clear R0
  obtain ⟨W, hW⟩ : ∃ W, w.alloc (.cells #[.int .i64 0, .int .i64 0, .int .i64 0, .int .i64 0, .int .i64 0, .slice none 0 0] 26) = W := ⟨_, rfl⟩
  rw [hW] at BL HR0
  have z0 := HR0.out.cell (j := 0) rfl
  have z1 := HR0.out.cell (j := 1) rfl
  have z2 := HR0.out.cell (j := 2) rfl
  have z3 := HR0.out.cell (j := 3) rfl
  have z4 := HR0.out.cell (j := 4) rfl
  have z5 := HR0.out.cell (j := 5) rfl
  have q0 := HR0.out.thaw 0
  have q1 := HR0.out.thaw 1
  have q2 := HR0.out.thaw 2
  have q3 := HR0.out.thaw 3
  have q4 := HR0.out.thaw 4
  have q5 := HR0.out.thaw 5
  go_enter Tryd.func20, Tryd.ntmps20
  go_wp2_with fail
  refine (numberOk_any n _).mono ?_
  rintro e w1 ⟨rfl, hw⟩
  rw [hw]
  clear hw w1
  cases hn : within n 0 999 with
  | false =>
    clear hbad hn
    go_wp2
    refine bodyPost_ret (v := .tuple #[.agg #[.int .i64 0, .int .i64 0, .int .i64 0, .int .i64 0, .int .i64 0, .slice none 0 0], .int .i64 0, .iface 86 (.agg #[.int .i64 1])]) (by simp [results, Tryd.results20, go_sem, z0, z1, z2, z3, z4, z5]) rfl ?_
    rw [HN.out]
    exact ⟨1, Or.inl rfl, rfl, BL.out⟩
  | true =>
    have h7 : 20000 < s.size := by
      rcases hbad with h | h
      · rw [hn] at h; cases h
      · exact h
    have h7' : (20000 : Int) < s.size := by omega
    clear hbad hn
    go_wp2
    refine bodyPost_ret (v := .tuple #[.agg #[.int .i64 0, .int .i64 0, .int .i64 0, .int .i64 0, .int .i64 0, .slice none 0 0], .int .i64 0, .iface 86 (.agg #[.int .i64 1])]) (by simp [results, Tryd.results20, go_sem, z0, z1, z2, z3, z4, z5]) rfl ?_
    rw [HN.out]
    exact ⟨1, Or.inl rfl, rfl, BL.out⟩
theorem readJournal_any (n : Int) (s : ByteArray) (hs : s.size ≤ 1048576) (w : World) (ht : Steps w) : Calls Tryd.prog 20 #[.int .i64 n, .string s] w fun e w' => rjIDid (readJ n s) w e w' := by
  cases hn : within n 0 999 with
  | false => exact readJournal_bad n s hs (Or.inl hn) w
  | true =>
    by_cases h : 20000 < s.size
    · exact readJournal_bad n s hs (Or.inr h) w
    · exact readJournal_small n s hn (by omega) w ht
end Go.Proofs.YthiifhfcognedaaDoor

namespace Go.Proofs.YthiifhfcognedaaDoor
open Go.RowKit

set_option maxRecDepth 1000000 in
theorem l06Last_any (s t : Int) (ao : Option Addr) (l : List EntD) (cap : Nat) (hs : 0 ≤ s ∧ s ≤ 2000000) (hl : l.length ≤ 1048576) (w : World) :
    Calls Tryd.prog 63 #[.agg #[.int .i64 s, .int .i64 t, .slice ao l.length cap]] w fun e w' => e = .returned (.int .i64 (s + l.length)) ∧ Below w.heap.size w w' := by
  have HB := hid (below_more (Below.refl w.heap.size w) (.cells #[.int .i64 s, .int .i64 t, .slice ao l.length cap] 24))
  go_enter Tryd.func63, Tryd.ntmps63
  go_wp2
  go_ret
  exact ⟨rfl, HB.out⟩
end Go.Proofs.YthiifhfcognedaaDoor
