/-
  The walk of spec.l18Others: those of a conf but one.
-/
import Derived.Test.YteceaohhnjlmbaaJoint1
import Derived.Deep.LoopGhost
namespace Go.Proofs.Yteceaohhnjlmbaa
open Go.RowKit Go.Sort

theorem othersD_step {zs : List Int} {x : Int} {k : Nat} (hk : k < zs.length) : othersD (zs.take (k + 1)) x = if zs[k] = x then othersD (zs.take k) x else othersD (zs.take k) x ++ [zs[k]] := by
  unfold othersD
  rw [List.take_succ_eq_append_getElem hk, List.filter_append]
  by_cases h : zs[k] = x
  · simp [h]
  · simp [h]
theorem othersD_len (zs : List Int) (x : Int) (k : Nat) : (othersD (zs.take k) x).length ≤ zs.length := Nat.le_trans (List.length_filter_le _ _) (by rw [List.length_take]; omega)
set_option maxRecDepth 1000000 in
set_option maxHeartbeats 2000000 in
theorem l18Others_any (ao : Option Addr) (ac : Nat) (zs : List Int) (x : Int) (hl : zs.length ≤ 1048576) (w : World) (ha : IntsAt w ao zs) :
    Calls Try.prog 28 #[.slice ao zs.length ac, .int .i64 x] w fun e w' => confDid (othersD zs x) w e w' := by
  have hb2 := below_more (Below.refl w.heap.size w) (.cells #[] 3)
  have G0 : (w.alloc (.cells #[] 3)).heap[w.heap.size]? = some (.cells #[] 3) := heap_alloc_new w _
  obtain ⟨W2, hW2⟩ : ∃ V, w.alloc (.cells #[] 3) = V := ⟨_, rfl⟩
  rw [hW2] at hb2 G0
  have N2 : Hid (W2.ownsRow w.heap.size 3 1 (.slice (some ⟨w.heap.size, 0, none⟩) 0 0) 0 (intCells [])) := no_ints (base := w.heap.size) G0 (Nat.le_refl _)
  have HA := hid ha
  have B2 := hid hb2
  have HR : Hid (othersD (zs.take zs.length) x = othersD zs x) := (show _ = _ by rw [List.take_length])
  clear ha hb2 G0
  go_enter Try.func28, Try.ntmps28
  go_wp2
  go_loopg [5, 6] zs.length (fun g o i wr => ∃ (k : Nat) (ra : Option Addr) (rc : Nat), k + g = zs.length ∧ i = .int .i64 k ∧ o = .slice ra (othersD (zs.take k) x).length rc ∧ Hid (wr.ownsRow w.heap.size 3 1 (.slice ra (othersD (zs.take k) x).length rc) (othersD (zs.take k) x).length (intCells (othersD (zs.take k) x))) ∧ Hid (Below w.heap.size w wr))
  case atStart => exact ⟨0, some ⟨w.heap.size, 0, none⟩, 0, by omega, rfl, rfl, N2, B2⟩
  case round =>
    obtain ⟨k, ra, rc, hkg, rfl, rfl, OR, BR⟩ := hrel
    clear N2 B2 hW2
    cases gk with
    | zero =>
      have hlt : ¬ (k : Int) < (zs.length : Int) := by omega
      obtain rfl : k = zs.length := by omega
      go_wp2
      go_ret
      exact ⟨ra, rc, rfl, by have := OR.out; rw [HR.out] at this; exact this, BR.out⟩
    | succ g =>
      have hk : k < zs.length := by omega
      have hlt : (k : Int) < (zs.length : Int) := by omega
      have hne : zs ≠ [] := by intro q; rw [q] at hk; simp at hk
      obtain ⟨b, off, rfl, hc⟩ := HA.out.on BR.out hne
      have x0 := hc k hk
      clear hc
      have hst := othersD_step (x := x) hk
      have hln := othersD_len zs x k
      by_cases h2 : zs[k] = x
      · have h2b : (zs[k] == x) = true := by rw [beq_iff_eq]; exact h2
        have h2n : (zs[k] != x) = false := by simp [h2]
        have HT : Hid (othersD (zs.take (k + 1)) x = othersD (zs.take k) x) := (show _ = _ by rw [hst, if_pos h2])
        clear hst h2
        go_wp2
        go_roundg g
        case measure => omega
        case rel => exact ⟨k + 1, ra, rc, by omega, by go_num, by rw [HT.out], (show World.ownsRow _ _ _ _ _ _ _ by rw [HT.out]; exact OR.out), BR⟩
      · have h2b : (zs[k] == x) = false := by rw [beq_eq_false_iff_ne]; exact h2
        have h2n : (zs[k] != x) = true := by simp [h2]
        have HT : Hid (othersD (zs.take (k + 1)) x = othersD (zs.take k) x ++ [zs[k]]) := (show _ = _ by rw [hst, if_neg h2])
        clear hst h2
        obtain ⟨y, hy⟩ : ∃ y, zs[k] = y := ⟨_, rfl⟩
        rw [hy] at HT x0 h2b h2n
        clear hy
        obtain ⟨L, hL⟩ : ∃ L, othersD (zs.take k) x = L := ⟨_, rfl⟩
        rw [hL] at HT OR hln ⊢
        clear hL
        have hY := below_more (Below.refl wr.heap.size wr) (.cells #[.int .i64 y] 3)
        have YC : BlockIs (wr.alloc (.cells #[.int .i64 y] 3)) wr.heap.size 3 [.int .i64 y] := heap_alloc_new wr _
        obtain ⟨U, hU⟩ : ∃ U, wr.alloc (.cells #[.int .i64 y] 3) = U := ⟨_, rfl⟩
        rw [hU] at hY YC
        have OU := hid (row_ext OR.out fun g cs h9 => h9.on hY h9.lt)
        have BU := hid (below_via BR.out hY)
        have hs : w.heap.size ≤ U.heap.size := BU.out.size
        have HC : Hid (∀ j (hj : j < [y].length), U.cell? ⟨wr.heap.size, 0 + j, none⟩ = some (.int .i64 [y][j])) := fun j hj => by
          obtain rfl : j = 0 := by simp at hj; exact hj
          exact YC.cell rfl
        clear hY YC
        go_wp2_with (at_builtin; refine wpList_append_ints rfl (.tmp 20) (.tmp 25) rfl rfl (base := w.heap.size) (L := L) (zs := [y]) rfl rfl rfl (by simp; omega) hs OU.out HC.out ?_; intro va' vc' w9 hro hgr)
        have O9 := hid hro
        have B9 := hid (BU.out.grown hgr BU.out.size (fun g q => by obtain ⟨_, _, hb⟩ := row_block OU.out q; exact hb))
        clear hro hgr OU BU HC OR BR hU x0
        go_wp2
        go_roundg g
        case measure => omega
        case rel => exact ⟨k + 1, va', vc', by omega, by go_num, by rw [HT.out]; simp, (show World.ownsRow _ _ _ _ _ _ _ by rw [HT.out]; exact O9.out), B9⟩
end Go.Proofs.Yteceaohhnjlmbaa
