/-
  The walk of laws.sameDisk: two disks of the same files.
-/
import Derived.Test.YtfkknmhokiacaaaSzFile
import Derived.BigQuiet
import Derived.Lib.QuietBelow
import Derived.WalkSmall
import Derived.WalkKit
namespace Go.Proofs.Ytfkknmhokiacaaa
open Go.RowKit Go.Sort

set_option maxRecDepth 1000000 in
set_option maxHeartbeats 1000000 in
theorem sameDisk_same (ao bo : Option Addr) (l : List FileD) (c c' : Nat) (hl : l.length ≤ 1048576) (w : World) (ha : FilesAt w ao l) (hb : FilesAt w bo l) :
    Calls Try.prog 12 #[.agg #[.slice ao l.length c], .agg #[.slice bo l.length c']] w fun e w' => e = .returned (.bool true) ∧ Below w.heap.size w w' := by
  have hx0 : BlockIs (w.alloc (.cells #[.slice ao l.length c] 26)) w.heap.size 26 [.slice ao l.length c] := heap_alloc_new w _
  have X0 := hid (hx0.on (below_more (Below.refl _ _) (.cells #[.slice bo l.length c'] 26)) hx0.lt)
  have hx1 : BlockIs ((w.alloc (.cells #[.slice ao l.length c] 26)).alloc (.cells #[.slice bo l.length c'] 26)) (w.heap.size + 1) 26 [.slice bo l.length c'] := by
    have := heap_alloc_new (w.alloc (.cells #[.slice ao l.length c] 26)) (.cells #[.slice bo l.length c'] 26)
    rw [show (w.alloc (.cells #[.slice ao l.length c] 26)).heap.size = w.heap.size + 1 by simp [World.alloc, -World.alloc_eq]] at this
    exact this
  have X1 := hid hx1
  have HB := hid (below_more (below_more (Below.refl w.heap.size w) (.cells #[.slice ao l.length c] 26)) (.cells #[.slice bo l.length c'] 26))
  have FA := hid (ha.on HB.out)
  have FB := hid (hb.on HB.out)
  obtain ⟨W, hW⟩ : ∃ W, (w.alloc (.cells #[.slice ao l.length c] 26)).alloc (.cells #[.slice bo l.length c'] 26) = W := ⟨_, rfl⟩
  rw [hW] at X0 X1 HB FA FB
  clear hx0 hx1 ha hb
  have c0 := X0.out.cell (j := 0) rfl
  have c1 := X1.out.cell (j := 0) rfl
  go_enter Try.func12, Try.ntmps12
  go_wp2
  go_loopw [5] (fun i wr => ∃ (k nq : Nat), k ≤ l.length ∧ i = .int .i64 k ∧ wr = W.drewN nq) (fun i _ => l.length - (intOf i).toNat)
  case atStart => exact ⟨0, 0, Nat.zero_le _, rfl, rfl⟩
  case round =>
    obtain ⟨k, nq, hk, rfl, rfl⟩ := hrel
    by_cases hlt : k < l.length
    · have hne : l ≠ [] := by intro e; rw [e] at hlt; simp at hlt
      obtain ⟨b1, o1, rfl, h1⟩ := FA.out hne
      obtain ⟨b2, o2, rfl, h2⟩ := FB.out hne
      obtain ⟨x0, x1, x2⟩ := h1 k hlt
      obtain ⟨y0, y1, y2⟩ := h2 k hlt
      clear h1 h2
      go_wp2
      go_quiet (fail)
      go_wp2
      go_roundw
      case rel => exact ⟨k + 1, _, by omega, by go_num, rfl⟩
      case measure => simp [intOf]; omega
    · go_wp2
      go_ret
      exact ⟨rfl, below_drewN HB.out _⟩
end Go.Proofs.Ytfkknmhokiacaaa
