/-
  The walks of laws.eqDgram, eqDgramS: what is alike is found alike.
-/
import Derived.Test.YtpknpodmoeaggabDataDgram
import Derived.Test.YtpknpodmoeaggabRows
import Derived.Lib.QuietBelow
namespace Go.Proofs.Ytpknpodmoeaggab
open Go.RowKit Go.Sort

set_option maxRecDepth 1000000 in
theorem eqDgram_same (f : DgramD) (w : World) :
    Calls Try.prog 9 #[.agg #[.int .i64 f.src, .int .i64 f.dst, .int .i64 f.ident, .int .i64 f.place, .bool f.more, .string f.body], .agg #[.int .i64 f.src, .int .i64 f.dst, .int .i64 f.ident, .int .i64 f.place, .bool f.more, .string f.body]] w fun e w' => e = .returned (.bool true) ∧ Below w.heap.size w w' := by
  have hb : Hid (∀ (o p : Obj), Below w.heap.size w ((w.alloc o).alloc p)) := fun o p => ((Below.refl _ w).alloc (Nat.le_refl _) _).alloc (by simp [World.alloc, -World.alloc_eq]) _
  go_enter Try.func9, Try.ntmps9
  go_wp2
  go_ret
  exact ⟨rfl, hb.out _ _⟩

set_option maxRecDepth 1000000 in
set_option maxHeartbeats 1000000 in
theorem eqDgramS_same (ao bo : Option Addr) (l : List DgramD) (cap cap' : Nat) (hl : l.length ≤ 140737488355328) (w : World) (ha : DgramsAt w ao l) (hb : DgramsAt w bo l) :
    Calls Try.prog 14 #[.slice ao l.length cap, .slice bo l.length cap'] w fun e w' => e = .returned (.bool true) ∧ Below w.heap.size w w' := by
  have HA := hid ha
  have HB := hid hb
  clear ha hb
  go_enter Try.func14, Try.ntmps14
  go_wp2
  go_loopg [5] l.length (fun g i wr => ∃ (k : Nat), k + g = l.length ∧ i = .int .i64 k ∧ Hid (Below w.heap.size w wr))
  case atStart => exact ⟨0, by omega, rfl, (show Below _ _ _ from Below.refl _ _)⟩
  case round =>
    obtain ⟨k, hkg, rfl, BR⟩ := hrel
    cases gk with
    | zero =>
      have hlt : ¬ (k : Int) < (l.length : Int) := by omega
      go_wp2
      go_ret
      exact ⟨rfl, BR.out⟩
    | succ g =>
      have hlt : k < l.length := by omega
      have hlt' : (k : Int) < (l.length : Int) := by omega
      have hne : l ≠ [] := by intro e; rw [e] at hlt; simp at hlt
      obtain ⟨b, off, rfl, hc⟩ := HA.out.on BR.out hne
      obtain ⟨x0, x1, x2, x3, x4, x5⟩ := hc k hlt
      obtain ⟨b', off', rfl, hc'⟩ := HB.out.on BR.out hne
      obtain ⟨y0, y1, y2, y3, y4, y5⟩ := hc' k hlt
      have X0 := cell_regrown x0
      have Y0 := cell_regrown y0
      have X1 := cell_regrown x1
      have Y1 := cell_regrown y1
      have X2 := cell_regrown x2
      have Y2 := cell_regrown y2
      have X3 := cell_regrown x3
      have Y3 := cell_regrown y3
      have X4 := cell_regrown x4
      have Y4 := cell_regrown y4
      have X5 := cell_regrown x5
      have Y5 := cell_regrown y5
      clear hc hc' x0 x1 x2 x3 x4 x5 y0 y1 y2 y3 y4 y5
      have C' := fun d os => Calls.regrown_of (w := wr) (d := d) (os := os) (eqDgram_same l[k] _)
      have C := hid C'
      clear C'
      go_wp2
      refine wp_region_quiet_below (by kernel_rfl) (by kernel_rfl) ?_
      repeat (first | go_big_quiet_step (first | (go_at_call 9; exact C.out _ _) | fail) | quiet_step (first | (go_at_call 9; exact C.out _ _) | fail))
      refine wpQuiet_nil ?_
      intro _ hw'
      obtain ⟨⟨dq, osq⟩, hw''⟩ := hw'
      subst hw''
      have BQ : Hid (Below w.heap.size w (grow (redrawn wr dq) osq)) := BR.out.trans ((below_regrown wr dq osq).mono BR.out.size)
      generalize grow (redrawn wr dq) osq = wq at BQ ⊢
      clear X0 X1 X2 X3 X4 X5 Y0 Y1 Y2 Y3 Y4 Y5 C
      go_wp2
      go_roundg g
      case measure => omega
      case rel => exact ⟨k + 1, by omega, by go_num, BQ⟩
end Go.Proofs.Ytpknpodmoeaggab
