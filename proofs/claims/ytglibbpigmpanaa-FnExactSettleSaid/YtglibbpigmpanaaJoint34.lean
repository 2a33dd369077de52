/-
  Entries that an answer owns: held against others, written over with marks.
-/
import Derived.Test.YtglibbpigmpanaaJoint1
import Derived.Test.YtglibbpigmpanaaJoint33
import Derived.Test.YtglibbpigmpanaaJoint14
namespace Go.Proofs.Ytglibbpigmpanaa
open Go.RowKit

theorem eqLog_o (s t : Int) (va vb : Option Addr) (l : List EntD) (c c' : Nat) (hl : l.length ≤ 1048577) (w : World) (ha : EntsAt w va l) (hb : EntsAt w vb l) :
    Calls Try.prog 29 #[.agg #[.int .i64 s, .int .i64 t, .slice va l.length c], .agg #[.int .i64 s, .int .i64 t, .slice vb l.length c']] w fun e w' => e = .returned (.bool true) ∧ Below w.heap.size w w' :=
  eqLog_same s t va vb l c c' (by omega) w ha hb

set_option maxRecDepth 1000000 in
/-- a log of the call's own is written over with marks, nil too -/
theorem markLog_o (s t : Int) (m : Nat) (va : Option Addr) (vc : Nat) (l : List EntD) (lo hi : Nat) (hm : m ≤ 10000000) (hl : l.length ≤ 1048576) (w : World) (hw : lo ≤ w.heap.size) (h : OwnAt w 69 (entCells l) l.length va lo hi) :
    Calls Try.prog 32 #[.agg #[.int .i64 s, .int .i64 t, .slice va l.length vc], .int .i64 m] w fun e w' => e = .returned (.int .i64 ((m + 3 * l.length : Nat) : Int)) ∧ EntsAt w' va (marksE m l.length) ∧ KeptBut lo hi w w' ∧ Below lo w w' := by
  rcases h with h0 | ⟨g, r, rfl, h1, h2, h3⟩
  · obtain rfl : l = [] := List.length_eq_zero_iff.1 h0
    have HBB := hid (below_more (Below.refl w.heap.size w) (.cells #[.int .i64 s, .int .i64 t, .slice va 0 vc] 32))
    have C : Hid (∀ w, Calls Try.prog 63 #[.slice va 0 vc, .int .i64 m] w fun e w' => e = .returned (.int .i64 m) ∧ w' = w) := by
      intro w
      go_enter Try.func63, Try.ntmps63
      go_wp2
      go_loopg [1, 5] 0 (fun _ y i wr => wr = w ∧ i = .int .i64 0 ∧ y = .int .i64 m)
      case atStart => exact ⟨rfl, rfl, rfl⟩
      case round =>
        obtain ⟨rfl, rfl, rfl⟩ := hrel
        go_wp2
        go_ret
        exact ⟨rfl, rfl⟩
    show Calls Try.prog 32 #[.agg #[.int .i64 s, .int .i64 t, .slice va 0 vc], .int .i64 m] w fun e w' => e = .returned (.int .i64 ((m + 3 * 0 : Nat) : Int)) ∧ _
    go_enter Try.func32, Try.ntmps32
    go_wp2_with fail
    refine (C.out _).mono ?_
    rintro e w1 ⟨rfl, hw1⟩
    rw [hw1]
    clear hw1 w1
    go_wp2
    go_ret
    exact ⟨rfl, fun h => absurd rfl h, fun j t cs _ hb => hb.on HBB.out hb.lt, HBB.out.mono hw⟩
  · refine (markLog_any s t g l vc m r hm hl w h3).mono ?_
    rintro e w' ⟨rfl, hk, hg'⟩
    refine ⟨rfl, entsAt_of hk, fun j t cs hj hbj => ?_, ⟨hg'.os, hg'.tape, hg'.output, hg'.size, fun k hk' => hg'.block k (by omega) (fun e => ?_)⟩⟩
    · unfold BlockIs
      rw [hg'.block j hbj.lt (fun e => hj (by have : j = g := by simpa using e
                                              subst this
                                              exact ⟨h1, h2⟩))]
      exact hbj
    · have : k = g := by simpa using e
      omega
end Go.Proofs.Ytglibbpigmpanaa
