/-
  A list of datagrams of the call's own is written over with marks.
-/
import Derived.Test.YtpknpodmoeaggabHeldDgram
import Derived.Test.YtpknpodmoeaggabCutDid
namespace Go.Proofs.Ytpknpodmoeaggab
open Go.RowKit

set_option maxRecDepth 1000000 in
theorem markDgramS_o (m : Nat) (va : Option Addr) (vc : Nat) (l : List DgramD) (lo hi : Nat) (hm : m ≤ 10000000) (hl : l.length ≤ 1048576) (w : World) (hw : lo ≤ w.heap.size) (h : OwnAt w 23 (dgramCells l) l.length va lo hi) :
    Calls Try.prog 15 #[.slice va l.length vc, .int .i64 m] w fun e w' => e = .returned (.int .i64 ((m + 6 * l.length : Nat) : Int)) ∧ DgramsAt w' va (marksDgram m l.length) ∧ KeptBut lo hi w w' ∧ Below lo w w' := by
  rcases h with h0 | ⟨g, r, rfl, h1, h2, h3⟩
  · obtain rfl : l = [] := List.length_eq_zero_iff.1 h0
    have C : Calls Try.prog 15 #[.slice va 0 vc, .int .i64 m] w fun e w' => e = .returned (.int .i64 m) ∧ w' = w := by
      go_enter Try.func15, Try.ntmps15
      go_wp2
      go_loopg [1, 5] 0 (fun _ y i wr => wr = w ∧ i = .int .i64 0 ∧ y = .int .i64 m)
      case atStart => exact ⟨rfl, rfl, rfl⟩
      case round =>
        obtain ⟨rfl, rfl, rfl⟩ := hrel
        go_wp2
        go_ret
        exact ⟨rfl, rfl⟩
    refine Calls.mono C ?_
    rintro e w' ⟨rfl, hw'⟩
    rw [hw']
    exact ⟨rfl, fun h => absurd rfl h, fun j t cs _ hb => hb, Below.refl _ _⟩
  · refine (markDgramS_any g l vc m r hm hl w h3).mono ?_
    rintro e w' ⟨rfl, hk, hg'⟩
    refine ⟨rfl, dgramsAt_of hk, fun j t cs hj hbj => ?_, ⟨hg'.os, hg'.tape, hg'.output, hg'.size, fun k hk' => hg'.block k (by omega) (fun e => ?_)⟩⟩
    · unfold BlockIs
      rw [hg'.block j hbj.lt (fun e => hj (by have : j = g := by simpa using e
                                              subst this
                                              exact ⟨h1, h2⟩))]
      exact hbj
    · have : k = g := by simpa using e
      omega
end Go.Proofs.Ytpknpodmoeaggab
