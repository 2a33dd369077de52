/-
  The walks of laws.markStream, heldStream: a stream of the call's own is written over with marks, and found to hold them.
-/
import Derived.Test.YtngcldjkpcmidaaJoint10
import Derived.Test.YtngcldjkpcmidaaJoint1
namespace Go.Proofs.Ytngcldjkpcmidaa
open Go.RowKit

set_option maxRecDepth 1000000 in
theorem markStream_any (d : StrD) (g : Nat) (l : List LateD) (cap m : Nat) (r : List Value) (hm : m ≤ 10000000) (hl : l.length ≤ 1048576) (w : World) (hb : BlockIs w g 61 (lateCells l ++ r)) :
    Calls Try.prog 12 #[.agg #[.int .i64 d.st, .int .i64 d.iss, .int .i64 d.una, .int .i64 d.rcv, .string d.wait, .int .i64 d.sent, .int .i64 d.fin, .bool d.pf, .string d.inn, .slice (some ⟨g, 0, none⟩) l.length cap, .bool d.owe, .int .i64 d.due, .int .i64 d.times], .int .i64 m] w fun e w' => e = .returned (.int .i64 ((m + 2 * l.length : Nat) : Int)) ∧ BlockIs w' g 61 (lateCells (marksLate m l.length) ++ r) ∧ w.grownBy w' (some g) := by
  have C := hid (fun w hb => markLateS_any g l cap m r hm hl w hb)
  have HD := hid (World.grownBy_alloc w (.cells #[.int .i64 d.st, .int .i64 d.iss, .int .i64 d.una, .int .i64 d.rcv, .string d.wait, .int .i64 d.sent, .int .i64 d.fin, .bool d.pf, .string d.inn, .slice (some ⟨g, 0, none⟩) l.length cap, .bool d.owe, .int .i64 d.due, .int .i64 d.times] 31) (some g))
  have HD2 := hid (hb.on (below_more (Below.refl w.heap.size w) (.cells #[.int .i64 d.st, .int .i64 d.iss, .int .i64 d.una, .int .i64 d.rcv, .string d.wait, .int .i64 d.sent, .int .i64 d.fin, .bool d.pf, .string d.inn, .slice (some ⟨g, 0, none⟩) l.length cap, .bool d.owe, .int .i64 d.due, .int .i64 d.times] 31)) hb.lt)
  clear hb
  go_enter Try.func12, Try.ntmps12
  go_wp2_with fail
  refine (C.out _ HD2.out).mono ?_
  rintro e w1 ⟨rfl, k1, g1⟩
  have K1 := hid k1
  have G1 := hid (HD.out.trans g1)
  clear k1 g1 C HD HD2
  go_wp2
  go_ret
  exact ⟨rfl, K1.out, G1.out⟩

set_option maxRecDepth 1000000 in
theorem heldStream_any (d : StrD) (ao : Option Addr) (n cap m : Nat) (hm : m ≤ 10000000) (hl : n ≤ 1048576) (w : World) (ha : LatesAt w ao (marksLate m n)) :
    Calls Try.prog 13 #[.agg #[.int .i64 d.st, .int .i64 d.iss, .int .i64 d.una, .int .i64 d.rcv, .string d.wait, .int .i64 d.sent, .int .i64 d.fin, .bool d.pf, .string d.inn, .slice ao n cap, .bool d.owe, .int .i64 d.due, .int .i64 d.times], .int .i64 m] w fun e w' => e = .returned (.int .i64 ((m + 2 * n : Nat) : Int)) ∧ Below w.heap.size w w' := by
  have C := hid (fun w ha => heldLateS_any ao n cap m hm hl w ha)
  have HB := hid (below_more (Below.refl w.heap.size w) (.cells #[.int .i64 d.st, .int .i64 d.iss, .int .i64 d.una, .int .i64 d.rcv, .string d.wait, .int .i64 d.sent, .int .i64 d.fin, .bool d.pf, .string d.inn, .slice ao n cap, .bool d.owe, .int .i64 d.due, .int .i64 d.times] 31))
  have HA := hid ha
  clear ha
  obtain ⟨K, hK⟩ : ∃ K, m + 2 * n = K := ⟨_, rfl⟩
  rw [hK] at C ⊢
  clear hK
  go_enter Try.func13, Try.ntmps13
  go_wp2_with fail
  refine (C.out _ (HA.out.on HB.out)).mono ?_
  rintro e w1 ⟨rfl, b1⟩
  have B1 := hid (below_via HB.out b1)
  have hK0 : ¬ (K : Int) < 0 := by omega
  clear b1 C HB
  go_wp2
  go_ret
  exact ⟨rfl, B1.out⟩

set_option maxRecDepth 1000000 in
/-- a stream of the call's own is written over with marks, nil too -/
theorem markStream_o (d : StrD) (m : Nat) (va : Option Addr) (vc : Nat) (l : List LateD) (lo hi : Nat) (hm : m ≤ 10000000) (hl : l.length ≤ 1048576) (w : World) (hw : lo ≤ w.heap.size) (h : OwnAt w 61 (lateCells l) l.length va lo hi) :
    Calls Try.prog 12 #[.agg #[.int .i64 d.st, .int .i64 d.iss, .int .i64 d.una, .int .i64 d.rcv, .string d.wait, .int .i64 d.sent, .int .i64 d.fin, .bool d.pf, .string d.inn, .slice va l.length vc, .bool d.owe, .int .i64 d.due, .int .i64 d.times], .int .i64 m] w fun e w' => e = .returned (.int .i64 ((m + 2 * l.length : Nat) : Int)) ∧ LatesAt w' va (marksLate m l.length) ∧ KeptBut lo hi w w' ∧ Below lo w w' := by
  rcases h with h0 | ⟨g, r, rfl, h1, h2, h3⟩
  · obtain rfl : l = [] := List.length_eq_zero_iff.1 h0
    have HBB := hid (below_more (Below.refl w.heap.size w) (.cells #[.int .i64 d.st, .int .i64 d.iss, .int .i64 d.una, .int .i64 d.rcv, .string d.wait, .int .i64 d.sent, .int .i64 d.fin, .bool d.pf, .string d.inn, .slice va 0 vc, .bool d.owe, .int .i64 d.due, .int .i64 d.times] 31))
    have C : Hid (∀ w, Calls Try.prog 30 #[.slice va 0 vc, .int .i64 m] w fun e w' => e = .returned (.int .i64 m) ∧ w' = w) := by
      intro w
      go_enter Try.func30, Try.ntmps30
      go_wp2
      go_loopg [1, 5] 0 (fun _ y i wr => wr = w ∧ i = .int .i64 0 ∧ y = .int .i64 m)
      case atStart => exact ⟨rfl, rfl, rfl⟩
      case round =>
        obtain ⟨rfl, rfl, rfl⟩ := hrel
        go_wp2
        go_ret
        exact ⟨rfl, rfl⟩
    show Calls Try.prog 12 #[.agg #[.int .i64 d.st, .int .i64 d.iss, .int .i64 d.una, .int .i64 d.rcv, .string d.wait, .int .i64 d.sent, .int .i64 d.fin, .bool d.pf, .string d.inn, .slice va 0 vc, .bool d.owe, .int .i64 d.due, .int .i64 d.times], .int .i64 m] w fun e w' => e = .returned (.int .i64 ((m + 2 * 0 : Nat) : Int)) ∧ _
    go_enter Try.func12, Try.ntmps12
    go_wp2_with fail
    refine (C.out _).mono ?_
    rintro e w1 ⟨rfl, hw1⟩
    rw [hw1]
    clear hw1 w1
    go_wp2
    go_ret
    exact ⟨rfl, fun h => absurd rfl h, fun j t cs _ hb => hb.on HBB.out hb.lt, HBB.out.mono hw⟩
  · refine (markStream_any d g l vc m r hm hl w h3).mono ?_
    rintro e w' ⟨rfl, hk, hg'⟩
    refine ⟨rfl, latesAt_of hk, fun j t cs hj hbj => ?_, ⟨hg'.os, hg'.tape, hg'.output, hg'.size, fun k hk' => hg'.block k (by omega) (fun e => ?_)⟩⟩
    · unfold BlockIs
      rw [hg'.block j hbj.lt (fun e => hj (by have : j = g := by simpa using e
                                              subst this
                                              exact ⟨h1, h2⟩))]
      exact hbj
    · have : k = g := by simpa using e
      omega
end Go.Proofs.Ytngcldjkpcmidaa
