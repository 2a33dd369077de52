/-
  The walk of spec.DrawVarText: some number.
-/
import Derived.Test.YtcbmchbnfhjdgaaDoorCurOnce
import Derived.Test.YtcbmchbnfhjdgaaDoorCurText
import Derived.Test.YtcbmchbnfhjdgaaDoorCurLong
import Derived.Test.YtcbmchbnfhjdgaaDoorCurNew
import Derived.Test.YtcbmchbnfhjdgaaDoorCurPickInt
namespace Go.Proofs.YtcbmchbnfhjdgaaDoor
open Go.RowKit

def edges : List Int := [-1, 0, 127, 128, 16383, 16384, 1000000000, 1000000001, 9223372036854775807, -9223372036854775808]
theorem edges_ok : ∀ j (hj : j < edges.length), -9223372036854775808 ≤ edges[j] ∧ edges[j] ≤ 9223372036854775807 := by decide
theorem edges_at (w : World) (t : TypeId) : Ints (w.alloc (.cells #[.int .i64 (-1), .int .i64 0, .int .i64 127, .int .i64 128, .int .i64 16383, .int .i64 16384, .int .i64 1000000000, .int .i64 1000000001, .int .i64 9223372036854775807, .int .i64 (-9223372036854775808)] t)) w.heap.size edges := by
  intro j hj
  rw [World.cell?_alloc_mark]
  match j, hj with
  | 0, _ => rfl
  | 1, _ => rfl
  | 2, _ => rfl
  | 3, _ => rfl
  | 4, _ => rfl
  | 5, _ => rfl
  | 6, _ => rfl
  | 7, _ => rfl
  | 8, _ => rfl
  | 9, _ => rfl

/-- a number that fits -/
def Fits (x : Int) : Prop := -9223372036854775808 ≤ x ∧ x ≤ 9223372036854775807

set_option maxRecDepth 1000000 in
set_option maxHeartbeats 1000000 in
theorem l01Number_any (C : Nat) (w : World) (hc : CurAt w C) :
    Calls Tryd.prog 17 #[.pointer (some ⟨C, 0, none⟩)] w fun e w' => ∃ x : Int, e = .returned (.int .i64 x) ∧ Fits x ∧ CurAt w' C ∧ w.grownBy w' (some C) := by
  have hCl := hc.lt
  have HC := (show Hid (CurAt w C) from hc)
  clear hc
  go_enter Tryd.func17, Tryd.ntmps17
  go_wp2_with fail
  refine (l01Below_any C 4 (by omega) (by omega) _ HC.out).mono ?_
  rintro e w1 ⟨x, rfl, x0, x1, k1, q1⟩
  have hsz := q1.size
  have K1 := (show Hid (CurAt w1 C) from k1)
  have Q1 := (show Hid (w.grownBy w1 (some C)) from q1)
  clear k1 q1
  by_cases h0 : x = 0
  · have h0' : (x == 0) = true := by simpa using h0
    clear h0
    have cP : Hid (Calls Tryd.prog 27 #[.pointer (some ⟨C, 0, none⟩), .slice (some ⟨w1.heap.size, 0, none⟩) 10 10] (w1.alloc (.cells #[.int .i64 (-1), .int .i64 0, .int .i64 127, .int .i64 128, .int .i64 16383, .int .i64 16384, .int .i64 1000000000, .int .i64 1000000001, .int .i64 9223372036854775807, .int .i64 (-9223372036854775808)] 3)) fun e w' => ∃ x : Int, e = .returned (.int .i64 x) ∧ Fits x ∧ CurAt w' C ∧ w1.grownBy w' (some C)) := by
      have c := l01PickInt_any C w1.heap.size edges 10 (by decide) (by decide) (by omega) _ (K1.out.kept (World.grownBy_alloc w1 _ none) (fun j h => by cases h)) (edges_at w1 3)
      refine c.mono ?_
      rintro e w' ⟨j, hj, rfl, k, q⟩
      exact ⟨_, rfl, edges_ok j hj, k, (World.grownBy_alloc w1 _ (some C)).trans q⟩
    go_wp2_with fail
    refine Calls.mono cP.out ?_
    rintro e w2 ⟨y, rfl, f2, k2, q2⟩
    have F2 := (show Hid (Fits y) from f2)
    have K2 := (show Hid (CurAt w2 C) from k2)
    have Q2 := (show Hid (w1.grownBy w2 (some C)) from q2)
    clear k2 q2 f2 cP
    go_wp2
    go_ret
    exact ⟨_, rfl, F2.out, K2.out, Q1.out.trans Q2.out⟩
  · have h0' : (x == 0) = false := by simpa using h0
    by_cases h1 : x = 1
    · have h1' : (x == 1) = true := by simpa using h1
      clear h0 h1
      go_wp2_with fail
      refine (l01Below_any C 1000000000 (by omega) (by omega) _ K1.out).mono ?_
      rintro e w2 ⟨y, rfl, y0, y1, k2, q2⟩
      have K2 := (show Hid (CurAt w2 C) from k2)
      have Q2 := (show Hid (w1.grownBy w2 (some C)) from q2)
      clear k2 q2
      go_wp2
      go_ret
      exact ⟨_, rfl, ⟨by omega, by omega⟩, K2.out, Q1.out.trans Q2.out⟩
    · have h1' : (x == 1) = false := by simpa using h1
      clear h0 h1
      go_wp2_with fail
      refine (l01Below_any C 400 (by omega) (by omega) _ K1.out).mono ?_
      rintro e w2 ⟨y, rfl, y0, y1, k2, q2⟩
      have K2 := (show Hid (CurAt w2 C) from k2)
      have Q2 := (show Hid (w1.grownBy w2 (some C)) from q2)
      clear k2 q2
      go_wp2
      go_ret
      exact ⟨_, rfl, ⟨by omega, by omega⟩, K2.out, Q1.out.trans Q2.out⟩

theorem drawVarText_any (ao : Option Addr) (len cap : Nat) (hlen : len ≤ 1048576) (hcap : len ≤ cap) (w : World) (hr : Bytes w ao len) :
    Calls Tryd.prog 6 #[.slice ao len cap] w fun e w' => ∃ x : Int, e = .returned (.int .i64 x) ∧ Fits x ∧ Below w.heap.size w w' := by
  have HR := (show Hid (Bytes w ao len) from hr)
  clear hr
  go_enter Tryd.func6, Tryd.ntmps6
  go_wp2_with fail
  refine (l01New_any ao len cap hlen hcap _ HR.out).mono ?_
  rintro e w1 ⟨rfl, k1, b1⟩
  have K1 := (show Hid (CurAt w1 w.heap.size) from k1)
  clear k1
  go_wp2_with fail
  refine (l01Number_any w.heap.size _ K1.out).mono ?_
  rintro e w2 ⟨x, rfl, f2, k2, q2⟩
  have F2 := (show Hid (Fits x) from f2)
  have B2 := (show Hid (Below w.heap.size w w2) from below_cur b1 q2)
  clear k2 q2 f2
  go_wp2
  go_ret
  exact ⟨_, rfl, F2.out, B2.out⟩
end Go.Proofs.YtcbmchbnfhjdgaaDoor
