/-
  The walk of laws.eqKeep: two keeps that are alike are found alike.
-/
import Derived.Test.YtpbcblehebfpkaaJoint37
import Derived.Test.YtpbcblehebfpkaaJoint38
namespace Go.Proofs.Ytpbcblehebfpkaa
open Go.RowKit Go.Sort

set_option maxRecDepth 1000000 in
set_option maxHeartbeats 1000000 in
theorem eqKeep_same (ao ao' bo bo' : Option Addr) (ls : List SessionD) (li : List ItemD) (ac ac' bc bc' : Nat) (hl : ls.length ≤ 140737488355328) (hl' : li.length ≤ 140737488355328) (w : World) (ha : SessionsAt w ao ls) (ha' : SessionsAt w ao' ls) (hb : ItemsAt w bo li) (hb' : ItemsAt w bo' li) :
    Calls Try.prog 7 #[.agg #[.slice ao ls.length ac, .slice bo li.length bc], .agg #[.slice ao' ls.length ac', .slice bo' li.length bc']] w fun e w' => e = .returned (.bool true) ∧ Below w.heap.size w w' := by
  have C := hid (fun w ha hb => eqSessionS_same ao ao' ls ac ac' hl w ha hb)
  have D := hid (fun w ha hb => eqItemS_same bo bo' li bc bc' hl' w ha hb)
  obtain ⟨W0, hW0⟩ : ∃ W0, (w.alloc (.cells #[.slice ao ls.length ac, .slice bo li.length bc] 25)).alloc (.cells #[.slice ao' ls.length ac', .slice bo' li.length bc'] 25) = W0 := ⟨_, rfl⟩
  have HBB := hid (below_more (below_more (Below.refl w.heap.size w) (.cells #[.slice ao ls.length ac, .slice bo li.length bc] 25)) (.cells #[.slice ao' ls.length ac', .slice bo' li.length bc'] 25))
  have K0 : BlockIs W0 w.heap.size 25 [.slice ao ls.length ac, .slice bo li.length bc] := by
    rw [← hW0]
    show ((w.heap.push _).push _)[w.heap.size]? = some _
    rw [Array.getElem?_push, if_neg (by simp), Array.getElem?_push, if_pos rfl]
  have K1 : BlockIs W0 (w.heap.size + 1) 25 [.slice ao' ls.length ac', .slice bo' li.length bc'] := by
    rw [← hW0]
    show ((w.heap.push _).push _)[w.heap.size + 1]? = some _
    rw [Array.getElem?_push, if_pos (by simp)]
  rw [hW0] at HBB
  have HA := hid (ha.on HBB.out)
  have HA' := hid (ha'.on HBB.out)
  have HI := hid (hb.on HBB.out)
  have HI' := hid (hb'.on HBB.out)
  clear ha hb ha' hb'
  have HK0 := hid K0
  have HK1 := hid K1
  have c0 := K0.cell (j := 0) rfl
  have c1 := K0.cell (j := 1) rfl
  have d0 := K1.cell (j := 0) rfl
  have d1 := K1.cell (j := 1) rfl
  clear K0 K1
  go_enter Try.func7, Try.ntmps7
  go_wp2_with fail
  refine (C.out _ HA.out HA'.out).mono ?_
  rintro e w1 ⟨rfl, b1⟩
  have J0 := HK0.out.on b1 HK0.out.lt
  have J1 := HK1.out.on b1 HK1.out.lt
  have c1 := J0.cell (j := 1) rfl
  have d1 := J1.cell (j := 1) rfl
  have B1 := hid (below_via HBB.out b1)
  have HI1 := hid (HI.out.on b1)
  have HI1' := hid (HI'.out.on b1)
  clear b1 C J0 J1
  go_wp2_with fail
  refine (D.out _ HI1.out HI1'.out).mono ?_
  rintro e w2 ⟨rfl, b2⟩
  have B2 := hid (below_via B1.out b2)
  clear b2 D
  go_wp2
  go_ret
  exact ⟨rfl, B2.out⟩
end Go.Proofs.Ytpbcblehebfpkaa
