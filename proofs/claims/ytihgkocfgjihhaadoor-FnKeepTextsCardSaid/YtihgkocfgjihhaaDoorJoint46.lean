/-
  The walk of impl.SameKeep.
  A command held against itself.
-/
import Derived.Test.YtihgkocfgjihhaaDoorJoint45
import Derived.Test.YtihgkocfgjihhaaDoorJoint1
import Derived.Test.YtihgkocfgjihhaaDoorRows
import Derived.Laws.StructEq
import Derived.Deep.QuietTactic
import Derived.Deep.LoopGhost
import Derived.BigQuiet
namespace Go.Proofs.YtihgkocfgjihhaaDoor
open Go.RowKit

set_option maxRecDepth 1000000 in
set_option maxHeartbeats 2000000 in
theorem implSameKeep_any (ao bo co eo : Option Addr) (ls ms : List SessionD) (li mi : List ItemD) (ac bc cc ec : Nat) (h1 : ls.length ≤ 1048576) (h2 : li.length ≤ 1048576) (h3 : ms.length ≤ 1048576) (h4 : mi.length ≤ 1048576) (w : World) (ha : SessionsAt w ao ls) (hb : ItemsAt w bo li) (hc : SessionsAt w co ms) (hd : ItemsAt w eo mi) :
    Calls Tryd.prog 9 #[.agg #[.slice ao ls.length ac, .slice bo li.length bc], .agg #[.slice co ms.length cc, .slice eo mi.length ec]] w fun e w' => e = .returned (.bool (keepSame ls ms li mi)) ∧ Below w.heap.size w w' := by
  have t2 := two_blocks w (.cells #[.slice ao ls.length ac, .slice bo li.length bc] 27) (.cells #[.slice co ms.length cc, .slice eo mi.length ec] 27)
  have XA : Hid (BlockIs _ w.heap.size 27 [.slice ao ls.length ac, .slice bo li.length bc]) := t2.2.2.1
  have XB : Hid (BlockIs _ (w.heap.size + 1) 27 [.slice co ms.length cc, .slice eo mi.length ec]) := t2.2.2.2
  have BL := hid t2.1
  have bw : Below w.heap.size w ((w.alloc (.cells #[.slice ao ls.length ac, .slice bo li.length bc] 27)).alloc (.cells #[.slice co ms.length cc, .slice eo mi.length ec] 27)) := t2.1
  have HA := hid (ha.on bw)
  have HB := hid (hb.on bw)
  have HC := hid (hc.on bw)
  have HD := hid (hd.on bw)
  clear t2 bw ha hb hc hd
  obtain ⟨W, hW⟩ : ∃ W, (w.alloc (.cells #[.slice ao ls.length ac, .slice bo li.length bc] 27)).alloc (.cells #[.slice co ms.length cc, .slice eo mi.length ec] 27) = W := ⟨_, rfl⟩
  rw [hW] at XA XB BL HA HB HC HD
  have a0 := XA.out.cell (j := 0) rfl
  have a1 := XA.out.cell (j := 1) rfl
  have b0 := XB.out.cell (j := 0) rfl
  have b1 := XB.out.cell (j := 1) rfl
  have cS := hid (equal_Session ao co ls ms ac cc h1 h3 W HA.out HC.out)
  unfold keepSame
  obtain ⟨r, hr⟩ : ∃ r, alikeBy sessEq ls ms = r := ⟨_, rfl⟩
  rw [hr] at cS ⊢
  clear hr
  cases r with
  | false =>
    go_enter Tryd.func9, Tryd.ntmps9
    go_wp2_with fail
    refine cS.out.mono ?_
    rintro e w1 ⟨rfl, b1⟩
    have B1 := hid (below_via BL.out b1)
    clear b1
    go_wp2
    go_ret
    exact ⟨rfl, B1.out⟩
  | true =>
    rw [Bool.true_and]
    obtain ⟨r2, hr2⟩ : ∃ r, alikeBy itemEq li mi = r := ⟨_, rfl⟩
    have HR := hid hr2
    rw [hr2]
    clear hr2
    go_enter Tryd.func9, Tryd.ntmps9
    go_wp2_with fail
    refine cS.out.mono ?_
    rintro e w1 ⟨rfl, b1⟩
    have XA1 := XA.out.on b1 XA.out.lt
    have XB1 := XB.out.on b1 XB.out.lt
    have HB1 := hid (HB.out.on b1)
    have HD1 := hid (HD.out.on b1)
    have B1 := hid (below_via BL.out b1)
    have x1 := XA1.cell (j := 1) rfl
    have y1 := XB1.cell (j := 1) rfl
    clear XA1 XB1 b1 cS a0 a1 b0 XA XB HA HB HC HD BL hW
    go_wp2_with fail
    refine (equal_Item bo eo li mi bc ec h2 h4 w1 HB1.out HD1.out).mono ?_
    rintro e w2 ⟨rfl, b2⟩
    rw [HR.out]
    have B2 := hid (below_via B1.out b2)
    clear b2
    go_wp2
    go_ret
    exact ⟨rfl, B2.out⟩
end Go.Proofs.YtihgkocfgjihhaaDoor

namespace Go.Proofs.YtihgkocfgjihhaaDoor
open Go.RowKit

set_option maxRecDepth 100000 in
theorem eq_Command (p0 p1 p2 : Int) (p3 p4 : ByteArray) (p5 : Int) (w : World) : (binOp .eql 37 (.agg #[.int .i64 p0, .int .i64 p1, .int .i64 p2, .string p3, .string p4, .int .i64 p5]) (.agg #[.int .i64 p0, .int .i64 p1, .int .i64 p2, .string p3, .string p4, .int .i64 p5])).run Tryd.prog w = .ok (.bool true) w := by
  rw [run_eql_struct, run_equalIn_agg (w := w) (d := 9999) (t := 37) (ht := by kernel_rfl) (hp := by kernel_rfl)]
  simp only [Program.fieldsOf, Tryd.underlying37]
  simp [go_sem]
theorem guard_Command (a b : Operand) (xs ys : Array Value) (w : World) : (eqGuard .eql 37 a b (.agg xs) (.agg ys)).run Tryd.prog w = .ok () w := run_eqGuard_agg w .eql 37 a b xs ys (by kernel_rfl)
end Go.Proofs.YtihgkocfgjihhaaDoor
