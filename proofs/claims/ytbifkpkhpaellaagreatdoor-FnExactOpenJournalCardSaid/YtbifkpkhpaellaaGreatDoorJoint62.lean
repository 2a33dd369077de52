/-
  The walks of impl.framesOf and of the function that it hands back: each whole frame's record and the place behind it, up to the first that is torn.
-/
import Derived.Test.YtbifkpkhpaellaaGreatDoorJoint61
import Derived.Test.YtbifkpkhpaellaaGreatDoorJoint1
import Derived.RangeFuncNested
import Derived.RangeFuncBound
import Derived.RangeFuncCalls
import Derived.RangeFuncLeaves
import Derived.Shelf.Abstract
import Derived.Shelf.RegionOpen
import Derived.WalkKit
import Derived.OwnWalkIn
import Derived.TacticsInMore
import Derived.LoopNIn
import Derived.LoopIn
namespace Go.Proofs.YtbifkpkhpaellaaGreatDoor
open Go.RowKit Go.Shelf
attribute [local go_sem] Oper.semAt_some

/-- what a round that goes on keeps: all that lay below n, and the box of the file -/
def KeptFile (n Bn : Nat) (W W' : World) : Prop := Below n W W' ∧ ∀ v, Boxed W Bn 9 v → Boxed W' Bn 9 v

theorem steps_via {n : Nat} {w w' : World} (h : Steps w) (hb : Below n w w') (h0 : 2 < n) : Steps w' := var?_below hb stepsVar h0 h

theorem boxed_on {w w' : World} {B : Nat} {t : TypeId} {v : Value} (h : Boxed w B t v) (hb : Below w.heap.size w w') : Boxed w' B t v := h.kept (grown_of_below hb none) (by simp)

/-- a record, and the place behind it -/
def frameOut (s : ByteArray) (x : Nat × Nat) : Array Value := #[.string (s.extract x.1 x.2), .int .i64 (x.2 : Int)]

set_option maxRecDepth 1000000 in
set_option maxHeartbeats 2000000 in
theorem frames1_in (n : Nat) (hn : 1 ≤ n) (l Bn n₀ : Nat) (h00 : 2 < n₀) (s : ByteArray) (hs : s.size ≤ 20000) (J Jx : List (Nat × Nat) → World → Prop) (B0 : Nat) (hJ : AbidesFrom B0 J)
    (hY : ∀ pre x W, J pre W → pre.length < s.size → YieldAt Fence.wide (n - 1) Tryz.prog l (frameOut s x) W fun e W' =>
      (e = .returned (.bool true) ∧ J (pre ++ [x]) W' ∧ KeptFile n₀ Bn W W') ∨ (e = .returned (.bool false) ∧ Jx (pre ++ [x]) W'))
    (W : World) (hBn : Boxed W Bn 9 (.string s)) (hT : Steps W) (h0 : J [] W) :
    CallsIn Fence.wide n Tryz.prog 91 #[.func (.yield l) #[] #[], .pointer (some ⟨Bn, 0, none⟩)] W fun e W' => (∃ v, e = .returned v) ∧
      ((∃ ys, ys = ufs s 0 ∧ J ys W') ∨ (∃ pre, pre <+: ufs s 0 ∧ Jx pre W')) := by
  refine callsIn_of_wp Tryz.func91 rfl trivial ?_ rfl
  simp only [Tryz.ntmps91, List.size_toArray, List.length_cons, List.length_nil, Nat.reduceAdd, Nat.reduceSub, Array.replicate_succ, Array.replicate_zero, List.push_toArray, List.append_toArray, List.nil_append, List.cons_append]
  gi_wp2
  gi_loopw [3] (fun p wr => ∃ (k : Nat) (pre : List (Nat × Nat)), UfAt s k pre ∧ p = .int .i64 k ∧ J pre wr ∧ Boxed wr Bn 9 (.string s) ∧ Steps wr) (fun p _ => s.size - (intOf p).toNat)
  case atStart => exact ⟨0, [], UfAt.start s, rfl, h0, hBn, hT⟩
  case round =>
    obtain ⟨k, pre, hU, rfl, hJs, hbx, hst⟩ := hrel
    have HU := hid0 hU
    have HJ := hid0 hJs
    have HB := hid0 hbx
    have HT := hid0 hst
    have hc := hbx.cell
    have hkl := hU.hi
    have hpl := hU.len
    have cR' := readFrame_any s k hkl (by omega) wr hst
    clear hU hJs hbx hst
    cases hr : rf s k with
    | none =>
      rw [hr] at cR'
      have cR : Hid (Calls Tryz.prog 92 #[.string s, .int .i64 k] wr fun e w' => e = .returned (.tuple #[.string ByteArray.empty, .int .i64 0, .bool false]) ∧ Below wr.heap.size wr w') := cR'
      have HR := hid0 hr
      clear cR' hr
      gi_wp2_with (refine ⟨trivial, ?_⟩; gi_at_call 92; refine (callsIn_wide.2 cR.out).mono ?_; rintro e w1 ⟨rfl, b1⟩)
      all_goals
        refine ⟨fun _ h => (by cases h), ?_⟩
        gi_wp2
        refine bodyPost_ret (results_none rfl _ _ _) rfl ?_
        exact ⟨⟨_, rfl⟩, .inl ⟨pre, (HU.out.stop HR.out).symm, hJ pre wr w1 none HJ.out (grown_of_below b1 none) (fun r e => by cases e)⟩⟩
    | some p =>
      obtain ⟨a, b⟩ := p
      have hbd := rf_bd hr
      rw [hr] at cR'
      have HR := hid0 hr
      obtain ⟨T, hTe⟩ : ∃ T, s.extract a b = T := ⟨_, rfl⟩
      have cR : Hid (Calls Tryz.prog 92 #[.string s, .int .i64 k] wr fun e w' => e = .returned (.tuple #[.string T, .int .i64 b, .bool true]) ∧ Below wr.heap.size wr w') := by rw [← hTe]; exact cR'
      clear cR' hr
      gi_wp2_with (refine ⟨trivial, ?_⟩; gi_at_call 92; refine (callsIn_wide.2 cR.out).mono ?_; rintro e w1 ⟨rfl, b1⟩; obtain ⟨fn, tmps, assign, body, hy, hR⟩ := hY pre (a, b) w1 (hJ pre wr w1 none HJ.out (grown_of_below b1 none) (fun r e => by cases e)) (by omega); have hy2 : (Instr.yield l #[.string T, .int .i64 (b : Int)]).run Tryz.prog w1 = .ok (.round l fn tmps assign body) w1 := (by rw [← hTe]; exact hy))
      refine hR.mono ?_
      rintro e W3 (⟨rfl, hJ3, hk3⟩ | ⟨rfl, hJx3⟩)
      · have hb3 := hk3.2 _ (boxed_on HB.out b1)
        have ht3 := steps_via (steps_on HT.out b1) hk3.1 h00
        have HJ3 := hid0 hJ3
        have HK3 := hid0 hk3
        clear hJ3 hk3
        gi_wp2
        go_roundw
        case rel => exact ⟨b, pre ++ [(a, b)], HU.out.step HR.out, rfl, HJ3.out, hb3, ht3⟩
        case measure => simp [intOf]; omega
      · gi_wp2
        refine bodyPost_ret (results_none rfl _ _ _) rfl ?_
        exact ⟨⟨_, rfl⟩, .inr ⟨pre ++ [(a, b)], ⟨ufs s b, by rw [HU.out.all, ufs_some HR.out]; simp⟩, hJx3⟩⟩

set_option maxRecDepth 1000000 in
set_option maxHeartbeats 1000000 in
/-- framesOf hands back a function that holds the file's box -/
theorem framesOf_in (n : Nat) (s : ByteArray) (w : World) :
    CallsIn Fence.wide n Tryz.prog 76 #[.string s] w fun e w' => e = .returned (.func (.func 91) #[] #[.pointer (some ⟨w.heap.size, 0, none⟩)]) ∧ w' = w.alloc (.cells #[.string s] 9) := by
  refine callsIn_of_wp Tryz.func76 rfl trivial ?_ rfl
  simp only [Tryz.ntmps76, List.size_toArray, List.length_cons, List.length_nil, Nat.reduceAdd, Nat.reduceSub, Array.replicate_succ, Array.replicate_zero, List.push_toArray, List.append_toArray, List.nil_append, List.cons_append]
  gi_wp2
  go_ret
  exact ⟨rfl, rfl⟩

/-- that function gives the frames, one by one -/
theorem frames_stops (n : Nat) (hn : 1 ≤ n) (Bn n₀ : Nat) (h00 : 2 < n₀) (s : ByteArray) (hs : s.size ≤ 20000) (w : World) (hn₀ : n₀ ≤ w.heap.size) (hBn : Boxed w Bn 9 (.string s)) (hT : Steps w) :
    SeqStopsK Fence.wide n Tryz.prog 91 #[.pointer (some ⟨Bn, 0, none⟩)] (frameOut s) (KeptFile n₀ Bn) (fun ys => ys = ufs s 0) (fun pre => pre <+: ufs s 0) s.size w := fun l J Jx W hW hJ _ hY h0 =>
  frames1_in n hn l Bn n₀ h00 s hs J Jx W.heap.size hJ hY W (boxed_on hBn hW) (steps_via hT (hW.mono hn₀) h00) h0
end Go.Proofs.YtbifkpkhpaellaaGreatDoor
