/-
  For every argument, laws.FnExactHear returns true: impl.Hear and spec.Hear answer alike, no argument is written, the answer owns its memory; nothing that was in memory is written.
-/
import Derived.Test.YtngcldjkpcmidaaRows
import Derived.Test.YtngcldjkpcmidaaJoint1
import Derived.Test.YtngcldjkpcmidaaJoint3
import Derived.Test.YtngcldjkpcmidaaJoint5
import Derived.Test.YtngcldjkpcmidaaJoint7
import Derived.Test.YtngcldjkpcmidaaJoint11
import Derived.Test.YtngcldjkpcmidaaJoint12
import Derived.Test.YtngcldjkpcmidaaJoint15
import Derived.Test.YtngcldjkpcmidaaJoint30
import Derived.Test.YtngcldjkpcmidaaJoint48
import Derived.Deep.RegionWith
import Derived.Deep.DeepCutAuto
import Derived.WalkSmall
import Derived.WalkKit
import Derived.ProofKit
import Derived.OpenShut
import Derived.OpenVars
import Derived.Deep.DeepHandedRow
import Derived.Lib.LaidTab
import Derived.Stop.LaidErr
namespace Go.Proofs.Ytngcldjkpcmidaa.fnExactHear
open Go.ChangeShapes Go.WideShapes Go.ChangeAt Go.ChangeMaps Go.RowKit

/-- all others come ahead of it -/
theorem not_all_after {ops : Array Oper} {k i : Nat} (h : ((List.range ops.size).all fun q => decide (q = k) || reachB ops 8 k q) = true) (hi : i < ops.size) (hne : i ≠ k) (hw : reachB ops 8 k i = false) : False := by
  rw [List.all_eq_true] at h
  have := h i (List.mem_range.2 hi)
  simp [hne, hw] at this
/-- nothing but blocks of one kind between two sizes has turned -/
def KeptOf (ty : TypeId) (lo hi : Nat) (w w' : World) : Prop := ∀ j t cs, ¬ (lo ≤ j ∧ j < hi ∧ t = ty) → BlockIs w j t cs → BlockIs w' j t cs
theorem keptO_row {w w' : World} {t ty : TypeId} {cs : List Value} {n : Nat} {va : Option Addr} {lo hi lo2 hi2 : Nat} (h : OwnAt w t cs n va lo hi) (hk : KeptOf ty lo2 hi2 w w') (ho : hi ≤ lo2 ∨ hi2 ≤ lo ∨ t ≠ ty) : OwnAt w' t cs n va lo hi :=
  h.imp id fun ⟨g, r, a, b, c, d⟩ => ⟨g, r, a, b, c, hk _ _ _ (fun h => by rcases ho with q | q | q; omega; omega; exact q h.2.2) d⟩
theorem keptO_block {w w' : World} {g lo hi : Nat} {t ty : TypeId} {cs : List Value} (h : BlockIs w g t cs) (hk : KeptOf ty lo hi w w') (ho : t ≠ ty) : BlockIs w' g t cs := hk _ _ _ (fun h => ho h.2.2) h
theorem lates3 {w : World} {l : List LateD} {n : Nat} {va : Option Addr} {lo hi : Nat} (h : OwnAt w 61 (lateCells l) n va lo hi) (hn : l.length = n) : LatesAt w va l := by
  subst hn
  exact h.lates
theorem row_stored {w : World} {t t' : TypeId} {cs c2 : List Value} {n b : Nat} {va : Option Addr} {lo hi : Nat} (h : OwnAt w t cs n va lo hi) (hb : BlockIs w b t' c2) (ht : t' ≠ t) (A : Array Value) : OwnAt (w.setRow b A) t cs n va lo (w.setRow b A).heap.size := by
  rcases h with h0 | ⟨g, r, a, h1, h2, d⟩
  · exact Or.inl h0
  · have hne : b ≠ g := by
      rintro rfl
      exact ht (block_one hb d).1
    have d2 := block_setRow d hne A
    exact Or.inr ⟨g, r, a, h1, d2.lt, d2⟩
theorem markStream_h (d : StrD) (m : Nat) (va : Option Addr) (vc : Nat) (l : List LateD) (lo hi : Nat) (hm : m ≤ 10000000) (hl : l.length ≤ 1048576) (w : World) (hw : lo ≤ w.heap.size) (h : OwnAt w 61 (lateCells l) l.length va lo hi) :
    Calls Try.prog 12 #[.agg #[.int .i64 d.st, .int .i64 d.iss, .int .i64 d.una, .int .i64 d.rcv, .string d.wait, .int .i64 d.sent, .int .i64 d.fin, .bool d.pf, .string d.inn, .slice va l.length vc, .bool d.owe, .int .i64 d.due, .int .i64 d.times], .int .i64 m] w fun e w' => e = .returned (.int .i64 ((m + 2 * l.length : Nat) : Int)) ∧ OwnAt w' 61 (lateCells (marksLate m l.length)) l.length va lo hi ∧ KeptOf 61 lo hi w w' ∧ Below lo w w' := by
  rcases h with h0 | ⟨g, r, rfl, h1, h2, h3⟩
  · refine (markStream_o d m va vc l lo lo hm hl w hw (Or.inl h0)).mono ?_
    rintro e w' ⟨rfl, _, hk, hb⟩
    exact ⟨rfl, Or.inl h0, fun j t cs _ hj => hk j t cs (by omega) hj, hb⟩
  · refine (markStream_any d g l vc m r hm hl w h3).mono ?_
    rintro e w' ⟨rfl, hk, hg⟩
    refine ⟨rfl, Or.inr ⟨g, r, rfl, h1, h2, hk⟩, ?_, ?_⟩
    · intro j t cs' hne hj
      unfold BlockIs
      rw [hg.block j hj.lt (fun e => ?_)]
      · exact hj
      · have e' : j = g := by simpa using e
        subst e'
        exact hne ⟨h1, h2, (block_one hj h3).1⟩
    · refine ⟨hg.os, hg.tape, hg.output, hg.size, fun k hk => hg.block k (by omega) ?_⟩
      intro e
      have e' : k = g := by simpa using e
      omega

set_option maxRecDepth 1000000 in
set_option maxHeartbeats 8000000 in
theorem walk (d : StrD) (hd : d.Fits) (ao : Option Addr) (cap : Nat) (hl : d.late.length ≤ maxLen) (hf : LatesFit d.late) (s : SegD) (hsf : s.Fits) (w : World) (ha : LatesAt w ao d.late) :
    Calls Try.prog 3 #[.agg #[.int .i64 d.st, .int .i64 d.iss, .int .i64 d.una, .int .i64 d.rcv, .string d.wait, .int .i64 d.sent, .int .i64 d.fin, .bool d.pf, .string d.inn, .slice ao d.late.length cap, .bool d.owe, .int .i64 d.due, .int .i64 d.times], .agg #[.int .i64 s.num, .int .i64 s.ack, .int .i64 s.flags, .string s.body]] w fun e w' => e = .returned (.bool true) ∧ Below w.heap.size w w' := by
  have HA := hid ha
  have X_p := hid (show BlockIs (w.alloc (.cells #[.int .i64 d.st, .int .i64 d.iss, .int .i64 d.una, .int .i64 d.rcv, .string d.wait, .int .i64 d.sent, .int .i64 d.fin, .bool d.pf, .string d.inn, .slice ao d.late.length cap, .bool d.owe, .int .i64 d.due, .int .i64 d.times] 24)) w.heap.size 24 [.int .i64 d.st, .int .i64 d.iss, .int .i64 d.una, .int .i64 d.rcv, .string d.wait, .int .i64 d.sent, .int .i64 d.fin, .bool d.pf, .string d.inn, .slice ao d.late.length cap, .bool d.owe, .int .i64 d.due, .int .i64 d.times] from heap_alloc_new w _)
  have B := hid (below_more (Below.refl w.heap.size w) (.cells #[.int .i64 d.st, .int .i64 d.iss, .int .i64 d.una, .int .i64 d.rcv, .string d.wait, .int .i64 d.sent, .int .i64 d.fin, .bool d.pf, .string d.inn, .slice ao d.late.length cap, .bool d.owe, .int .i64 d.due, .int .i64 d.times] 24))
  have O0 := hid X_p.out.lt
  clear ha
  have ba := below_more (Below.refl (w.alloc (.cells #[.int .i64 d.st, .int .i64 d.iss, .int .i64 d.una, .int .i64 d.rcv, .string d.wait, .int .i64 d.sent, .int .i64 d.fin, .bool d.pf, .string d.inn, .slice ao d.late.length cap, .bool d.owe, .int .i64 d.due, .int .i64 d.times] 24)).heap.size (w.alloc (.cells #[.int .i64 d.st, .int .i64 d.iss, .int .i64 d.una, .int .i64 d.rcv, .string d.wait, .int .i64 d.sent, .int .i64 d.fin, .bool d.pf, .string d.inn, .slice ao d.late.length cap, .bool d.owe, .int .i64 d.due, .int .i64 d.times] 24))) (.cells #[.int .i64 s.num, .int .i64 s.ack, .int .i64 s.flags, .string s.body] 26)
  have hx : BlockIs ((w.alloc (.cells #[.int .i64 d.st, .int .i64 d.iss, .int .i64 d.una, .int .i64 d.rcv, .string d.wait, .int .i64 d.sent, .int .i64 d.fin, .bool d.pf, .string d.inn, .slice ao d.late.length cap, .bool d.owe, .int .i64 d.due, .int .i64 d.times] 24)).alloc (.cells #[.int .i64 s.num, .int .i64 s.ack, .int .i64 s.flags, .string s.body] 26)) (w.alloc (.cells #[.int .i64 d.st, .int .i64 d.iss, .int .i64 d.una, .int .i64 d.rcv, .string d.wait, .int .i64 d.sent, .int .i64 d.fin, .bool d.pf, .string d.inn, .slice ao d.late.length cap, .bool d.owe, .int .i64 d.due, .int .i64 d.times] 24)).heap.size 26 [.int .i64 s.num, .int .i64 s.ack, .int .i64 s.flags, .string s.body] := heap_alloc_new (w.alloc (.cells #[.int .i64 d.st, .int .i64 d.iss, .int .i64 d.una, .int .i64 d.rcv, .string d.wait, .int .i64 d.sent, .int .i64 d.fin, .bool d.pf, .string d.inn, .slice ao d.late.length cap, .bool d.owe, .int .i64 d.due, .int .i64 d.times] 24)) _
  have hx1 : (w.alloc (.cells #[.int .i64 d.st, .int .i64 d.iss, .int .i64 d.una, .int .i64 d.rcv, .string d.wait, .int .i64 d.sent, .int .i64 d.fin, .bool d.pf, .string d.inn, .slice ao d.late.length cap, .bool d.owe, .int .i64 d.due, .int .i64 d.times] 24)).heap.size = w.heap.size + 1 := by simp
  rw [hx1] at hx
  clear hx1
  have X_p_0a := hid (X_p.out.on ba X_p.out.lt)
  have B_0a := hid (below_via B.out ba)
  have X_s_0a := hid hx
  have O0a := hid hx.lt
  clear ba hx X_p B
  have cX_p0_0a := X_p_0a.out.cell (j := 0) rfl
  have cX_p1_0a := X_p_0a.out.cell (j := 1) rfl
  have cX_p2_0a := X_p_0a.out.cell (j := 2) rfl
  have cX_p3_0a := X_p_0a.out.cell (j := 3) rfl
  have cX_p4_0a := X_p_0a.out.cell (j := 4) rfl
  have cX_p5_0a := X_p_0a.out.cell (j := 5) rfl
  have cX_p6_0a := X_p_0a.out.cell (j := 6) rfl
  have cX_p7_0a := X_p_0a.out.cell (j := 7) rfl
  have cX_p8_0a := X_p_0a.out.cell (j := 8) rfl
  have cX_p9_0a := X_p_0a.out.cell (j := 9) rfl
  have cX_p10_0a := X_p_0a.out.cell (j := 10) rfl
  have cX_p11_0a := X_p_0a.out.cell (j := 11) rfl
  have cX_p12_0a := X_p_0a.out.cell (j := 12) rfl
  have cX_s0_0a := X_s_0a.out.cell (j := 0) rfl
  have cX_s1_0a := X_s_0a.out.cell (j := 1) rfl
  have cX_s2_0a := X_s_0a.out.cell (j := 2) rfl
  have cX_s3_0a := X_s_0a.out.cell (j := 3) rfl
  go_enter Try.func3, Try.ntmps3
  go_wp2_with fail
  refine Calls.mono (szStream_any d ao cap hd hl hf _ (HA.out.on B_0a.out)) ?_
  rintro e w1 ⟨hor, b1⟩
  have O1 := hid b1.size
  have X_p_1 := hid (X_p_0a.out.on b1 X_p_0a.out.lt)
  have B_1 := hid (below_via B_0a.out b1)
  have X_s_1 := hid (X_s_0a.out.on b1 X_s_0a.out.lt)
  clear b1 X_p_0a B_0a X_s_0a cX_p0_0a cX_p1_0a cX_p2_0a cX_p3_0a cX_p4_0a cX_p5_0a cX_p6_0a cX_p7_0a cX_p8_0a cX_p9_0a cX_p10_0a cX_p11_0a cX_p12_0a cX_s0_0a cX_s1_0a cX_s2_0a cX_s3_0a
  have cX_p0_1 := X_p_1.out.cell (j := 0) rfl
  have cX_p1_1 := X_p_1.out.cell (j := 1) rfl
  have cX_p2_1 := X_p_1.out.cell (j := 2) rfl
  have cX_p3_1 := X_p_1.out.cell (j := 3) rfl
  have cX_p4_1 := X_p_1.out.cell (j := 4) rfl
  have cX_p5_1 := X_p_1.out.cell (j := 5) rfl
  have cX_p6_1 := X_p_1.out.cell (j := 6) rfl
  have cX_p7_1 := X_p_1.out.cell (j := 7) rfl
  have cX_p8_1 := X_p_1.out.cell (j := 8) rfl
  have cX_p9_1 := X_p_1.out.cell (j := 9) rfl
  have cX_p10_1 := X_p_1.out.cell (j := 10) rfl
  have cX_p11_1 := X_p_1.out.cell (j := 11) rfl
  have cX_p12_1 := X_p_1.out.cell (j := 12) rfl
  have cX_s0_1 := X_s_1.out.cell (j := 0) rfl
  have cX_s1_1 := X_s_1.out.cell (j := 1) rfl
  have cX_s2_1 := X_s_1.out.cell (j := 2) rfl
  have cX_s3_1 := X_s_1.out.cell (j := 3) rfl
  rcases hor with ⟨hneg, rfl⟩ | ⟨hnn, rfl⟩
  · go_wp2
    go_ret
    exact ⟨rfl, B_1.out⟩
  have hl2 := (strSmall hnn).late
  have HSM := hid (strSmall hnn)
  have hnp := strBulk_nonneg d
  clear hf hl
  go_wp2_with fail
  refine Calls.mono (szSeg_any s (1048576 - strBulk d) hnn (by omega) hsf _) ?_
  rintro e w2 ⟨hor2, b2⟩
  have O2 := hid b2.size
  have X_p_2 := hid (X_p_1.out.on b2 X_p_1.out.lt)
  have B_2 := hid (below_via B_1.out b2)
  have X_s_2 := hid (X_s_1.out.on b2 X_s_1.out.lt)
  clear b2 X_p_1 B_1 X_s_1 cX_p0_1 cX_p1_1 cX_p2_1 cX_p3_1 cX_p4_1 cX_p5_1 cX_p6_1 cX_p7_1 cX_p8_1 cX_p9_1 cX_p10_1 cX_p11_1 cX_p12_1 cX_s0_1 cX_s1_1 cX_s2_1 cX_s3_1
  have cX_p0_2 := X_p_2.out.cell (j := 0) rfl
  have cX_p1_2 := X_p_2.out.cell (j := 1) rfl
  have cX_p2_2 := X_p_2.out.cell (j := 2) rfl
  have cX_p3_2 := X_p_2.out.cell (j := 3) rfl
  have cX_p4_2 := X_p_2.out.cell (j := 4) rfl
  have cX_p5_2 := X_p_2.out.cell (j := 5) rfl
  have cX_p6_2 := X_p_2.out.cell (j := 6) rfl
  have cX_p7_2 := X_p_2.out.cell (j := 7) rfl
  have cX_p8_2 := X_p_2.out.cell (j := 8) rfl
  have cX_p9_2 := X_p_2.out.cell (j := 9) rfl
  have cX_p10_2 := X_p_2.out.cell (j := 10) rfl
  have cX_p11_2 := X_p_2.out.cell (j := 11) rfl
  have cX_p12_2 := X_p_2.out.cell (j := 12) rfl
  have cX_s0_2 := X_s_2.out.cell (j := 0) rfl
  have cX_s1_2 := X_s_2.out.cell (j := 1) rfl
  have cX_s2_2 := X_s_2.out.cell (j := 2) rfl
  have cX_s3_2 := X_s_2.out.cell (j := 3) rfl
  rcases hor2 with ⟨hneg, rfl⟩ | ⟨hnn2, rfl⟩
  · go_wp2
    go_ret
    exact ⟨rfl, B_2.out⟩
  have hsb : s.body.size ≤ 1048576 := by unfold segOne at hnn2; omega
  have CS0 := hid (fun W va vc (hv : LatesAt W va d.late) => specHear_any d va vc HSM.out s hsb W hv)
  have CI0 := hid (fun W va vc (hv : LatesAt W va d.late) => implHear_any d va vc HSM.out s hsb W hv)
  unfold StrDid1 at CS0 CI0
  obtain ⟨D, hF⟩ : ∃ A, hearD s d = A := ⟨_, rfl⟩
  have hA2 : D.late.length ≤ 1048576 := by rw [← hF]; have := hearD_few s d; omega
  rw [hF] at CS0 CI0
  clear hF
  go_upto_region 8 with fail
  go_cut [6] (fun c W => Hid (Below w2.heap.size w2 W) ∧ ∃ (va : Option Addr) (vc b : Nat), c = .pointer (some ⟨b, 0, none⟩) ∧ Hid (w2.heap.size ≤ b ∧ BlockIs W b 31 [.int .i64 D.st, .int .i64 D.iss, .int .i64 D.una, .int .i64 D.rcv, .string D.wait, .int .i64 D.sent, .int .i64 D.fin, .bool D.pf, .string D.inn, .slice va D.late.length vc, .bool D.owe, .int .i64 D.due, .int .i64 D.times] ∧ OwnAt W 61 (lateCells D.late) D.late.length va (w2.heap.size) W.heap.size))
  case first =>
    refine wp_region_chain_b (N := 82) (by kernel_rfl) (by kernel_rfl) rfl (by kernel_rfl) [(2, .pointer (some ⟨w.heap.size, 0, none⟩)), (3, .pointer (some ⟨w.heap.size + 1, 0, none⟩))] (by intro p hp; simp only [List.mem_cons, List.not_mem_nil, or_false] at hp; rcases hp with rfl | rfl <;> rfl) (fun W => Below w2.heap.size w2 W) (fun j v u W => match j with | 0 => v = .agg #[.int .i64 d.st, .int .i64 d.iss, .int .i64 d.una, .int .i64 d.rcv, .string d.wait, .int .i64 d.sent, .int .i64 d.fin, .bool d.pf, .string d.inn, .slice ao d.late.length cap, .bool d.owe, .int .i64 d.due, .int .i64 d.times] | 1 => ∃ (va : Option Addr) (vc : Nat), v = .agg #[.int .i64 d.st, .int .i64 d.iss, .int .i64 d.una, .int .i64 d.rcv, .string d.wait, .int .i64 d.sent, .int .i64 d.fin, .bool d.pf, .string d.inn, .slice va d.late.length vc, .bool d.owe, .int .i64 d.due, .int .i64 d.times] ∧ LatesAt W va d.late | 2 => v = .agg #[.int .i64 s.num, .int .i64 s.ack, .int .i64 s.flags, .string s.body] | 3 => v = .agg #[.int .i64 s.num, .int .i64 s.ack, .int .i64 s.flags, .string s.body] | 4 => ∃ (va : Option Addr) (vc : Nat), v = .agg #[.int .i64 D.st, .int .i64 D.iss, .int .i64 D.una, .int .i64 D.rcv, .string D.wait, .int .i64 D.sent, .int .i64 D.fin, .bool D.pf, .string D.inn, .slice va D.late.length vc, .bool D.owe, .int .i64 D.due, .int .i64 D.times] ∧ OwnAt W 61 (lateCells D.late) D.late.length va (w2.heap.size) W.heap.size | 5 => ∃ b : Nat, v = .pointer (some ⟨b, 0, none⟩) ∧ w2.heap.size ≤ b ∧ BlockIs W b 31 [.int .i64 0, .int .i64 0, .int .i64 0, .int .i64 0, .string ⟨#[]⟩, .int .i64 0, .int .i64 0, .bool false, .string ⟨#[]⟩, .slice none 0 0, .bool false, .int .i64 0, .int .i64 0] | 6 => ∃ (va : Option Addr) (vc b : Nat), u = .pointer (some ⟨b, 0, none⟩) ∧ w2.heap.size ≤ b ∧ BlockIs W b 31 [.int .i64 D.st, .int .i64 D.iss, .int .i64 D.una, .int .i64 D.rcv, .string D.wait, .int .i64 D.sent, .int .i64 D.fin, .bool D.pf, .string D.inn, .slice va D.late.length vc, .bool D.owe, .int .i64 D.due, .int .i64 D.times] ∧ OwnAt W 61 (lateCells D.late) D.late.length va (w2.heap.size) W.heap.size | _ => True) (fun i => if i = 6 then 5 else i) (fun j i => decide ((j, i) ∈ ([(1, 6), (4, 6), (5, 6)] : List (Nat × Nat)))) (fun i X9 Y9 => i ≠ 6 → Below X9.heap.size X9 Y9) (fun q9 W => match q9 with | 0 => True | _ => True) (fun m k => decide ((m, k) ∈ ([] : List (Nat × Nat)))) ?_ (fun i => if i = 6 then 6 else 0) (by kernel_rfl) (fun i hi => by have : 7 ≤ i := hi; simp; omega) ?_ (below_drewN (Below.refl _ _) 1) (fun q9 => match q9 with | 0 => trivial | _ + 1 => trivial) ?_ ?_
    · intro i m x y hen hxy hm
      match m, hen, hm with
      | 0, hen, hm =>
        exact trivial
      | n + 1, _, _ => exact trivial
    · intro i j v u x y hsz hij hdd hwt hxy hg
      match j, hg with
      | 0, hg => exact hg
      | 1, hg =>
        obtain ⟨va, vc, e1, e2⟩ := hg
        exact ⟨va, vc, e1, e2.on (hxy (fun e9 => by subst e9; simp at hdd))⟩
      | 2, hg => exact hg
      | 3, hg => exact hg
      | 4, hg =>
        obtain ⟨va, vc, e1, e2⟩ := hg
        have h9 := (hxy (fun e9 => by subst e9; simp at hdd))
        exact ⟨va, vc, e1, (e2.on h9).down (Nat.le_refl _) h9.size⟩
      | 5, hg =>
        obtain ⟨b, e1, e2, e3⟩ := hg
        exact ⟨b, e1, e2, e3.on (hxy (fun e9 => by subst e9; simp at hdd)) e3.lt⟩
      | 6, hg =>
        exact (not_all_after (by kernel_rfl) hsz hij hwt).elim
      | n + 7, _ => exact trivial
    · refine ⟨?_, ?_, ?_, ?_, ?_, ?_, ?_, trivial⟩
      · intro A W hC hI hg hb
        have h2 : A.eval (.tmp 2) = .pointer (some ⟨w.heap.size, 0, none⟩) := hb 2 _ (.head _) (chain_of (by kernel_rfl))
        have hk := X_p_2.out.on hC X_p_2.out.lt
        have hc0 := hk.cell (j := 0) rfl
        have hc1 := hk.cell (j := 1) rfl
        have hc2 := hk.cell (j := 2) rfl
        have hc3 := hk.cell (j := 3) rfl
        have hc4 := hk.cell (j := 4) rfl
        have hc5 := hk.cell (j := 5) rfl
        have hc6 := hk.cell (j := 6) rfl
        have hc7 := hk.cell (j := 7) rfl
        have hc8 := hk.cell (j := 8) rfl
        have hc9 := hk.cell (j := 9) rfl
        have hc10 := hk.cell (j := 10) rfl
        have hc11 := hk.cell (j := 11) rfl
        have hc12 := hk.cell (j := 12) rfl
        exact does_value (v := .agg #[.int .i64 d.st, .int .i64 d.iss, .int .i64 d.una, .int .i64 d.rcv, .string d.wait, .int .i64 d.sent, .int .i64 d.fin, .bool d.pf, .string d.inn, .slice ao d.late.length cap, .bool d.owe, .int .i64 d.due, .int .i64 d.times]) (w' := W) (by simp only [execOp, h2]; simp [go_sem, hc0, hc1, hc2, hc3, hc4, hc5, hc6, hc7, hc8, hc9, hc10, hc11, hc12]) ⟨rfl, hC, fun _ => Below.refl _ _⟩
      · intro A W hC hI hg hb
        have h23 : A.eval (.tmp 23) = .agg #[.int .i64 d.st, .int .i64 d.iss, .int .i64 d.una, .int .i64 d.rcv, .string d.wait, .int .i64 d.sent, .int .i64 d.fin, .bool d.pf, .string d.inn, .slice ao d.late.length cap, .bool d.owe, .int .i64 d.due, .int .i64 d.times] := hg 0 23 (by decide) rfl (by simp [Op.operands, Call.operands]) (by kernel_rfl) (by kernel_rfl) rfl
        simp [go_sem] at h23
        refine does_enter (f := 8) (args := #[.agg #[.int .i64 d.st, .int .i64 d.iss, .int .i64 d.una, .int .i64 d.rcv, .string d.wait, .int .i64 d.sent, .int .i64 d.fin, .bool d.pf, .string d.inn, .slice ao d.late.length cap, .bool d.owe, .int .i64 d.due, .int .i64 d.times]]) (w' := W) (by simp [go_sem, h23]) ?_
        refine (toStream_o d ao cap hl2 W (HA.out.on (below_via B_2.out hC))).mono ?_
        rintro e9 W' ⟨va, vc, rfl, _, ho, hb⟩
        exact ⟨_, rfl, ⟨va, vc, rfl, ho.lates⟩, below_via hC hb, fun _ => hb⟩
      · intro A W hC hI hg hb
        have h3 : A.eval (.tmp 3) = .pointer (some ⟨w.heap.size + 1, 0, none⟩) := hb 3 _ (.tail _ (.head _)) (chain_of (by kernel_rfl))
        have hk := X_s_2.out.on hC X_s_2.out.lt
        have hc0 := hk.cell (j := 0) rfl
        have hc1 := hk.cell (j := 1) rfl
        have hc2 := hk.cell (j := 2) rfl
        have hc3 := hk.cell (j := 3) rfl
        exact does_value (v := .agg #[.int .i64 s.num, .int .i64 s.ack, .int .i64 s.flags, .string s.body]) (w' := W) (by simp only [execOp, h3]; simp [go_sem, hc0, hc1, hc2, hc3]) ⟨rfl, hC, fun _ => Below.refl _ _⟩
      · intro A W hC hI hg hb
        have h25 : A.eval (.tmp 25) = .agg #[.int .i64 s.num, .int .i64 s.ack, .int .i64 s.flags, .string s.body] := hg 2 25 (by decide) rfl (by simp [Op.operands, Call.operands]) (by kernel_rfl) (by kernel_rfl) rfl
        simp [go_sem] at h25
        refine does_enter (f := 9) (args := #[.agg #[.int .i64 s.num, .int .i64 s.ack, .int .i64 s.flags, .string s.body]]) (w' := W) (by simp [go_sem, h25]) ?_
        refine (toSeg_any s W).mono ?_
        rintro e9 W' ⟨rfl, hb⟩
        exact ⟨_, rfl, rfl, below_via hC hb, fun _ => hb⟩
      · intro A W hC hI hg hb
        have g1 := hg 1 24 (by decide) rfl (by simp [Op.operands, Call.operands]) (by kernel_rfl) (by kernel_rfl) rfl
        have h26 : A.eval (.tmp 26) = .agg #[.int .i64 s.num, .int .i64 s.ack, .int .i64 s.flags, .string s.body] := hg 3 26 (by decide) rfl (by simp [Op.operands, Call.operands]) (by kernel_rfl) (by kernel_rfl) rfl
        obtain ⟨va0, vc0, h24, hla⟩ := g1
        simp [go_sem] at h24 h26
        refine does_enter (f := 7) (args := #[.agg #[.int .i64 d.st, .int .i64 d.iss, .int .i64 d.una, .int .i64 d.rcv, .string d.wait, .int .i64 d.sent, .int .i64 d.fin, .bool d.pf, .string d.inn, .slice va0 d.late.length vc0, .bool d.owe, .int .i64 d.due, .int .i64 d.times], .agg #[.int .i64 s.num, .int .i64 s.ack, .int .i64 s.flags, .string s.body]]) (w' := W) (by simp [go_sem, h24, h26]) ?_
        refine (CS0.out W _ _ hla).mono ?_
        rintro e9 W' ⟨va, vc, rfl, _, ho, hb⟩
        exact ⟨_, rfl, ⟨va, vc, rfl, ho.down hC.size (Nat.le_refl _)⟩, below_via hC hb, fun _ => hb⟩
      · intro A W hC hI hg hb
        have ba := below_more (Below.refl W.heap.size W) (.cells #[.int .i64 0, .int .i64 0, .int .i64 0, .int .i64 0, .string ⟨#[]⟩, .int .i64 0, .int .i64 0, .bool false, .string ⟨#[]⟩, .slice none 0 0, .bool false, .int .i64 0, .int .i64 0] 31)
        exact does_value (v := .pointer (some ⟨W.heap.size, 0, none⟩)) (w' := W.alloc (.cells #[.int .i64 0, .int .i64 0, .int .i64 0, .int .i64 0, .string ⟨#[]⟩, .int .i64 0, .int .i64 0, .bool false, .string ⟨#[]⟩, .slice none 0 0, .bool false, .int .i64 0, .int .i64 0] 31)) (by simp [execOp, go_sem]) ⟨⟨_, rfl, hC.size, heap_alloc_new W _⟩, below_via hC ba, fun _ => ba⟩
      · intro A W hC hI hg hb
        have g5 := hg 5 6 (by decide) rfl (by simp [Op.operands]) (by kernel_rfl) (by kernel_rfl) rfl
        have g4 := hg 4 27 (by decide) rfl (by simp [Op.operands]) (by kernel_rfl) (by kernel_rfl) rfl
        obtain ⟨va, vc, h27, hrow⟩ := g4
        obtain ⟨b, h6, hbN, hbk⟩ := g5
        have hst := store_str hbk rfl (A := #[.int .i64 D.st, .int .i64 D.iss, .int .i64 D.una, .int .i64 D.rcv, .string D.wait, .int .i64 D.sent, .int .i64 D.fin, .bool D.pf, .string D.inn, .slice va D.late.length vc, .bool D.owe, .int .i64 D.due, .int .i64 D.times]) rfl (strCells_all D _ _)
        exact does_skip (w' := W.setRow b #[.int .i64 D.st, .int .i64 D.iss, .int .i64 D.una, .int .i64 D.rcv, .string D.wait, .int .i64 D.sent, .int .i64 D.fin, .bool D.pf, .string D.inn, .slice va D.late.length vc, .bool D.owe, .int .i64 D.due, .int .i64 D.times]) (by simp only [execOp, h6, h27, hst, Sem.run_bind, Sem.run_pure, Result.andThen_ok]) ⟨⟨va, vc, b, h6, hbN, store_block hbk _, row_stored hrow hbk (by decide) _⟩, below_setRow hC hbN _, fun h => absurd rfl h⟩
    · intro vs wE hC _ hg
      obtain ⟨va, vc, b, h1, h2, h3, h4⟩ := hg 6 (by decide) (fun k => by simp)
      have h1b : vs 5 = .pointer (some ⟨b, 0, none⟩) := h1
      clear hg h1
      simp only [List.size_toArray, List.length_cons, List.length_nil, Nat.zero_add, Nat.reduceAdd]
      simp only [laidBy, if_true, dstAt, List.getElem?_toArray, List.getElem?_cons_succ, List.getElem?_cons_zero, Option.bind_some]
      simp only [Act.put, List.setIfInBounds_toArray, List.set_cons_succ, List.set_cons_zero]
      rw [h1b]
      go_wp2_with fail
      go_meet
      exact ⟨hC, va, vc, b, rfl, h2, h3, h4⟩
  case rest =>
    rename World => w3
    obtain ⟨HB3, v3, c3, bk3, rfl, HC3⟩ := hcut
    have bb := HB3.out
    have O3 := hid bb.size
    have OB3 := hid HC3.out.1
    have OC3 := hid HC3.out.2.1.lt
    have X_p_3 := hid (X_p_2.out.on bb X_p_2.out.lt)
    have B_3 := hid (below_via B_2.out bb)
    have X_s_3 := hid (X_s_2.out.on bb X_s_2.out.lt)
    have R_w_3 := hid HC3.out.2.2
    have X_w_3 := hid HC3.out.2.1
    clear bb HB3 HC3 X_p_2 B_2 X_s_2 cX_p0_2 cX_p1_2 cX_p2_2 cX_p3_2 cX_p4_2 cX_p5_2 cX_p6_2 cX_p7_2 cX_p8_2 cX_p9_2 cX_p10_2 cX_p11_2 cX_p12_2 cX_s0_2 cX_s1_2 cX_s2_2 cX_s3_2
    have cX_p0_3 := X_p_3.out.cell (j := 0) rfl
    have cX_p1_3 := X_p_3.out.cell (j := 1) rfl
    have cX_p2_3 := X_p_3.out.cell (j := 2) rfl
    have cX_p3_3 := X_p_3.out.cell (j := 3) rfl
    have cX_p4_3 := X_p_3.out.cell (j := 4) rfl
    have cX_p5_3 := X_p_3.out.cell (j := 5) rfl
    have cX_p6_3 := X_p_3.out.cell (j := 6) rfl
    have cX_p7_3 := X_p_3.out.cell (j := 7) rfl
    have cX_p8_3 := X_p_3.out.cell (j := 8) rfl
    have cX_p9_3 := X_p_3.out.cell (j := 9) rfl
    have cX_p10_3 := X_p_3.out.cell (j := 10) rfl
    have cX_p11_3 := X_p_3.out.cell (j := 11) rfl
    have cX_p12_3 := X_p_3.out.cell (j := 12) rfl
    have cX_s0_3 := X_s_3.out.cell (j := 0) rfl
    have cX_s1_3 := X_s_3.out.cell (j := 1) rfl
    have cX_s2_3 := X_s_3.out.cell (j := 2) rfl
    have cX_s3_3 := X_s_3.out.cell (j := 3) rfl
    have cX_w0_3 := X_w_3.out.cell (j := 0) rfl
    have cX_w1_3 := X_w_3.out.cell (j := 1) rfl
    have cX_w2_3 := X_w_3.out.cell (j := 2) rfl
    have cX_w3_3 := X_w_3.out.cell (j := 3) rfl
    have cX_w4_3 := X_w_3.out.cell (j := 4) rfl
    have cX_w5_3 := X_w_3.out.cell (j := 5) rfl
    have cX_w6_3 := X_w_3.out.cell (j := 6) rfl
    have cX_w7_3 := X_w_3.out.cell (j := 7) rfl
    have cX_w8_3 := X_w_3.out.cell (j := 8) rfl
    have cX_w9_3 := X_w_3.out.cell (j := 9) rfl
    have cX_w10_3 := X_w_3.out.cell (j := 10) rfl
    have cX_w11_3 := X_w_3.out.cell (j := 11) rfl
    have cX_w12_3 := X_w_3.out.cell (j := 12) rfl
    go_wp2_with fail
    refine Calls.mono (toStream_o d ao cap hl2 _ (HA.out.on B_3.out)) ?_
    rintro e w4 ⟨v4, c4, rfl, hc4, h4, b4⟩
    have O4 := hid b4.size
    have Y4 := hid h4
    clear h4 hc4
    have X_p_4 := hid (X_p_3.out.on b4 X_p_3.out.lt)
    have B_4 := hid (below_via B_3.out b4)
    have X_s_4 := hid (X_s_3.out.on b4 X_s_3.out.lt)
    have R_w_4 := hid (R_w_3.out.on b4)
    have X_w_4 := hid (X_w_3.out.on b4 X_w_3.out.lt)
    clear b4 X_p_3 B_3 X_s_3 R_w_3 X_w_3 cX_p0_3 cX_p1_3 cX_p2_3 cX_p3_3 cX_p4_3 cX_p5_3 cX_p6_3 cX_p7_3 cX_p8_3 cX_p9_3 cX_p10_3 cX_p11_3 cX_p12_3 cX_s0_3 cX_s1_3 cX_s2_3 cX_s3_3 cX_w0_3 cX_w1_3 cX_w2_3 cX_w3_3 cX_w4_3 cX_w5_3 cX_w6_3 cX_w7_3 cX_w8_3 cX_w9_3 cX_w10_3 cX_w11_3 cX_w12_3
    have cX_p0_4 := X_p_4.out.cell (j := 0) rfl
    have cX_p1_4 := X_p_4.out.cell (j := 1) rfl
    have cX_p2_4 := X_p_4.out.cell (j := 2) rfl
    have cX_p3_4 := X_p_4.out.cell (j := 3) rfl
    have cX_p4_4 := X_p_4.out.cell (j := 4) rfl
    have cX_p5_4 := X_p_4.out.cell (j := 5) rfl
    have cX_p6_4 := X_p_4.out.cell (j := 6) rfl
    have cX_p7_4 := X_p_4.out.cell (j := 7) rfl
    have cX_p8_4 := X_p_4.out.cell (j := 8) rfl
    have cX_p9_4 := X_p_4.out.cell (j := 9) rfl
    have cX_p10_4 := X_p_4.out.cell (j := 10) rfl
    have cX_p11_4 := X_p_4.out.cell (j := 11) rfl
    have cX_p12_4 := X_p_4.out.cell (j := 12) rfl
    have cX_s0_4 := X_s_4.out.cell (j := 0) rfl
    have cX_s1_4 := X_s_4.out.cell (j := 1) rfl
    have cX_s2_4 := X_s_4.out.cell (j := 2) rfl
    have cX_s3_4 := X_s_4.out.cell (j := 3) rfl
    have cX_w0_4 := X_w_4.out.cell (j := 0) rfl
    have cX_w1_4 := X_w_4.out.cell (j := 1) rfl
    have cX_w2_4 := X_w_4.out.cell (j := 2) rfl
    have cX_w3_4 := X_w_4.out.cell (j := 3) rfl
    have cX_w4_4 := X_w_4.out.cell (j := 4) rfl
    have cX_w5_4 := X_w_4.out.cell (j := 5) rfl
    have cX_w6_4 := X_w_4.out.cell (j := 6) rfl
    have cX_w7_4 := X_w_4.out.cell (j := 7) rfl
    have cX_w8_4 := X_w_4.out.cell (j := 8) rfl
    have cX_w9_4 := X_w_4.out.cell (j := 9) rfl
    have cX_w10_4 := X_w_4.out.cell (j := 10) rfl
    have cX_w11_4 := X_w_4.out.cell (j := 11) rfl
    have cX_w12_4 := X_w_4.out.cell (j := 12) rfl
    have ba := below_more (Below.refl w4.heap.size w4) (.cells #[.int .i64 d.st, .int .i64 d.iss, .int .i64 d.una, .int .i64 d.rcv, .string d.wait, .int .i64 d.sent, .int .i64 d.fin, .bool d.pf, .string d.inn, .slice v4 d.late.length c4, .bool d.owe, .int .i64 d.due, .int .i64 d.times] 31)
    have hx : BlockIs (w4.alloc (.cells #[.int .i64 d.st, .int .i64 d.iss, .int .i64 d.una, .int .i64 d.rcv, .string d.wait, .int .i64 d.sent, .int .i64 d.fin, .bool d.pf, .string d.inn, .slice v4 d.late.length c4, .bool d.owe, .int .i64 d.due, .int .i64 d.times] 31)) w4.heap.size 31 [.int .i64 d.st, .int .i64 d.iss, .int .i64 d.una, .int .i64 d.rcv, .string d.wait, .int .i64 d.sent, .int .i64 d.fin, .bool d.pf, .string d.inn, .slice v4 d.late.length c4, .bool d.owe, .int .i64 d.due, .int .i64 d.times] := heap_alloc_new w4 _
    have X_p_4a := hid (X_p_4.out.on ba X_p_4.out.lt)
    have B_4a := hid (below_via B_4.out ba)
    have X_s_4a := hid (X_s_4.out.on ba X_s_4.out.lt)
    have R_w_4a := hid (R_w_4.out.on ba)
    have X_w_4a := hid (X_w_4.out.on ba X_w_4.out.lt)
    have Y4_4a := hid (Y4.out.on ba)
    have X_x_4a := hid hx
    have O4a := hid hx.lt
    clear ba hx X_p_4 B_4 X_s_4 R_w_4 X_w_4 Y4
    have cX_p0_4a := X_p_4a.out.cell (j := 0) rfl
    have cX_p1_4a := X_p_4a.out.cell (j := 1) rfl
    have cX_p2_4a := X_p_4a.out.cell (j := 2) rfl
    have cX_p3_4a := X_p_4a.out.cell (j := 3) rfl
    have cX_p4_4a := X_p_4a.out.cell (j := 4) rfl
    have cX_p5_4a := X_p_4a.out.cell (j := 5) rfl
    have cX_p6_4a := X_p_4a.out.cell (j := 6) rfl
    have cX_p7_4a := X_p_4a.out.cell (j := 7) rfl
    have cX_p8_4a := X_p_4a.out.cell (j := 8) rfl
    have cX_p9_4a := X_p_4a.out.cell (j := 9) rfl
    have cX_p10_4a := X_p_4a.out.cell (j := 10) rfl
    have cX_p11_4a := X_p_4a.out.cell (j := 11) rfl
    have cX_p12_4a := X_p_4a.out.cell (j := 12) rfl
    have cX_s0_4a := X_s_4a.out.cell (j := 0) rfl
    have cX_s1_4a := X_s_4a.out.cell (j := 1) rfl
    have cX_s2_4a := X_s_4a.out.cell (j := 2) rfl
    have cX_s3_4a := X_s_4a.out.cell (j := 3) rfl
    have cX_w0_4a := X_w_4a.out.cell (j := 0) rfl
    have cX_w1_4a := X_w_4a.out.cell (j := 1) rfl
    have cX_w2_4a := X_w_4a.out.cell (j := 2) rfl
    have cX_w3_4a := X_w_4a.out.cell (j := 3) rfl
    have cX_w4_4a := X_w_4a.out.cell (j := 4) rfl
    have cX_w5_4a := X_w_4a.out.cell (j := 5) rfl
    have cX_w6_4a := X_w_4a.out.cell (j := 6) rfl
    have cX_w7_4a := X_w_4a.out.cell (j := 7) rfl
    have cX_w8_4a := X_w_4a.out.cell (j := 8) rfl
    have cX_w9_4a := X_w_4a.out.cell (j := 9) rfl
    have cX_w10_4a := X_w_4a.out.cell (j := 10) rfl
    have cX_w11_4a := X_w_4a.out.cell (j := 11) rfl
    have cX_w12_4a := X_w_4a.out.cell (j := 12) rfl
    have cX_x0_4a := X_x_4a.out.cell (j := 0) rfl
    have cX_x1_4a := X_x_4a.out.cell (j := 1) rfl
    have cX_x2_4a := X_x_4a.out.cell (j := 2) rfl
    have cX_x3_4a := X_x_4a.out.cell (j := 3) rfl
    have cX_x4_4a := X_x_4a.out.cell (j := 4) rfl
    have cX_x5_4a := X_x_4a.out.cell (j := 5) rfl
    have cX_x6_4a := X_x_4a.out.cell (j := 6) rfl
    have cX_x7_4a := X_x_4a.out.cell (j := 7) rfl
    have cX_x8_4a := X_x_4a.out.cell (j := 8) rfl
    have cX_x9_4a := X_x_4a.out.cell (j := 9) rfl
    have cX_x10_4a := X_x_4a.out.cell (j := 10) rfl
    have cX_x11_4a := X_x_4a.out.cell (j := 11) rfl
    have cX_x12_4a := X_x_4a.out.cell (j := 12) rfl
    go_upto_region 10 with fail
    go_cut [8] (fun c W => Hid (Below (w4.alloc (.cells #[.int .i64 d.st, .int .i64 d.iss, .int .i64 d.una, .int .i64 d.rcv, .string d.wait, .int .i64 d.sent, .int .i64 d.fin, .bool d.pf, .string d.inn, .slice v4 d.late.length c4, .bool d.owe, .int .i64 d.due, .int .i64 d.times] 31)).heap.size (w4.alloc (.cells #[.int .i64 d.st, .int .i64 d.iss, .int .i64 d.una, .int .i64 d.rcv, .string d.wait, .int .i64 d.sent, .int .i64 d.fin, .bool d.pf, .string d.inn, .slice v4 d.late.length c4, .bool d.owe, .int .i64 d.due, .int .i64 d.times] 31)) W) ∧ ∃ (va : Option Addr) (vc b : Nat), c = .pointer (some ⟨b, 0, none⟩) ∧ Hid ((w4.alloc (.cells #[.int .i64 d.st, .int .i64 d.iss, .int .i64 d.una, .int .i64 d.rcv, .string d.wait, .int .i64 d.sent, .int .i64 d.fin, .bool d.pf, .string d.inn, .slice v4 d.late.length c4, .bool d.owe, .int .i64 d.due, .int .i64 d.times] 31)).heap.size ≤ b ∧ BlockIs W b 31 [.int .i64 D.st, .int .i64 D.iss, .int .i64 D.una, .int .i64 D.rcv, .string D.wait, .int .i64 D.sent, .int .i64 D.fin, .bool D.pf, .string D.inn, .slice va D.late.length vc, .bool D.owe, .int .i64 D.due, .int .i64 D.times] ∧ OwnAt W 61 (lateCells D.late) D.late.length va ((w4.alloc (.cells #[.int .i64 d.st, .int .i64 d.iss, .int .i64 d.una, .int .i64 d.rcv, .string d.wait, .int .i64 d.sent, .int .i64 d.fin, .bool d.pf, .string d.inn, .slice v4 d.late.length c4, .bool d.owe, .int .i64 d.due, .int .i64 d.times] 31)).heap.size) W.heap.size))
    case first =>
      refine wp_region_chain_b (N := 82) (by kernel_rfl) (by kernel_rfl) rfl (by kernel_rfl) [(7, .pointer (some ⟨w4.heap.size, 0, none⟩)), (3, .pointer (some ⟨w.heap.size + 1, 0, none⟩))] (by intro p hp; simp only [List.mem_cons, List.not_mem_nil, or_false] at hp; rcases hp with rfl | rfl <;> rfl) (fun W => Below (w4.alloc (.cells #[.int .i64 d.st, .int .i64 d.iss, .int .i64 d.una, .int .i64 d.rcv, .string d.wait, .int .i64 d.sent, .int .i64 d.fin, .bool d.pf, .string d.inn, .slice v4 d.late.length c4, .bool d.owe, .int .i64 d.due, .int .i64 d.times] 31)).heap.size (w4.alloc (.cells #[.int .i64 d.st, .int .i64 d.iss, .int .i64 d.una, .int .i64 d.rcv, .string d.wait, .int .i64 d.sent, .int .i64 d.fin, .bool d.pf, .string d.inn, .slice v4 d.late.length c4, .bool d.owe, .int .i64 d.due, .int .i64 d.times] 31)) W) (fun j v u W => match j with | 0 => v = .agg #[.int .i64 d.st, .int .i64 d.iss, .int .i64 d.una, .int .i64 d.rcv, .string d.wait, .int .i64 d.sent, .int .i64 d.fin, .bool d.pf, .string d.inn, .slice v4 d.late.length c4, .bool d.owe, .int .i64 d.due, .int .i64 d.times] | 1 => v = .agg #[.int .i64 s.num, .int .i64 s.ack, .int .i64 s.flags, .string s.body] | 2 => v = .agg #[.int .i64 s.num, .int .i64 s.ack, .int .i64 s.flags, .string s.body] | 3 => ∃ (va : Option Addr) (vc : Nat), v = .agg #[.int .i64 D.st, .int .i64 D.iss, .int .i64 D.una, .int .i64 D.rcv, .string D.wait, .int .i64 D.sent, .int .i64 D.fin, .bool D.pf, .string D.inn, .slice va D.late.length vc, .bool D.owe, .int .i64 D.due, .int .i64 D.times] ∧ OwnAt W 61 (lateCells D.late) D.late.length va ((w4.alloc (.cells #[.int .i64 d.st, .int .i64 d.iss, .int .i64 d.una, .int .i64 d.rcv, .string d.wait, .int .i64 d.sent, .int .i64 d.fin, .bool d.pf, .string d.inn, .slice v4 d.late.length c4, .bool d.owe, .int .i64 d.due, .int .i64 d.times] 31)).heap.size) W.heap.size | 4 => ∃ b : Nat, v = .pointer (some ⟨b, 0, none⟩) ∧ (w4.alloc (.cells #[.int .i64 d.st, .int .i64 d.iss, .int .i64 d.una, .int .i64 d.rcv, .string d.wait, .int .i64 d.sent, .int .i64 d.fin, .bool d.pf, .string d.inn, .slice v4 d.late.length c4, .bool d.owe, .int .i64 d.due, .int .i64 d.times] 31)).heap.size ≤ b ∧ BlockIs W b 31 [.int .i64 0, .int .i64 0, .int .i64 0, .int .i64 0, .string ⟨#[]⟩, .int .i64 0, .int .i64 0, .bool false, .string ⟨#[]⟩, .slice none 0 0, .bool false, .int .i64 0, .int .i64 0] | 5 => ∃ (va : Option Addr) (vc b : Nat), u = .pointer (some ⟨b, 0, none⟩) ∧ (w4.alloc (.cells #[.int .i64 d.st, .int .i64 d.iss, .int .i64 d.una, .int .i64 d.rcv, .string d.wait, .int .i64 d.sent, .int .i64 d.fin, .bool d.pf, .string d.inn, .slice v4 d.late.length c4, .bool d.owe, .int .i64 d.due, .int .i64 d.times] 31)).heap.size ≤ b ∧ BlockIs W b 31 [.int .i64 D.st, .int .i64 D.iss, .int .i64 D.una, .int .i64 D.rcv, .string D.wait, .int .i64 D.sent, .int .i64 D.fin, .bool D.pf, .string D.inn, .slice va D.late.length vc, .bool D.owe, .int .i64 D.due, .int .i64 D.times] ∧ OwnAt W 61 (lateCells D.late) D.late.length va ((w4.alloc (.cells #[.int .i64 d.st, .int .i64 d.iss, .int .i64 d.una, .int .i64 d.rcv, .string d.wait, .int .i64 d.sent, .int .i64 d.fin, .bool d.pf, .string d.inn, .slice v4 d.late.length c4, .bool d.owe, .int .i64 d.due, .int .i64 d.times] 31)).heap.size) W.heap.size | _ => True) (fun i => if i = 5 then 4 else i) (fun j i => decide ((j, i) ∈ ([(3, 5), (4, 5)] : List (Nat × Nat)))) (fun i X9 Y9 => i ≠ 5 → Below X9.heap.size X9 Y9) (fun q9 W => match q9 with | 0 => True | _ => True) (fun m k => decide ((m, k) ∈ ([] : List (Nat × Nat)))) ?_ (fun i => if i = 5 then 8 else 0) (by kernel_rfl) (fun i hi => by have : 6 ≤ i := hi; simp; omega) ?_ (below_drewN (Below.refl _ _) 1) (fun q9 => match q9 with | 0 => trivial | _ + 1 => trivial) ?_ ?_
      · intro i m x y hen hxy hm
        match m, hen, hm with
        | 0, hen, hm =>
          exact trivial
        | n + 1, _, _ => exact trivial
      · intro i j v u x y hsz hij hdd hwt hxy hg
        match j, hg with
        | 0, hg => exact hg
        | 1, hg => exact hg
        | 2, hg => exact hg
        | 3, hg =>
          obtain ⟨va, vc, e1, e2⟩ := hg
          have h9 := (hxy (fun e9 => by subst e9; simp at hdd))
          exact ⟨va, vc, e1, (e2.on h9).down (Nat.le_refl _) h9.size⟩
        | 4, hg =>
          obtain ⟨b, e1, e2, e3⟩ := hg
          exact ⟨b, e1, e2, e3.on (hxy (fun e9 => by subst e9; simp at hdd)) e3.lt⟩
        | 5, hg =>
          exact (not_all_after (by kernel_rfl) hsz hij hwt).elim
        | n + 6, _ => exact trivial
      · refine ⟨?_, ?_, ?_, ?_, ?_, ?_, trivial⟩
        · intro A W hC hI hg hb
          have h7 : A.eval (.tmp 7) = .pointer (some ⟨w4.heap.size, 0, none⟩) := hb 7 _ (.head _) (chain_of (by kernel_rfl))
          have hk := X_x_4a.out.on hC X_x_4a.out.lt
          exact does_value (v := .agg #[.int .i64 d.st, .int .i64 d.iss, .int .i64 d.una, .int .i64 d.rcv, .string d.wait, .int .i64 d.sent, .int .i64 d.fin, .bool d.pf, .string d.inn, .slice v4 d.late.length c4, .bool d.owe, .int .i64 d.due, .int .i64 d.times]) (w' := W) (by simp only [execOp, h7, load_str (cs := [.int .i64 d.st, .int .i64 d.iss, .int .i64 d.una, .int .i64 d.rcv, .string d.wait, .int .i64 d.sent, .int .i64 d.fin, .bool d.pf, .string d.inn, .slice v4 d.late.length c4, .bool d.owe, .int .i64 d.due, .int .i64 d.times]) (r := []) (by rw [List.append_nil]; exact hk) rfl, Sem.run_bind, Sem.run_pure, Result.andThen_ok]) ⟨rfl, hC, fun _ => Below.refl _ _⟩
        · intro A W hC hI hg hb
          have h3 : A.eval (.tmp 3) = .pointer (some ⟨w.heap.size + 1, 0, none⟩) := hb 3 _ (.tail _ (.head _)) (chain_of (by kernel_rfl))
          have hk := X_s_4a.out.on hC X_s_4a.out.lt
          have hc0 := hk.cell (j := 0) rfl
          have hc1 := hk.cell (j := 1) rfl
          have hc2 := hk.cell (j := 2) rfl
          have hc3 := hk.cell (j := 3) rfl
          exact does_value (v := .agg #[.int .i64 s.num, .int .i64 s.ack, .int .i64 s.flags, .string s.body]) (w' := W) (by simp only [execOp, h3]; simp [go_sem, hc0, hc1, hc2, hc3]) ⟨rfl, hC, fun _ => Below.refl _ _⟩
        · intro A W hC hI hg hb
          have h31 : A.eval (.tmp 31) = .agg #[.int .i64 s.num, .int .i64 s.ack, .int .i64 s.flags, .string s.body] := hg 1 31 (by decide) rfl (by simp [Op.operands, Call.operands]) (by kernel_rfl) (by kernel_rfl) rfl
          simp [go_sem] at h31
          refine does_enter (f := 9) (args := #[.agg #[.int .i64 s.num, .int .i64 s.ack, .int .i64 s.flags, .string s.body]]) (w' := W) (by simp [go_sem, h31]) ?_
          refine (toSeg_any s W).mono ?_
          rintro e9 W' ⟨rfl, hb⟩
          exact ⟨_, rfl, rfl, below_via hC hb, fun _ => hb⟩
        · intro A W hC hI hg hb
          have h30 : A.eval (.tmp 30) = .agg #[.int .i64 d.st, .int .i64 d.iss, .int .i64 d.una, .int .i64 d.rcv, .string d.wait, .int .i64 d.sent, .int .i64 d.fin, .bool d.pf, .string d.inn, .slice v4 d.late.length c4, .bool d.owe, .int .i64 d.due, .int .i64 d.times] := hg 0 30 (by decide) rfl (by simp [Op.operands, Call.operands]) (by kernel_rfl) (by kernel_rfl) rfl
          have h32 : A.eval (.tmp 32) = .agg #[.int .i64 s.num, .int .i64 s.ack, .int .i64 s.flags, .string s.body] := hg 2 32 (by decide) rfl (by simp [Op.operands, Call.operands]) (by kernel_rfl) (by kernel_rfl) rfl
          have hla := (Y4_4a.out.on hC).lates
          simp [go_sem] at h30 h32
          refine does_enter (f := 10) (args := #[.agg #[.int .i64 d.st, .int .i64 d.iss, .int .i64 d.una, .int .i64 d.rcv, .string d.wait, .int .i64 d.sent, .int .i64 d.fin, .bool d.pf, .string d.inn, .slice v4 d.late.length c4, .bool d.owe, .int .i64 d.due, .int .i64 d.times], .agg #[.int .i64 s.num, .int .i64 s.ack, .int .i64 s.flags, .string s.body]]) (w' := W) (by simp [go_sem, h30, h32]) ?_
          refine (CI0.out W _ _ hla).mono ?_
          rintro e9 W' ⟨va, vc, rfl, _, ho, hb⟩
          exact ⟨_, rfl, ⟨va, vc, rfl, ho.down hC.size (Nat.le_refl _)⟩, below_via hC hb, fun _ => hb⟩
        · intro A W hC hI hg hb
          have ba := below_more (Below.refl W.heap.size W) (.cells #[.int .i64 0, .int .i64 0, .int .i64 0, .int .i64 0, .string ⟨#[]⟩, .int .i64 0, .int .i64 0, .bool false, .string ⟨#[]⟩, .slice none 0 0, .bool false, .int .i64 0, .int .i64 0] 31)
          exact does_value (v := .pointer (some ⟨W.heap.size, 0, none⟩)) (w' := W.alloc (.cells #[.int .i64 0, .int .i64 0, .int .i64 0, .int .i64 0, .string ⟨#[]⟩, .int .i64 0, .int .i64 0, .bool false, .string ⟨#[]⟩, .slice none 0 0, .bool false, .int .i64 0, .int .i64 0] 31)) (by simp [execOp, go_sem]) ⟨⟨_, rfl, hC.size, heap_alloc_new W _⟩, below_via hC ba, fun _ => ba⟩
        · intro A W hC hI hg hb
          have g4 := hg 4 8 (by decide) rfl (by simp [Op.operands]) (by kernel_rfl) (by kernel_rfl) rfl
          have g3 := hg 3 33 (by decide) rfl (by simp [Op.operands]) (by kernel_rfl) (by kernel_rfl) rfl
          obtain ⟨va, vc, h33, hrow⟩ := g3
          obtain ⟨b, h8, hbN, hbk⟩ := g4
          have hst := store_str hbk rfl (A := #[.int .i64 D.st, .int .i64 D.iss, .int .i64 D.una, .int .i64 D.rcv, .string D.wait, .int .i64 D.sent, .int .i64 D.fin, .bool D.pf, .string D.inn, .slice va D.late.length vc, .bool D.owe, .int .i64 D.due, .int .i64 D.times]) rfl (strCells_all D _ _)
          exact does_skip (w' := W.setRow b #[.int .i64 D.st, .int .i64 D.iss, .int .i64 D.una, .int .i64 D.rcv, .string D.wait, .int .i64 D.sent, .int .i64 D.fin, .bool D.pf, .string D.inn, .slice va D.late.length vc, .bool D.owe, .int .i64 D.due, .int .i64 D.times]) (by simp only [execOp, h8, h33, hst, Sem.run_bind, Sem.run_pure, Result.andThen_ok]) ⟨⟨va, vc, b, h8, hbN, store_block hbk _, row_stored hrow hbk (by decide) _⟩, below_setRow hC hbN _, fun h => absurd rfl h⟩
      · intro vs wE hC _ hg
        obtain ⟨va, vc, b, h1, h2, h3, h4⟩ := hg 5 (by decide) (fun k => by simp)
        have h1b : vs 4 = .pointer (some ⟨b, 0, none⟩) := h1
        clear hg h1
        simp only [List.size_toArray, List.length_cons, List.length_nil, Nat.zero_add, Nat.reduceAdd]
        simp only [laidBy, if_true, dstAt, List.getElem?_toArray, List.getElem?_cons_succ, List.getElem?_cons_zero, Option.bind_some]
        simp only [Act.put, List.setIfInBounds_toArray, List.set_cons_succ, List.set_cons_zero]
        rw [h1b]
        go_wp2_with fail
        go_meet
        exact ⟨hC, va, vc, b, rfl, h2, h3, h4⟩
    case rest =>
      rename World => w5
      obtain ⟨HB5, v5, c5, bk5, rfl, HC5⟩ := hcut
      have bb := HB5.out
      have O5 := hid bb.size
      have OB5 := hid HC5.out.1
      have OC5 := hid HC5.out.2.1.lt
      have X_p_5 := hid (X_p_4a.out.on bb X_p_4a.out.lt)
      have B_5 := hid (below_via B_4a.out bb)
      have X_s_5 := hid (X_s_4a.out.on bb X_s_4a.out.lt)
      have R_w_5 := hid (R_w_4a.out.on bb)
      have X_w_5 := hid (X_w_4a.out.on bb X_w_4a.out.lt)
      have Y4_5 := hid (Y4_4a.out.on bb)
      have X_x_5 := hid (X_x_4a.out.on bb X_x_4a.out.lt)
      have R_g_5 := hid HC5.out.2.2
      have X_g_5 := hid HC5.out.2.1
      clear bb HB5 HC5 X_p_4a B_4a X_s_4a R_w_4a X_w_4a Y4_4a X_x_4a cX_p0_4a cX_p1_4a cX_p2_4a cX_p3_4a cX_p4_4a cX_p5_4a cX_p6_4a cX_p7_4a cX_p8_4a cX_p9_4a cX_p10_4a cX_p11_4a cX_p12_4a cX_s0_4a cX_s1_4a cX_s2_4a cX_s3_4a cX_w0_4a cX_w1_4a cX_w2_4a cX_w3_4a cX_w4_4a cX_w5_4a cX_w6_4a cX_w7_4a cX_w8_4a cX_w9_4a cX_w10_4a cX_w11_4a cX_w12_4a cX_x0_4a cX_x1_4a cX_x2_4a cX_x3_4a cX_x4_4a cX_x5_4a cX_x6_4a cX_x7_4a cX_x8_4a cX_x9_4a cX_x10_4a cX_x11_4a cX_x12_4a cX_p0_4 cX_p1_4 cX_p2_4 cX_p3_4 cX_p4_4 cX_p5_4 cX_p6_4 cX_p7_4 cX_p8_4 cX_p9_4 cX_p10_4 cX_p11_4 cX_p12_4 cX_s0_4 cX_s1_4 cX_s2_4 cX_s3_4 cX_w0_4 cX_w1_4 cX_w2_4 cX_w3_4 cX_w4_4 cX_w5_4 cX_w6_4 cX_w7_4 cX_w8_4 cX_w9_4 cX_w10_4 cX_w11_4 cX_w12_4
      have cX_p0_5 := X_p_5.out.cell (j := 0) rfl
      have cX_p1_5 := X_p_5.out.cell (j := 1) rfl
      have cX_p2_5 := X_p_5.out.cell (j := 2) rfl
      have cX_p3_5 := X_p_5.out.cell (j := 3) rfl
      have cX_p4_5 := X_p_5.out.cell (j := 4) rfl
      have cX_p5_5 := X_p_5.out.cell (j := 5) rfl
      have cX_p6_5 := X_p_5.out.cell (j := 6) rfl
      have cX_p7_5 := X_p_5.out.cell (j := 7) rfl
      have cX_p8_5 := X_p_5.out.cell (j := 8) rfl
      have cX_p9_5 := X_p_5.out.cell (j := 9) rfl
      have cX_p10_5 := X_p_5.out.cell (j := 10) rfl
      have cX_p11_5 := X_p_5.out.cell (j := 11) rfl
      have cX_p12_5 := X_p_5.out.cell (j := 12) rfl
      have cX_s0_5 := X_s_5.out.cell (j := 0) rfl
      have cX_s1_5 := X_s_5.out.cell (j := 1) rfl
      have cX_s2_5 := X_s_5.out.cell (j := 2) rfl
      have cX_s3_5 := X_s_5.out.cell (j := 3) rfl
      have cX_w0_5 := X_w_5.out.cell (j := 0) rfl
      have cX_w1_5 := X_w_5.out.cell (j := 1) rfl
      have cX_w2_5 := X_w_5.out.cell (j := 2) rfl
      have cX_w3_5 := X_w_5.out.cell (j := 3) rfl
      have cX_w4_5 := X_w_5.out.cell (j := 4) rfl
      have cX_w5_5 := X_w_5.out.cell (j := 5) rfl
      have cX_w6_5 := X_w_5.out.cell (j := 6) rfl
      have cX_w7_5 := X_w_5.out.cell (j := 7) rfl
      have cX_w8_5 := X_w_5.out.cell (j := 8) rfl
      have cX_w9_5 := X_w_5.out.cell (j := 9) rfl
      have cX_w10_5 := X_w_5.out.cell (j := 10) rfl
      have cX_w11_5 := X_w_5.out.cell (j := 11) rfl
      have cX_w12_5 := X_w_5.out.cell (j := 12) rfl
      have cX_x0_5 := X_x_5.out.cell (j := 0) rfl
      have cX_x1_5 := X_x_5.out.cell (j := 1) rfl
      have cX_x2_5 := X_x_5.out.cell (j := 2) rfl
      have cX_x3_5 := X_x_5.out.cell (j := 3) rfl
      have cX_x4_5 := X_x_5.out.cell (j := 4) rfl
      have cX_x5_5 := X_x_5.out.cell (j := 5) rfl
      have cX_x6_5 := X_x_5.out.cell (j := 6) rfl
      have cX_x7_5 := X_x_5.out.cell (j := 7) rfl
      have cX_x8_5 := X_x_5.out.cell (j := 8) rfl
      have cX_x9_5 := X_x_5.out.cell (j := 9) rfl
      have cX_x10_5 := X_x_5.out.cell (j := 10) rfl
      have cX_x11_5 := X_x_5.out.cell (j := 11) rfl
      have cX_x12_5 := X_x_5.out.cell (j := 12) rfl
      have cX_g0_5 := X_g_5.out.cell (j := 0) rfl
      have cX_g1_5 := X_g_5.out.cell (j := 1) rfl
      have cX_g2_5 := X_g_5.out.cell (j := 2) rfl
      have cX_g3_5 := X_g_5.out.cell (j := 3) rfl
      have cX_g4_5 := X_g_5.out.cell (j := 4) rfl
      have cX_g5_5 := X_g_5.out.cell (j := 5) rfl
      have cX_g6_5 := X_g_5.out.cell (j := 6) rfl
      have cX_g7_5 := X_g_5.out.cell (j := 7) rfl
      have cX_g8_5 := X_g_5.out.cell (j := 8) rfl
      have cX_g9_5 := X_g_5.out.cell (j := 9) rfl
      have cX_g10_5 := X_g_5.out.cell (j := 10) rfl
      have cX_g11_5 := X_g_5.out.cell (j := 11) rfl
      have cX_g12_5 := X_g_5.out.cell (j := 12) rfl
      go_wp2_with fail
      refine Calls.mono (eqStream_same D v5 v3 c5 c3 (by omega) _ R_g_5.out.lates R_w_5.out.lates) ?_
      rintro e w6 ⟨rfl, b6⟩
      have O6 := hid b6.size
      have X_p_6 := hid (X_p_5.out.on b6 X_p_5.out.lt)
      have B_6 := hid (below_via B_5.out b6)
      have X_s_6 := hid (X_s_5.out.on b6 X_s_5.out.lt)
      have R_w_6 := hid (R_w_5.out.on b6)
      have X_w_6 := hid (X_w_5.out.on b6 X_w_5.out.lt)
      have Y4_6 := hid (Y4_5.out.on b6)
      have X_x_6 := hid (X_x_5.out.on b6 X_x_5.out.lt)
      have R_g_6 := hid (R_g_5.out.on b6)
      have X_g_6 := hid (X_g_5.out.on b6 X_g_5.out.lt)
      clear b6 X_p_5 B_5 X_s_5 R_w_5 X_w_5 Y4_5 X_x_5 R_g_5 X_g_5 cX_p0_5 cX_p1_5 cX_p2_5 cX_p3_5 cX_p4_5 cX_p5_5 cX_p6_5 cX_p7_5 cX_p8_5 cX_p9_5 cX_p10_5 cX_p11_5 cX_p12_5 cX_s0_5 cX_s1_5 cX_s2_5 cX_s3_5 cX_w0_5 cX_w1_5 cX_w2_5 cX_w3_5 cX_w4_5 cX_w5_5 cX_w6_5 cX_w7_5 cX_w8_5 cX_w9_5 cX_w10_5 cX_w11_5 cX_w12_5 cX_x0_5 cX_x1_5 cX_x2_5 cX_x3_5 cX_x4_5 cX_x5_5 cX_x6_5 cX_x7_5 cX_x8_5 cX_x9_5 cX_x10_5 cX_x11_5 cX_x12_5 cX_g0_5 cX_g1_5 cX_g2_5 cX_g3_5 cX_g4_5 cX_g5_5 cX_g6_5 cX_g7_5 cX_g8_5 cX_g9_5 cX_g10_5 cX_g11_5 cX_g12_5
      have cX_p0_6 := X_p_6.out.cell (j := 0) rfl
      have cX_p1_6 := X_p_6.out.cell (j := 1) rfl
      have cX_p2_6 := X_p_6.out.cell (j := 2) rfl
      have cX_p3_6 := X_p_6.out.cell (j := 3) rfl
      have cX_p4_6 := X_p_6.out.cell (j := 4) rfl
      have cX_p5_6 := X_p_6.out.cell (j := 5) rfl
      have cX_p6_6 := X_p_6.out.cell (j := 6) rfl
      have cX_p7_6 := X_p_6.out.cell (j := 7) rfl
      have cX_p8_6 := X_p_6.out.cell (j := 8) rfl
      have cX_p9_6 := X_p_6.out.cell (j := 9) rfl
      have cX_p10_6 := X_p_6.out.cell (j := 10) rfl
      have cX_p11_6 := X_p_6.out.cell (j := 11) rfl
      have cX_p12_6 := X_p_6.out.cell (j := 12) rfl
      have cX_s0_6 := X_s_6.out.cell (j := 0) rfl
      have cX_s1_6 := X_s_6.out.cell (j := 1) rfl
      have cX_s2_6 := X_s_6.out.cell (j := 2) rfl
      have cX_s3_6 := X_s_6.out.cell (j := 3) rfl
      have cX_w0_6 := X_w_6.out.cell (j := 0) rfl
      have cX_w1_6 := X_w_6.out.cell (j := 1) rfl
      have cX_w2_6 := X_w_6.out.cell (j := 2) rfl
      have cX_w3_6 := X_w_6.out.cell (j := 3) rfl
      have cX_w4_6 := X_w_6.out.cell (j := 4) rfl
      have cX_w5_6 := X_w_6.out.cell (j := 5) rfl
      have cX_w6_6 := X_w_6.out.cell (j := 6) rfl
      have cX_w7_6 := X_w_6.out.cell (j := 7) rfl
      have cX_w8_6 := X_w_6.out.cell (j := 8) rfl
      have cX_w9_6 := X_w_6.out.cell (j := 9) rfl
      have cX_w10_6 := X_w_6.out.cell (j := 10) rfl
      have cX_w11_6 := X_w_6.out.cell (j := 11) rfl
      have cX_w12_6 := X_w_6.out.cell (j := 12) rfl
      have cX_x0_6 := X_x_6.out.cell (j := 0) rfl
      have cX_x1_6 := X_x_6.out.cell (j := 1) rfl
      have cX_x2_6 := X_x_6.out.cell (j := 2) rfl
      have cX_x3_6 := X_x_6.out.cell (j := 3) rfl
      have cX_x4_6 := X_x_6.out.cell (j := 4) rfl
      have cX_x5_6 := X_x_6.out.cell (j := 5) rfl
      have cX_x6_6 := X_x_6.out.cell (j := 6) rfl
      have cX_x7_6 := X_x_6.out.cell (j := 7) rfl
      have cX_x8_6 := X_x_6.out.cell (j := 8) rfl
      have cX_x9_6 := X_x_6.out.cell (j := 9) rfl
      have cX_x10_6 := X_x_6.out.cell (j := 10) rfl
      have cX_x11_6 := X_x_6.out.cell (j := 11) rfl
      have cX_x12_6 := X_x_6.out.cell (j := 12) rfl
      have cX_g0_6 := X_g_6.out.cell (j := 0) rfl
      have cX_g1_6 := X_g_6.out.cell (j := 1) rfl
      have cX_g2_6 := X_g_6.out.cell (j := 2) rfl
      have cX_g3_6 := X_g_6.out.cell (j := 3) rfl
      have cX_g4_6 := X_g_6.out.cell (j := 4) rfl
      have cX_g5_6 := X_g_6.out.cell (j := 5) rfl
      have cX_g6_6 := X_g_6.out.cell (j := 6) rfl
      have cX_g7_6 := X_g_6.out.cell (j := 7) rfl
      have cX_g8_6 := X_g_6.out.cell (j := 8) rfl
      have cX_g9_6 := X_g_6.out.cell (j := 9) rfl
      have cX_g10_6 := X_g_6.out.cell (j := 10) rfl
      have cX_g11_6 := X_g_6.out.cell (j := 11) rfl
      have cX_g12_6 := X_g_6.out.cell (j := 12) rfl
      have CT : Hid (Calls Try.prog 8 #[.agg #[.int .i64 d.st, .int .i64 d.iss, .int .i64 d.una, .int .i64 d.rcv, .string d.wait, .int .i64 d.sent, .int .i64 d.fin, .bool d.pf, .string d.inn, .slice ao d.late.length cap, .bool d.owe, .int .i64 d.due, .int .i64 d.times]] w6.drew fun e w7 => ∃ v7 c7, e = .returned (.agg #[.int .i64 d.st, .int .i64 d.iss, .int .i64 d.una, .int .i64 d.rcv, .string d.wait, .int .i64 d.sent, .int .i64 d.fin, .bool d.pf, .string d.inn, .slice v7 d.late.length c7, .bool d.owe, .int .i64 d.due, .int .i64 d.times]) ∧ (w7.cell? ⟨w4.heap.size, 0, none⟩ = some (.int .i64 d.st) ∧ w7.cell? ⟨w4.heap.size, 1, none⟩ = some (.int .i64 d.iss) ∧ w7.cell? ⟨w4.heap.size, 2, none⟩ = some (.int .i64 d.una) ∧ w7.cell? ⟨w4.heap.size, 3, none⟩ = some (.int .i64 d.rcv) ∧ w7.cell? ⟨w4.heap.size, 4, none⟩ = some (.string d.wait) ∧ w7.cell? ⟨w4.heap.size, 5, none⟩ = some (.int .i64 d.sent) ∧ w7.cell? ⟨w4.heap.size, 6, none⟩ = some (.int .i64 d.fin) ∧ w7.cell? ⟨w4.heap.size, 7, none⟩ = some (.bool d.pf) ∧ w7.cell? ⟨w4.heap.size, 8, none⟩ = some (.string d.inn) ∧ w7.cell? ⟨w4.heap.size, 9, none⟩ = some (.slice v4 d.late.length c4) ∧ w7.cell? ⟨w4.heap.size, 10, none⟩ = some (.bool d.owe) ∧ w7.cell? ⟨w4.heap.size, 11, none⟩ = some (.int .i64 d.due) ∧ w7.cell? ⟨w4.heap.size, 12, none⟩ = some (.int .i64 d.times)) ∧ Hid (Below w6.heap.size w6 w7 ∧ LatesAt w7 v7 d.late)) := by
        have hd : Below w6.heap.size w6 w6.drew := below_drewN (Below.refl _ _) 1
        refine Calls.mono (toStream_o d ao cap hl2 w6.drew (HA.out.on (below_via B_6.out hd))) ?_
        rintro e w7 ⟨v7, c7, rfl, _, h7, b7⟩
        have h67 := below_via hd b7
        have k67 := X_x_6.out.on h67 X_x_6.out.lt
        exact ⟨v7, c7, rfl, ⟨k67.cell (j := 0) rfl, k67.cell (j := 1) rfl, k67.cell (j := 2) rfl, k67.cell (j := 3) rfl, k67.cell (j := 4) rfl, k67.cell (j := 5) rfl, k67.cell (j := 6) rfl, k67.cell (j := 7) rfl, k67.cell (j := 8) rfl, k67.cell (j := 9) rfl, k67.cell (j := 10) rfl, k67.cell (j := 11) rfl, k67.cell (j := 12) rfl⟩, h67, h7.lates⟩
      go_upto_region 13 with fail
      go_cut [42] (fun c wx => c = .bool false ∧ Hid (Below w6.heap.size w6 wx))
      case first =>
        go_region_with (first | (go_at_call 8; refine Calls.mono CT.out ?_; rintro e w7 ⟨v7, c7, rfl, ⟨y0, y1, y2, y3, y4, y5, y6, y7, y8, y9, y10, y11, y12⟩, H7⟩) | (go_at_call 11; refine (eqStream_same d _ _ _ _ (by omega) _ ((Y4_6.out.on H7.out.1).lates) H7.out.2).mono ?_; rintro e w8 ⟨rfl, b8⟩))
        all_goals
          go_wp2_with fail
          go_meet
          exact ⟨rfl, below_via H7.out.1 b8⟩
      case rest =>
        rename World => w8
        obtain ⟨rfl, HC⟩ := hcut
        have bb := HC.out
        have O8 := hid bb.size
        have X_p_8 := hid (X_p_6.out.on bb X_p_6.out.lt)
        have B_8 := hid (below_via B_6.out bb)
        have X_s_8 := hid (X_s_6.out.on bb X_s_6.out.lt)
        have R_w_8 := hid (R_w_6.out.on bb)
        have X_w_8 := hid (X_w_6.out.on bb X_w_6.out.lt)
        have Y4_8 := hid (Y4_6.out.on bb)
        have X_x_8 := hid (X_x_6.out.on bb X_x_6.out.lt)
        have R_g_8 := hid (R_g_6.out.on bb)
        have X_g_8 := hid (X_g_6.out.on bb X_g_6.out.lt)
        clear bb HC CT X_p_6 B_6 X_s_6 R_w_6 X_w_6 Y4_6 X_x_6 R_g_6 X_g_6 cX_p0_6 cX_p1_6 cX_p2_6 cX_p3_6 cX_p4_6 cX_p5_6 cX_p6_6 cX_p7_6 cX_p8_6 cX_p9_6 cX_p10_6 cX_p11_6 cX_p12_6 cX_s0_6 cX_s1_6 cX_s2_6 cX_s3_6 cX_w0_6 cX_w1_6 cX_w2_6 cX_w3_6 cX_w4_6 cX_w5_6 cX_w6_6 cX_w7_6 cX_w8_6 cX_w9_6 cX_w10_6 cX_w11_6 cX_w12_6 cX_x0_6 cX_x1_6 cX_x2_6 cX_x3_6 cX_x4_6 cX_x5_6 cX_x6_6 cX_x7_6 cX_x8_6 cX_x9_6 cX_x10_6 cX_x11_6 cX_x12_6 cX_g0_6 cX_g1_6 cX_g2_6 cX_g3_6 cX_g4_6 cX_g5_6 cX_g6_6 cX_g7_6 cX_g8_6 cX_g9_6 cX_g10_6 cX_g11_6 cX_g12_6
        have cX_p0_8 := X_p_8.out.cell (j := 0) rfl
        have cX_p1_8 := X_p_8.out.cell (j := 1) rfl
        have cX_p2_8 := X_p_8.out.cell (j := 2) rfl
        have cX_p3_8 := X_p_8.out.cell (j := 3) rfl
        have cX_p4_8 := X_p_8.out.cell (j := 4) rfl
        have cX_p5_8 := X_p_8.out.cell (j := 5) rfl
        have cX_p6_8 := X_p_8.out.cell (j := 6) rfl
        have cX_p7_8 := X_p_8.out.cell (j := 7) rfl
        have cX_p8_8 := X_p_8.out.cell (j := 8) rfl
        have cX_p9_8 := X_p_8.out.cell (j := 9) rfl
        have cX_p10_8 := X_p_8.out.cell (j := 10) rfl
        have cX_p11_8 := X_p_8.out.cell (j := 11) rfl
        have cX_p12_8 := X_p_8.out.cell (j := 12) rfl
        have cX_s0_8 := X_s_8.out.cell (j := 0) rfl
        have cX_s1_8 := X_s_8.out.cell (j := 1) rfl
        have cX_s2_8 := X_s_8.out.cell (j := 2) rfl
        have cX_s3_8 := X_s_8.out.cell (j := 3) rfl
        have cX_w0_8 := X_w_8.out.cell (j := 0) rfl
        have cX_w1_8 := X_w_8.out.cell (j := 1) rfl
        have cX_w2_8 := X_w_8.out.cell (j := 2) rfl
        have cX_w3_8 := X_w_8.out.cell (j := 3) rfl
        have cX_w4_8 := X_w_8.out.cell (j := 4) rfl
        have cX_w5_8 := X_w_8.out.cell (j := 5) rfl
        have cX_w6_8 := X_w_8.out.cell (j := 6) rfl
        have cX_w7_8 := X_w_8.out.cell (j := 7) rfl
        have cX_w8_8 := X_w_8.out.cell (j := 8) rfl
        have cX_w9_8 := X_w_8.out.cell (j := 9) rfl
        have cX_w10_8 := X_w_8.out.cell (j := 10) rfl
        have cX_w11_8 := X_w_8.out.cell (j := 11) rfl
        have cX_w12_8 := X_w_8.out.cell (j := 12) rfl
        have cX_x0_8 := X_x_8.out.cell (j := 0) rfl
        have cX_x1_8 := X_x_8.out.cell (j := 1) rfl
        have cX_x2_8 := X_x_8.out.cell (j := 2) rfl
        have cX_x3_8 := X_x_8.out.cell (j := 3) rfl
        have cX_x4_8 := X_x_8.out.cell (j := 4) rfl
        have cX_x5_8 := X_x_8.out.cell (j := 5) rfl
        have cX_x6_8 := X_x_8.out.cell (j := 6) rfl
        have cX_x7_8 := X_x_8.out.cell (j := 7) rfl
        have cX_x8_8 := X_x_8.out.cell (j := 8) rfl
        have cX_x9_8 := X_x_8.out.cell (j := 9) rfl
        have cX_x10_8 := X_x_8.out.cell (j := 10) rfl
        have cX_x11_8 := X_x_8.out.cell (j := 11) rfl
        have cX_x12_8 := X_x_8.out.cell (j := 12) rfl
        have cX_g0_8 := X_g_8.out.cell (j := 0) rfl
        have cX_g1_8 := X_g_8.out.cell (j := 1) rfl
        have cX_g2_8 := X_g_8.out.cell (j := 2) rfl
        have cX_g3_8 := X_g_8.out.cell (j := 3) rfl
        have cX_g4_8 := X_g_8.out.cell (j := 4) rfl
        have cX_g5_8 := X_g_8.out.cell (j := 5) rfl
        have cX_g6_8 := X_g_8.out.cell (j := 6) rfl
        have cX_g7_8 := X_g_8.out.cell (j := 7) rfl
        have cX_g8_8 := X_g_8.out.cell (j := 8) rfl
        have cX_g9_8 := X_g_8.out.cell (j := 9) rfl
        have cX_g10_8 := X_g_8.out.cell (j := 10) rfl
        have cX_g11_8 := X_g_8.out.cell (j := 11) rfl
        have cX_g12_8 := X_g_8.out.cell (j := 12) rfl
        go_wp2_with fail
        refine (markStream_h d 1 v4 c4 d.late (w3.heap.size) (w4.heap.size) (by omega) (by omega) _ (by have := O0.out; have := O0a.out; have := O1.out; have := O2.out; have := O3.out; have := OB3.out; have := OC3.out; have := O4.out; have := O4a.out; have := O5.out; have := OB5.out; have := OC5.out; have := O6.out; have := O8.out; omega) Y4_8.out).mono ?_
        rintro e w9 ⟨rfl, hm9, kp, b9⟩
        have O9 := hid b9.size
        have X_p_9 := hid (keptO_block X_p_8.out kp (by decide))
        have B_9 := hid (B_8.out.trans (b9.mono (by have := O0.out; have := O0a.out; have := O1.out; have := O2.out; have := O3.out; have := OB3.out; have := OC3.out; have := O4.out; have := O4a.out; have := O5.out; have := OB5.out; have := OC5.out; have := O6.out; have := O8.out; have := O9.out; omega)))
        have X_s_9 := hid (keptO_block X_s_8.out kp (by decide))
        have R_w_9 := hid (keptO_row R_w_8.out kp (by have := O0.out; have := O0a.out; have := O1.out; have := O2.out; have := O3.out; have := OB3.out; have := OC3.out; have := O4.out; have := O4a.out; have := O5.out; have := OB5.out; have := OC5.out; have := O6.out; have := O8.out; have := O9.out; first | exact Or.inl (by omega) | exact Or.inr (Or.inl (by omega))))
        have X_w_9 := hid (keptO_block X_w_8.out kp (by decide))
        have X_x_9 := hid (keptO_block X_x_8.out kp (by decide))
        have R_g_9 := hid (keptO_row R_g_8.out kp (by have := O0.out; have := O0a.out; have := O1.out; have := O2.out; have := O3.out; have := OB3.out; have := OC3.out; have := O4.out; have := O4a.out; have := O5.out; have := OB5.out; have := OC5.out; have := O6.out; have := O8.out; have := O9.out; first | exact Or.inl (by omega) | exact Or.inr (Or.inl (by omega))))
        have X_g_9 := hid (keptO_block X_g_8.out kp (by decide))
        clear kp b9 Y4_8 X_p_8 B_8 X_s_8 R_w_8 X_w_8 X_x_8 R_g_8 X_g_8 cX_p0_8 cX_p1_8 cX_p2_8 cX_p3_8 cX_p4_8 cX_p5_8 cX_p6_8 cX_p7_8 cX_p8_8 cX_p9_8 cX_p10_8 cX_p11_8 cX_p12_8 cX_s0_8 cX_s1_8 cX_s2_8 cX_s3_8 cX_w0_8 cX_w1_8 cX_w2_8 cX_w3_8 cX_w4_8 cX_w5_8 cX_w6_8 cX_w7_8 cX_w8_8 cX_w9_8 cX_w10_8 cX_w11_8 cX_w12_8 cX_x0_8 cX_x1_8 cX_x2_8 cX_x3_8 cX_x4_8 cX_x5_8 cX_x6_8 cX_x7_8 cX_x8_8 cX_x9_8 cX_x10_8 cX_x11_8 cX_x12_8 cX_g0_8 cX_g1_8 cX_g2_8 cX_g3_8 cX_g4_8 cX_g5_8 cX_g6_8 cX_g7_8 cX_g8_8 cX_g9_8 cX_g10_8 cX_g11_8 cX_g12_8
        have cX_p0_9 := X_p_9.out.cell (j := 0) rfl
        have cX_p1_9 := X_p_9.out.cell (j := 1) rfl
        have cX_p2_9 := X_p_9.out.cell (j := 2) rfl
        have cX_p3_9 := X_p_9.out.cell (j := 3) rfl
        have cX_p4_9 := X_p_9.out.cell (j := 4) rfl
        have cX_p5_9 := X_p_9.out.cell (j := 5) rfl
        have cX_p6_9 := X_p_9.out.cell (j := 6) rfl
        have cX_p7_9 := X_p_9.out.cell (j := 7) rfl
        have cX_p8_9 := X_p_9.out.cell (j := 8) rfl
        have cX_p9_9 := X_p_9.out.cell (j := 9) rfl
        have cX_p10_9 := X_p_9.out.cell (j := 10) rfl
        have cX_p11_9 := X_p_9.out.cell (j := 11) rfl
        have cX_p12_9 := X_p_9.out.cell (j := 12) rfl
        have cX_s0_9 := X_s_9.out.cell (j := 0) rfl
        have cX_s1_9 := X_s_9.out.cell (j := 1) rfl
        have cX_s2_9 := X_s_9.out.cell (j := 2) rfl
        have cX_s3_9 := X_s_9.out.cell (j := 3) rfl
        have cX_w0_9 := X_w_9.out.cell (j := 0) rfl
        have cX_w1_9 := X_w_9.out.cell (j := 1) rfl
        have cX_w2_9 := X_w_9.out.cell (j := 2) rfl
        have cX_w3_9 := X_w_9.out.cell (j := 3) rfl
        have cX_w4_9 := X_w_9.out.cell (j := 4) rfl
        have cX_w5_9 := X_w_9.out.cell (j := 5) rfl
        have cX_w6_9 := X_w_9.out.cell (j := 6) rfl
        have cX_w7_9 := X_w_9.out.cell (j := 7) rfl
        have cX_w8_9 := X_w_9.out.cell (j := 8) rfl
        have cX_w9_9 := X_w_9.out.cell (j := 9) rfl
        have cX_w10_9 := X_w_9.out.cell (j := 10) rfl
        have cX_w11_9 := X_w_9.out.cell (j := 11) rfl
        have cX_w12_9 := X_w_9.out.cell (j := 12) rfl
        have cX_x0_9 := X_x_9.out.cell (j := 0) rfl
        have cX_x1_9 := X_x_9.out.cell (j := 1) rfl
        have cX_x2_9 := X_x_9.out.cell (j := 2) rfl
        have cX_x3_9 := X_x_9.out.cell (j := 3) rfl
        have cX_x4_9 := X_x_9.out.cell (j := 4) rfl
        have cX_x5_9 := X_x_9.out.cell (j := 5) rfl
        have cX_x6_9 := X_x_9.out.cell (j := 6) rfl
        have cX_x7_9 := X_x_9.out.cell (j := 7) rfl
        have cX_x8_9 := X_x_9.out.cell (j := 8) rfl
        have cX_x9_9 := X_x_9.out.cell (j := 9) rfl
        have cX_x10_9 := X_x_9.out.cell (j := 10) rfl
        have cX_x11_9 := X_x_9.out.cell (j := 11) rfl
        have cX_x12_9 := X_x_9.out.cell (j := 12) rfl
        have cX_g0_9 := X_g_9.out.cell (j := 0) rfl
        have cX_g1_9 := X_g_9.out.cell (j := 1) rfl
        have cX_g2_9 := X_g_9.out.cell (j := 2) rfl
        have cX_g3_9 := X_g_9.out.cell (j := 3) rfl
        have cX_g4_9 := X_g_9.out.cell (j := 4) rfl
        have cX_g5_9 := X_g_9.out.cell (j := 5) rfl
        have cX_g6_9 := X_g_9.out.cell (j := 6) rfl
        have cX_g7_9 := X_g_9.out.cell (j := 7) rfl
        have cX_g8_9 := X_g_9.out.cell (j := 8) rfl
        have cX_g9_9 := X_g_9.out.cell (j := 9) rfl
        have cX_g10_9 := X_g_9.out.cell (j := 10) rfl
        have cX_g11_9 := X_g_9.out.cell (j := 11) rfl
        have cX_g12_9 := X_g_9.out.cell (j := 12) rfl
        clear hm9
        go_wp2_with fail
        refine Calls.mono (eqStream_same D v5 v3 c5 c3 (by omega) _ R_g_9.out.lates R_w_9.out.lates) ?_
        rintro e w10 ⟨rfl, b10⟩
        have O10 := hid b10.size
        have X_p_10 := hid (X_p_9.out.on b10 X_p_9.out.lt)
        have B_10 := hid (below_via B_9.out b10)
        have X_s_10 := hid (X_s_9.out.on b10 X_s_9.out.lt)
        have R_w_10 := hid (R_w_9.out.on b10)
        have X_w_10 := hid (X_w_9.out.on b10 X_w_9.out.lt)
        have X_x_10 := hid (X_x_9.out.on b10 X_x_9.out.lt)
        have R_g_10 := hid (R_g_9.out.on b10)
        have X_g_10 := hid (X_g_9.out.on b10 X_g_9.out.lt)
        clear b10 X_p_9 B_9 X_s_9 R_w_9 X_w_9 X_x_9 R_g_9 X_g_9 cX_p0_9 cX_p1_9 cX_p2_9 cX_p3_9 cX_p4_9 cX_p5_9 cX_p6_9 cX_p7_9 cX_p8_9 cX_p9_9 cX_p10_9 cX_p11_9 cX_p12_9 cX_s0_9 cX_s1_9 cX_s2_9 cX_s3_9 cX_w0_9 cX_w1_9 cX_w2_9 cX_w3_9 cX_w4_9 cX_w5_9 cX_w6_9 cX_w7_9 cX_w8_9 cX_w9_9 cX_w10_9 cX_w11_9 cX_w12_9 cX_x0_9 cX_x1_9 cX_x2_9 cX_x3_9 cX_x4_9 cX_x5_9 cX_x6_9 cX_x7_9 cX_x8_9 cX_x9_9 cX_x10_9 cX_x11_9 cX_x12_9 cX_g0_9 cX_g1_9 cX_g2_9 cX_g3_9 cX_g4_9 cX_g5_9 cX_g6_9 cX_g7_9 cX_g8_9 cX_g9_9 cX_g10_9 cX_g11_9 cX_g12_9
        have cX_p0_10 := X_p_10.out.cell (j := 0) rfl
        have cX_p1_10 := X_p_10.out.cell (j := 1) rfl
        have cX_p2_10 := X_p_10.out.cell (j := 2) rfl
        have cX_p3_10 := X_p_10.out.cell (j := 3) rfl
        have cX_p4_10 := X_p_10.out.cell (j := 4) rfl
        have cX_p5_10 := X_p_10.out.cell (j := 5) rfl
        have cX_p6_10 := X_p_10.out.cell (j := 6) rfl
        have cX_p7_10 := X_p_10.out.cell (j := 7) rfl
        have cX_p8_10 := X_p_10.out.cell (j := 8) rfl
        have cX_p9_10 := X_p_10.out.cell (j := 9) rfl
        have cX_p10_10 := X_p_10.out.cell (j := 10) rfl
        have cX_p11_10 := X_p_10.out.cell (j := 11) rfl
        have cX_p12_10 := X_p_10.out.cell (j := 12) rfl
        have cX_s0_10 := X_s_10.out.cell (j := 0) rfl
        have cX_s1_10 := X_s_10.out.cell (j := 1) rfl
        have cX_s2_10 := X_s_10.out.cell (j := 2) rfl
        have cX_s3_10 := X_s_10.out.cell (j := 3) rfl
        have cX_w0_10 := X_w_10.out.cell (j := 0) rfl
        have cX_w1_10 := X_w_10.out.cell (j := 1) rfl
        have cX_w2_10 := X_w_10.out.cell (j := 2) rfl
        have cX_w3_10 := X_w_10.out.cell (j := 3) rfl
        have cX_w4_10 := X_w_10.out.cell (j := 4) rfl
        have cX_w5_10 := X_w_10.out.cell (j := 5) rfl
        have cX_w6_10 := X_w_10.out.cell (j := 6) rfl
        have cX_w7_10 := X_w_10.out.cell (j := 7) rfl
        have cX_w8_10 := X_w_10.out.cell (j := 8) rfl
        have cX_w9_10 := X_w_10.out.cell (j := 9) rfl
        have cX_w10_10 := X_w_10.out.cell (j := 10) rfl
        have cX_w11_10 := X_w_10.out.cell (j := 11) rfl
        have cX_w12_10 := X_w_10.out.cell (j := 12) rfl
        have cX_x0_10 := X_x_10.out.cell (j := 0) rfl
        have cX_x1_10 := X_x_10.out.cell (j := 1) rfl
        have cX_x2_10 := X_x_10.out.cell (j := 2) rfl
        have cX_x3_10 := X_x_10.out.cell (j := 3) rfl
        have cX_x4_10 := X_x_10.out.cell (j := 4) rfl
        have cX_x5_10 := X_x_10.out.cell (j := 5) rfl
        have cX_x6_10 := X_x_10.out.cell (j := 6) rfl
        have cX_x7_10 := X_x_10.out.cell (j := 7) rfl
        have cX_x8_10 := X_x_10.out.cell (j := 8) rfl
        have cX_x9_10 := X_x_10.out.cell (j := 9) rfl
        have cX_x10_10 := X_x_10.out.cell (j := 10) rfl
        have cX_x11_10 := X_x_10.out.cell (j := 11) rfl
        have cX_x12_10 := X_x_10.out.cell (j := 12) rfl
        have cX_g0_10 := X_g_10.out.cell (j := 0) rfl
        have cX_g1_10 := X_g_10.out.cell (j := 1) rfl
        have cX_g2_10 := X_g_10.out.cell (j := 2) rfl
        have cX_g3_10 := X_g_10.out.cell (j := 3) rfl
        have cX_g4_10 := X_g_10.out.cell (j := 4) rfl
        have cX_g5_10 := X_g_10.out.cell (j := 5) rfl
        have cX_g6_10 := X_g_10.out.cell (j := 6) rfl
        have cX_g7_10 := X_g_10.out.cell (j := 7) rfl
        have cX_g8_10 := X_g_10.out.cell (j := 8) rfl
        have cX_g9_10 := X_g_10.out.cell (j := 9) rfl
        have cX_g10_10 := X_g_10.out.cell (j := 10) rfl
        have cX_g11_10 := X_g_10.out.cell (j := 11) rfl
        have cX_g12_10 := X_g_10.out.cell (j := 12) rfl
        go_wp2_with fail
        refine (markStream_h D 1 v5 c5 D.late ((w4.alloc (.cells #[.int .i64 d.st, .int .i64 d.iss, .int .i64 d.una, .int .i64 d.rcv, .string d.wait, .int .i64 d.sent, .int .i64 d.fin, .bool d.pf, .string d.inn, .slice v4 d.late.length c4, .bool d.owe, .int .i64 d.due, .int .i64 d.times] 31)).heap.size) (w5.heap.size) (by omega) (by omega) _ (by have := O0.out; have := O0a.out; have := O1.out; have := O2.out; have := O3.out; have := OB3.out; have := OC3.out; have := O4.out; have := O4a.out; have := O5.out; have := OB5.out; have := OC5.out; have := O6.out; have := O8.out; have := O9.out; have := O10.out; omega) R_g_10.out).mono ?_
        rintro e w11 ⟨rfl, hm11, kp, b11⟩
        have O11 := hid b11.size
        have X_p_11 := hid (keptO_block X_p_10.out kp (by decide))
        have B_11 := hid (B_10.out.trans (b11.mono (by have := O0.out; have := O0a.out; have := O1.out; have := O2.out; have := O3.out; have := OB3.out; have := OC3.out; have := O4.out; have := O4a.out; have := O5.out; have := OB5.out; have := OC5.out; have := O6.out; have := O8.out; have := O9.out; have := O10.out; have := O11.out; omega)))
        have X_s_11 := hid (keptO_block X_s_10.out kp (by decide))
        have R_w_11 := hid (keptO_row R_w_10.out kp (by have := O0.out; have := O0a.out; have := O1.out; have := O2.out; have := O3.out; have := OB3.out; have := OC3.out; have := O4.out; have := O4a.out; have := O5.out; have := OB5.out; have := OC5.out; have := O6.out; have := O8.out; have := O9.out; have := O10.out; have := O11.out; first | exact Or.inl (by omega) | exact Or.inr (Or.inl (by omega))))
        have X_w_11 := hid (keptO_block X_w_10.out kp (by decide))
        have X_x_11 := hid (keptO_block X_x_10.out kp (by decide))
        have X_g_11 := hid (keptO_block X_g_10.out kp (by decide))
        clear kp b11 R_g_10 X_p_10 B_10 X_s_10 R_w_10 X_w_10 X_x_10 X_g_10 cX_p0_10 cX_p1_10 cX_p2_10 cX_p3_10 cX_p4_10 cX_p5_10 cX_p6_10 cX_p7_10 cX_p8_10 cX_p9_10 cX_p10_10 cX_p11_10 cX_p12_10 cX_s0_10 cX_s1_10 cX_s2_10 cX_s3_10 cX_w0_10 cX_w1_10 cX_w2_10 cX_w3_10 cX_w4_10 cX_w5_10 cX_w6_10 cX_w7_10 cX_w8_10 cX_w9_10 cX_w10_10 cX_w11_10 cX_w12_10 cX_x0_10 cX_x1_10 cX_x2_10 cX_x3_10 cX_x4_10 cX_x5_10 cX_x6_10 cX_x7_10 cX_x8_10 cX_x9_10 cX_x10_10 cX_x11_10 cX_x12_10 cX_g0_10 cX_g1_10 cX_g2_10 cX_g3_10 cX_g4_10 cX_g5_10 cX_g6_10 cX_g7_10 cX_g8_10 cX_g9_10 cX_g10_10 cX_g11_10 cX_g12_10
        have cX_p0_11 := X_p_11.out.cell (j := 0) rfl
        have cX_p1_11 := X_p_11.out.cell (j := 1) rfl
        have cX_p2_11 := X_p_11.out.cell (j := 2) rfl
        have cX_p3_11 := X_p_11.out.cell (j := 3) rfl
        have cX_p4_11 := X_p_11.out.cell (j := 4) rfl
        have cX_p5_11 := X_p_11.out.cell (j := 5) rfl
        have cX_p6_11 := X_p_11.out.cell (j := 6) rfl
        have cX_p7_11 := X_p_11.out.cell (j := 7) rfl
        have cX_p8_11 := X_p_11.out.cell (j := 8) rfl
        have cX_p9_11 := X_p_11.out.cell (j := 9) rfl
        have cX_p10_11 := X_p_11.out.cell (j := 10) rfl
        have cX_p11_11 := X_p_11.out.cell (j := 11) rfl
        have cX_p12_11 := X_p_11.out.cell (j := 12) rfl
        have cX_s0_11 := X_s_11.out.cell (j := 0) rfl
        have cX_s1_11 := X_s_11.out.cell (j := 1) rfl
        have cX_s2_11 := X_s_11.out.cell (j := 2) rfl
        have cX_s3_11 := X_s_11.out.cell (j := 3) rfl
        have cX_w0_11 := X_w_11.out.cell (j := 0) rfl
        have cX_w1_11 := X_w_11.out.cell (j := 1) rfl
        have cX_w2_11 := X_w_11.out.cell (j := 2) rfl
        have cX_w3_11 := X_w_11.out.cell (j := 3) rfl
        have cX_w4_11 := X_w_11.out.cell (j := 4) rfl
        have cX_w5_11 := X_w_11.out.cell (j := 5) rfl
        have cX_w6_11 := X_w_11.out.cell (j := 6) rfl
        have cX_w7_11 := X_w_11.out.cell (j := 7) rfl
        have cX_w8_11 := X_w_11.out.cell (j := 8) rfl
        have cX_w9_11 := X_w_11.out.cell (j := 9) rfl
        have cX_w10_11 := X_w_11.out.cell (j := 10) rfl
        have cX_w11_11 := X_w_11.out.cell (j := 11) rfl
        have cX_w12_11 := X_w_11.out.cell (j := 12) rfl
        have cX_x0_11 := X_x_11.out.cell (j := 0) rfl
        have cX_x1_11 := X_x_11.out.cell (j := 1) rfl
        have cX_x2_11 := X_x_11.out.cell (j := 2) rfl
        have cX_x3_11 := X_x_11.out.cell (j := 3) rfl
        have cX_x4_11 := X_x_11.out.cell (j := 4) rfl
        have cX_x5_11 := X_x_11.out.cell (j := 5) rfl
        have cX_x6_11 := X_x_11.out.cell (j := 6) rfl
        have cX_x7_11 := X_x_11.out.cell (j := 7) rfl
        have cX_x8_11 := X_x_11.out.cell (j := 8) rfl
        have cX_x9_11 := X_x_11.out.cell (j := 9) rfl
        have cX_x10_11 := X_x_11.out.cell (j := 10) rfl
        have cX_x11_11 := X_x_11.out.cell (j := 11) rfl
        have cX_x12_11 := X_x_11.out.cell (j := 12) rfl
        have cX_g0_11 := X_g_11.out.cell (j := 0) rfl
        have cX_g1_11 := X_g_11.out.cell (j := 1) rfl
        have cX_g2_11 := X_g_11.out.cell (j := 2) rfl
        have cX_g3_11 := X_g_11.out.cell (j := 3) rfl
        have cX_g4_11 := X_g_11.out.cell (j := 4) rfl
        have cX_g5_11 := X_g_11.out.cell (j := 5) rfl
        have cX_g6_11 := X_g_11.out.cell (j := 6) rfl
        have cX_g7_11 := X_g_11.out.cell (j := 7) rfl
        have cX_g8_11 := X_g_11.out.cell (j := 8) rfl
        have cX_g9_11 := X_g_11.out.cell (j := 9) rfl
        have cX_g10_11 := X_g_11.out.cell (j := 10) rfl
        have cX_g11_11 := X_g_11.out.cell (j := 11) rfl
        have cX_g12_11 := X_g_11.out.cell (j := 12) rfl
        have M_11 := hid hm11
        clear hm11
        go_wp2_with fail
        refine Calls.mono (heldStream_any D v5 D.late.length c5 1 (by omega) hA2 _ (lates3 M_11.out (marksLate_length _ _))) ?_
        rintro e w12 ⟨rfl, b12⟩
        have O12 := hid b12.size
        have X_p_12 := hid (X_p_11.out.on b12 X_p_11.out.lt)
        have B_12 := hid (below_via B_11.out b12)
        have X_s_12 := hid (X_s_11.out.on b12 X_s_11.out.lt)
        have R_w_12 := hid (R_w_11.out.on b12)
        have X_w_12 := hid (X_w_11.out.on b12 X_w_11.out.lt)
        have X_x_12 := hid (X_x_11.out.on b12 X_x_11.out.lt)
        have X_g_12 := hid (X_g_11.out.on b12 X_g_11.out.lt)
        have M_12 := hid (M_11.out.on b12)
        clear b12 X_p_11 B_11 X_s_11 R_w_11 X_w_11 X_x_11 X_g_11 M_11 cX_p0_11 cX_p1_11 cX_p2_11 cX_p3_11 cX_p4_11 cX_p5_11 cX_p6_11 cX_p7_11 cX_p8_11 cX_p9_11 cX_p10_11 cX_p11_11 cX_p12_11 cX_s0_11 cX_s1_11 cX_s2_11 cX_s3_11 cX_w0_11 cX_w1_11 cX_w2_11 cX_w3_11 cX_w4_11 cX_w5_11 cX_w6_11 cX_w7_11 cX_w8_11 cX_w9_11 cX_w10_11 cX_w11_11 cX_w12_11 cX_x0_11 cX_x1_11 cX_x2_11 cX_x3_11 cX_x4_11 cX_x5_11 cX_x6_11 cX_x7_11 cX_x8_11 cX_x9_11 cX_x10_11 cX_x11_11 cX_x12_11 cX_g0_11 cX_g1_11 cX_g2_11 cX_g3_11 cX_g4_11 cX_g5_11 cX_g6_11 cX_g7_11 cX_g8_11 cX_g9_11 cX_g10_11 cX_g11_11 cX_g12_11
        have cX_p0_12 := X_p_12.out.cell (j := 0) rfl
        have cX_p1_12 := X_p_12.out.cell (j := 1) rfl
        have cX_p2_12 := X_p_12.out.cell (j := 2) rfl
        have cX_p3_12 := X_p_12.out.cell (j := 3) rfl
        have cX_p4_12 := X_p_12.out.cell (j := 4) rfl
        have cX_p5_12 := X_p_12.out.cell (j := 5) rfl
        have cX_p6_12 := X_p_12.out.cell (j := 6) rfl
        have cX_p7_12 := X_p_12.out.cell (j := 7) rfl
        have cX_p8_12 := X_p_12.out.cell (j := 8) rfl
        have cX_p9_12 := X_p_12.out.cell (j := 9) rfl
        have cX_p10_12 := X_p_12.out.cell (j := 10) rfl
        have cX_p11_12 := X_p_12.out.cell (j := 11) rfl
        have cX_p12_12 := X_p_12.out.cell (j := 12) rfl
        have cX_s0_12 := X_s_12.out.cell (j := 0) rfl
        have cX_s1_12 := X_s_12.out.cell (j := 1) rfl
        have cX_s2_12 := X_s_12.out.cell (j := 2) rfl
        have cX_s3_12 := X_s_12.out.cell (j := 3) rfl
        have cX_w0_12 := X_w_12.out.cell (j := 0) rfl
        have cX_w1_12 := X_w_12.out.cell (j := 1) rfl
        have cX_w2_12 := X_w_12.out.cell (j := 2) rfl
        have cX_w3_12 := X_w_12.out.cell (j := 3) rfl
        have cX_w4_12 := X_w_12.out.cell (j := 4) rfl
        have cX_w5_12 := X_w_12.out.cell (j := 5) rfl
        have cX_w6_12 := X_w_12.out.cell (j := 6) rfl
        have cX_w7_12 := X_w_12.out.cell (j := 7) rfl
        have cX_w8_12 := X_w_12.out.cell (j := 8) rfl
        have cX_w9_12 := X_w_12.out.cell (j := 9) rfl
        have cX_w10_12 := X_w_12.out.cell (j := 10) rfl
        have cX_w11_12 := X_w_12.out.cell (j := 11) rfl
        have cX_w12_12 := X_w_12.out.cell (j := 12) rfl
        have cX_x0_12 := X_x_12.out.cell (j := 0) rfl
        have cX_x1_12 := X_x_12.out.cell (j := 1) rfl
        have cX_x2_12 := X_x_12.out.cell (j := 2) rfl
        have cX_x3_12 := X_x_12.out.cell (j := 3) rfl
        have cX_x4_12 := X_x_12.out.cell (j := 4) rfl
        have cX_x5_12 := X_x_12.out.cell (j := 5) rfl
        have cX_x6_12 := X_x_12.out.cell (j := 6) rfl
        have cX_x7_12 := X_x_12.out.cell (j := 7) rfl
        have cX_x8_12 := X_x_12.out.cell (j := 8) rfl
        have cX_x9_12 := X_x_12.out.cell (j := 9) rfl
        have cX_x10_12 := X_x_12.out.cell (j := 10) rfl
        have cX_x11_12 := X_x_12.out.cell (j := 11) rfl
        have cX_x12_12 := X_x_12.out.cell (j := 12) rfl
        have cX_g0_12 := X_g_12.out.cell (j := 0) rfl
        have cX_g1_12 := X_g_12.out.cell (j := 1) rfl
        have cX_g2_12 := X_g_12.out.cell (j := 2) rfl
        have cX_g3_12 := X_g_12.out.cell (j := 3) rfl
        have cX_g4_12 := X_g_12.out.cell (j := 4) rfl
        have cX_g5_12 := X_g_12.out.cell (j := 5) rfl
        have cX_g6_12 := X_g_12.out.cell (j := 6) rfl
        have cX_g7_12 := X_g_12.out.cell (j := 7) rfl
        have cX_g8_12 := X_g_12.out.cell (j := 8) rfl
        have cX_g9_12 := X_g_12.out.cell (j := 9) rfl
        have cX_g10_12 := X_g_12.out.cell (j := 10) rfl
        have cX_g11_12 := X_g_12.out.cell (j := 11) rfl
        have cX_g12_12 := X_g_12.out.cell (j := 12) rfl
        go_upto_region 27 with fail
        go_cut [12] (fun c W => Hid (Below w12.heap.size w12 W) ∧ ∃ (va : Option Addr) (vc b : Nat), c = .pointer (some ⟨b, 0, none⟩) ∧ Hid (w12.heap.size ≤ b ∧ BlockIs W b 31 [.int .i64 D.st, .int .i64 D.iss, .int .i64 D.una, .int .i64 D.rcv, .string D.wait, .int .i64 D.sent, .int .i64 D.fin, .bool D.pf, .string D.inn, .slice va D.late.length vc, .bool D.owe, .int .i64 D.due, .int .i64 D.times] ∧ OwnAt W 61 (lateCells D.late) D.late.length va (w12.heap.size) W.heap.size))
        case first =>
          refine wp_region_chain_b (N := 82) (by kernel_rfl) (by kernel_rfl) rfl (by kernel_rfl) [(2, .pointer (some ⟨w.heap.size, 0, none⟩)), (3, .pointer (some ⟨w.heap.size + 1, 0, none⟩))] (by intro p hp; simp only [List.mem_cons, List.not_mem_nil, or_false] at hp; rcases hp with rfl | rfl <;> rfl) (fun W => Below w12.heap.size w12 W) (fun j v u W => match j with | 0 => v = .agg #[.int .i64 d.st, .int .i64 d.iss, .int .i64 d.una, .int .i64 d.rcv, .string d.wait, .int .i64 d.sent, .int .i64 d.fin, .bool d.pf, .string d.inn, .slice ao d.late.length cap, .bool d.owe, .int .i64 d.due, .int .i64 d.times] | 1 => ∃ (va : Option Addr) (vc : Nat), v = .agg #[.int .i64 d.st, .int .i64 d.iss, .int .i64 d.una, .int .i64 d.rcv, .string d.wait, .int .i64 d.sent, .int .i64 d.fin, .bool d.pf, .string d.inn, .slice va d.late.length vc, .bool d.owe, .int .i64 d.due, .int .i64 d.times] ∧ LatesAt W va d.late | 2 => v = .agg #[.int .i64 s.num, .int .i64 s.ack, .int .i64 s.flags, .string s.body] | 3 => v = .agg #[.int .i64 s.num, .int .i64 s.ack, .int .i64 s.flags, .string s.body] | 4 => ∃ (va : Option Addr) (vc : Nat), v = .agg #[.int .i64 D.st, .int .i64 D.iss, .int .i64 D.una, .int .i64 D.rcv, .string D.wait, .int .i64 D.sent, .int .i64 D.fin, .bool D.pf, .string D.inn, .slice va D.late.length vc, .bool D.owe, .int .i64 D.due, .int .i64 D.times] ∧ OwnAt W 61 (lateCells D.late) D.late.length va (w12.heap.size) W.heap.size | 5 => ∃ b : Nat, v = .pointer (some ⟨b, 0, none⟩) ∧ w12.heap.size ≤ b ∧ BlockIs W b 31 [.int .i64 0, .int .i64 0, .int .i64 0, .int .i64 0, .string ⟨#[]⟩, .int .i64 0, .int .i64 0, .bool false, .string ⟨#[]⟩, .slice none 0 0, .bool false, .int .i64 0, .int .i64 0] | 6 => ∃ (va : Option Addr) (vc b : Nat), u = .pointer (some ⟨b, 0, none⟩) ∧ w12.heap.size ≤ b ∧ BlockIs W b 31 [.int .i64 D.st, .int .i64 D.iss, .int .i64 D.una, .int .i64 D.rcv, .string D.wait, .int .i64 D.sent, .int .i64 D.fin, .bool D.pf, .string D.inn, .slice va D.late.length vc, .bool D.owe, .int .i64 D.due, .int .i64 D.times] ∧ OwnAt W 61 (lateCells D.late) D.late.length va (w12.heap.size) W.heap.size | _ => True) (fun i => if i = 6 then 5 else i) (fun j i => decide ((j, i) ∈ ([(1, 6), (4, 6), (5, 6)] : List (Nat × Nat)))) (fun i X9 Y9 => i ≠ 6 → Below X9.heap.size X9 Y9) (fun q9 W => match q9 with | 0 => True | _ => True) (fun m k => decide ((m, k) ∈ ([] : List (Nat × Nat)))) ?_ (fun i => if i = 6 then 12 else 0) (by kernel_rfl) (fun i hi => by have : 7 ≤ i := hi; simp; omega) ?_ (below_drewN (Below.refl _ _) 1) (fun q9 => match q9 with | 0 => trivial | _ + 1 => trivial) ?_ ?_
          · intro i m x y hen hxy hm
            match m, hen, hm with
            | 0, hen, hm =>
              exact trivial
            | n + 1, _, _ => exact trivial
          · intro i j v u x y hsz hij hdd hwt hxy hg
            match j, hg with
            | 0, hg => exact hg
            | 1, hg =>
              obtain ⟨va, vc, e1, e2⟩ := hg
              exact ⟨va, vc, e1, e2.on (hxy (fun e9 => by subst e9; simp at hdd))⟩
            | 2, hg => exact hg
            | 3, hg => exact hg
            | 4, hg =>
              obtain ⟨va, vc, e1, e2⟩ := hg
              have h9 := (hxy (fun e9 => by subst e9; simp at hdd))
              exact ⟨va, vc, e1, (e2.on h9).down (Nat.le_refl _) h9.size⟩
            | 5, hg =>
              obtain ⟨b, e1, e2, e3⟩ := hg
              exact ⟨b, e1, e2, e3.on (hxy (fun e9 => by subst e9; simp at hdd)) e3.lt⟩
            | 6, hg =>
              exact (not_all_after (by kernel_rfl) hsz hij hwt).elim
            | n + 7, _ => exact trivial
          · refine ⟨?_, ?_, ?_, ?_, ?_, ?_, ?_, trivial⟩
            · intro A W hC hI hg hb
              have h2 : A.eval (.tmp 2) = .pointer (some ⟨w.heap.size, 0, none⟩) := hb 2 _ (.head _) (chain_of (by kernel_rfl))
              have hk := X_p_12.out.on hC X_p_12.out.lt
              have hc0 := hk.cell (j := 0) rfl
              have hc1 := hk.cell (j := 1) rfl
              have hc2 := hk.cell (j := 2) rfl
              have hc3 := hk.cell (j := 3) rfl
              have hc4 := hk.cell (j := 4) rfl
              have hc5 := hk.cell (j := 5) rfl
              have hc6 := hk.cell (j := 6) rfl
              have hc7 := hk.cell (j := 7) rfl
              have hc8 := hk.cell (j := 8) rfl
              have hc9 := hk.cell (j := 9) rfl
              have hc10 := hk.cell (j := 10) rfl
              have hc11 := hk.cell (j := 11) rfl
              have hc12 := hk.cell (j := 12) rfl
              exact does_value (v := .agg #[.int .i64 d.st, .int .i64 d.iss, .int .i64 d.una, .int .i64 d.rcv, .string d.wait, .int .i64 d.sent, .int .i64 d.fin, .bool d.pf, .string d.inn, .slice ao d.late.length cap, .bool d.owe, .int .i64 d.due, .int .i64 d.times]) (w' := W) (by simp only [execOp, h2]; simp [go_sem, hc0, hc1, hc2, hc3, hc4, hc5, hc6, hc7, hc8, hc9, hc10, hc11, hc12]) ⟨rfl, hC, fun _ => Below.refl _ _⟩
            · intro A W hC hI hg hb
              have h65 : A.eval (.tmp 65) = .agg #[.int .i64 d.st, .int .i64 d.iss, .int .i64 d.una, .int .i64 d.rcv, .string d.wait, .int .i64 d.sent, .int .i64 d.fin, .bool d.pf, .string d.inn, .slice ao d.late.length cap, .bool d.owe, .int .i64 d.due, .int .i64 d.times] := hg 0 65 (by decide) rfl (by simp [Op.operands, Call.operands]) (by kernel_rfl) (by kernel_rfl) rfl
              simp [go_sem] at h65
              refine does_enter (f := 8) (args := #[.agg #[.int .i64 d.st, .int .i64 d.iss, .int .i64 d.una, .int .i64 d.rcv, .string d.wait, .int .i64 d.sent, .int .i64 d.fin, .bool d.pf, .string d.inn, .slice ao d.late.length cap, .bool d.owe, .int .i64 d.due, .int .i64 d.times]]) (w' := W) (by simp [go_sem, h65]) ?_
              refine (toStream_o d ao cap hl2 W (HA.out.on (below_via B_12.out hC))).mono ?_
              rintro e9 W' ⟨va, vc, rfl, _, ho, hb⟩
              exact ⟨_, rfl, ⟨va, vc, rfl, ho.lates⟩, below_via hC hb, fun _ => hb⟩
            · intro A W hC hI hg hb
              have h3 : A.eval (.tmp 3) = .pointer (some ⟨w.heap.size + 1, 0, none⟩) := hb 3 _ (.tail _ (.head _)) (chain_of (by kernel_rfl))
              have hk := X_s_12.out.on hC X_s_12.out.lt
              have hc0 := hk.cell (j := 0) rfl
              have hc1 := hk.cell (j := 1) rfl
              have hc2 := hk.cell (j := 2) rfl
              have hc3 := hk.cell (j := 3) rfl
              exact does_value (v := .agg #[.int .i64 s.num, .int .i64 s.ack, .int .i64 s.flags, .string s.body]) (w' := W) (by simp only [execOp, h3]; simp [go_sem, hc0, hc1, hc2, hc3]) ⟨rfl, hC, fun _ => Below.refl _ _⟩
            · intro A W hC hI hg hb
              have h67 : A.eval (.tmp 67) = .agg #[.int .i64 s.num, .int .i64 s.ack, .int .i64 s.flags, .string s.body] := hg 2 67 (by decide) rfl (by simp [Op.operands, Call.operands]) (by kernel_rfl) (by kernel_rfl) rfl
              simp [go_sem] at h67
              refine does_enter (f := 9) (args := #[.agg #[.int .i64 s.num, .int .i64 s.ack, .int .i64 s.flags, .string s.body]]) (w' := W) (by simp [go_sem, h67]) ?_
              refine (toSeg_any s W).mono ?_
              rintro e9 W' ⟨rfl, hb⟩
              exact ⟨_, rfl, rfl, below_via hC hb, fun _ => hb⟩
            · intro A W hC hI hg hb
              have g1 := hg 1 66 (by decide) rfl (by simp [Op.operands, Call.operands]) (by kernel_rfl) (by kernel_rfl) rfl
              have h68 : A.eval (.tmp 68) = .agg #[.int .i64 s.num, .int .i64 s.ack, .int .i64 s.flags, .string s.body] := hg 3 68 (by decide) rfl (by simp [Op.operands, Call.operands]) (by kernel_rfl) (by kernel_rfl) rfl
              obtain ⟨va0, vc0, h66, hla⟩ := g1
              simp [go_sem] at h66 h68
              refine does_enter (f := 10) (args := #[.agg #[.int .i64 d.st, .int .i64 d.iss, .int .i64 d.una, .int .i64 d.rcv, .string d.wait, .int .i64 d.sent, .int .i64 d.fin, .bool d.pf, .string d.inn, .slice va0 d.late.length vc0, .bool d.owe, .int .i64 d.due, .int .i64 d.times], .agg #[.int .i64 s.num, .int .i64 s.ack, .int .i64 s.flags, .string s.body]]) (w' := W) (by simp [go_sem, h66, h68]) ?_
              refine (CI0.out W _ _ hla).mono ?_
              rintro e9 W' ⟨va, vc, rfl, _, ho, hb⟩
              exact ⟨_, rfl, ⟨va, vc, rfl, ho.down hC.size (Nat.le_refl _)⟩, below_via hC hb, fun _ => hb⟩
            · intro A W hC hI hg hb
              have ba := below_more (Below.refl W.heap.size W) (.cells #[.int .i64 0, .int .i64 0, .int .i64 0, .int .i64 0, .string ⟨#[]⟩, .int .i64 0, .int .i64 0, .bool false, .string ⟨#[]⟩, .slice none 0 0, .bool false, .int .i64 0, .int .i64 0] 31)
              exact does_value (v := .pointer (some ⟨W.heap.size, 0, none⟩)) (w' := W.alloc (.cells #[.int .i64 0, .int .i64 0, .int .i64 0, .int .i64 0, .string ⟨#[]⟩, .int .i64 0, .int .i64 0, .bool false, .string ⟨#[]⟩, .slice none 0 0, .bool false, .int .i64 0, .int .i64 0] 31)) (by simp [execOp, go_sem]) ⟨⟨_, rfl, hC.size, heap_alloc_new W _⟩, below_via hC ba, fun _ => ba⟩
            · intro A W hC hI hg hb
              have g5 := hg 5 12 (by decide) rfl (by simp [Op.operands]) (by kernel_rfl) (by kernel_rfl) rfl
              have g4 := hg 4 69 (by decide) rfl (by simp [Op.operands]) (by kernel_rfl) (by kernel_rfl) rfl
              obtain ⟨va, vc, h69, hrow⟩ := g4
              obtain ⟨b, h12, hbN, hbk⟩ := g5
              have hst := store_str hbk rfl (A := #[.int .i64 D.st, .int .i64 D.iss, .int .i64 D.una, .int .i64 D.rcv, .string D.wait, .int .i64 D.sent, .int .i64 D.fin, .bool D.pf, .string D.inn, .slice va D.late.length vc, .bool D.owe, .int .i64 D.due, .int .i64 D.times]) rfl (strCells_all D _ _)
              exact does_skip (w' := W.setRow b #[.int .i64 D.st, .int .i64 D.iss, .int .i64 D.una, .int .i64 D.rcv, .string D.wait, .int .i64 D.sent, .int .i64 D.fin, .bool D.pf, .string D.inn, .slice va D.late.length vc, .bool D.owe, .int .i64 D.due, .int .i64 D.times]) (by simp only [execOp, h12, h69, hst, Sem.run_bind, Sem.run_pure, Result.andThen_ok]) ⟨⟨va, vc, b, h12, hbN, store_block hbk _, row_stored hrow hbk (by decide) _⟩, below_setRow hC hbN _, fun h => absurd rfl h⟩
          · intro vs wE hC _ hg
            obtain ⟨va, vc, b, h1, h2, h3, h4⟩ := hg 6 (by decide) (fun k => by simp)
            have h1b : vs 5 = .pointer (some ⟨b, 0, none⟩) := h1
            clear hg h1
            simp only [List.size_toArray, List.length_cons, List.length_nil, Nat.zero_add, Nat.reduceAdd]
            simp only [laidBy, if_true, dstAt, List.getElem?_toArray, List.getElem?_cons_succ, List.getElem?_cons_zero, Option.bind_some]
            simp only [Act.put, List.setIfInBounds_toArray, List.set_cons_succ, List.set_cons_zero]
            rw [h1b]
            go_wp2_with fail
            go_meet
            exact ⟨hC, va, vc, b, rfl, h2, h3, h4⟩
        case rest =>
          rename World => w13
          obtain ⟨HB13, v13, c13, bk13, rfl, HC13⟩ := hcut
          have bb := HB13.out
          have O13 := hid bb.size
          have OB13 := hid HC13.out.1
          have OC13 := hid HC13.out.2.1.lt
          have X_p_13 := hid (X_p_12.out.on bb X_p_12.out.lt)
          have B_13 := hid (below_via B_12.out bb)
          have X_s_13 := hid (X_s_12.out.on bb X_s_12.out.lt)
          have R_w_13 := hid (R_w_12.out.on bb)
          have X_w_13 := hid (X_w_12.out.on bb X_w_12.out.lt)
          have X_x_13 := hid (X_x_12.out.on bb X_x_12.out.lt)
          have X_g_13 := hid (X_g_12.out.on bb X_g_12.out.lt)
          have M_13 := hid (M_12.out.on bb)
          have R_h_13 := hid HC13.out.2.2
          have X_h_13 := hid HC13.out.2.1
          clear bb HB13 HC13 X_p_12 B_12 X_s_12 R_w_12 X_w_12 X_x_12 X_g_12 M_12 cX_p0_12 cX_p1_12 cX_p2_12 cX_p3_12 cX_p4_12 cX_p5_12 cX_p6_12 cX_p7_12 cX_p8_12 cX_p9_12 cX_p10_12 cX_p11_12 cX_p12_12 cX_s0_12 cX_s1_12 cX_s2_12 cX_s3_12 cX_w0_12 cX_w1_12 cX_w2_12 cX_w3_12 cX_w4_12 cX_w5_12 cX_w6_12 cX_w7_12 cX_w8_12 cX_w9_12 cX_w10_12 cX_w11_12 cX_w12_12 cX_x0_12 cX_x1_12 cX_x2_12 cX_x3_12 cX_x4_12 cX_x5_12 cX_x6_12 cX_x7_12 cX_x8_12 cX_x9_12 cX_x10_12 cX_x11_12 cX_x12_12 cX_g0_12 cX_g1_12 cX_g2_12 cX_g3_12 cX_g4_12 cX_g5_12 cX_g6_12 cX_g7_12 cX_g8_12 cX_g9_12 cX_g10_12 cX_g11_12 cX_g12_12
          have cX_p0_13 := X_p_13.out.cell (j := 0) rfl
          have cX_p1_13 := X_p_13.out.cell (j := 1) rfl
          have cX_p2_13 := X_p_13.out.cell (j := 2) rfl
          have cX_p3_13 := X_p_13.out.cell (j := 3) rfl
          have cX_p4_13 := X_p_13.out.cell (j := 4) rfl
          have cX_p5_13 := X_p_13.out.cell (j := 5) rfl
          have cX_p6_13 := X_p_13.out.cell (j := 6) rfl
          have cX_p7_13 := X_p_13.out.cell (j := 7) rfl
          have cX_p8_13 := X_p_13.out.cell (j := 8) rfl
          have cX_p9_13 := X_p_13.out.cell (j := 9) rfl
          have cX_p10_13 := X_p_13.out.cell (j := 10) rfl
          have cX_p11_13 := X_p_13.out.cell (j := 11) rfl
          have cX_p12_13 := X_p_13.out.cell (j := 12) rfl
          have cX_s0_13 := X_s_13.out.cell (j := 0) rfl
          have cX_s1_13 := X_s_13.out.cell (j := 1) rfl
          have cX_s2_13 := X_s_13.out.cell (j := 2) rfl
          have cX_s3_13 := X_s_13.out.cell (j := 3) rfl
          have cX_w0_13 := X_w_13.out.cell (j := 0) rfl
          have cX_w1_13 := X_w_13.out.cell (j := 1) rfl
          have cX_w2_13 := X_w_13.out.cell (j := 2) rfl
          have cX_w3_13 := X_w_13.out.cell (j := 3) rfl
          have cX_w4_13 := X_w_13.out.cell (j := 4) rfl
          have cX_w5_13 := X_w_13.out.cell (j := 5) rfl
          have cX_w6_13 := X_w_13.out.cell (j := 6) rfl
          have cX_w7_13 := X_w_13.out.cell (j := 7) rfl
          have cX_w8_13 := X_w_13.out.cell (j := 8) rfl
          have cX_w9_13 := X_w_13.out.cell (j := 9) rfl
          have cX_w10_13 := X_w_13.out.cell (j := 10) rfl
          have cX_w11_13 := X_w_13.out.cell (j := 11) rfl
          have cX_w12_13 := X_w_13.out.cell (j := 12) rfl
          have cX_x0_13 := X_x_13.out.cell (j := 0) rfl
          have cX_x1_13 := X_x_13.out.cell (j := 1) rfl
          have cX_x2_13 := X_x_13.out.cell (j := 2) rfl
          have cX_x3_13 := X_x_13.out.cell (j := 3) rfl
          have cX_x4_13 := X_x_13.out.cell (j := 4) rfl
          have cX_x5_13 := X_x_13.out.cell (j := 5) rfl
          have cX_x6_13 := X_x_13.out.cell (j := 6) rfl
          have cX_x7_13 := X_x_13.out.cell (j := 7) rfl
          have cX_x8_13 := X_x_13.out.cell (j := 8) rfl
          have cX_x9_13 := X_x_13.out.cell (j := 9) rfl
          have cX_x10_13 := X_x_13.out.cell (j := 10) rfl
          have cX_x11_13 := X_x_13.out.cell (j := 11) rfl
          have cX_x12_13 := X_x_13.out.cell (j := 12) rfl
          have cX_g0_13 := X_g_13.out.cell (j := 0) rfl
          have cX_g1_13 := X_g_13.out.cell (j := 1) rfl
          have cX_g2_13 := X_g_13.out.cell (j := 2) rfl
          have cX_g3_13 := X_g_13.out.cell (j := 3) rfl
          have cX_g4_13 := X_g_13.out.cell (j := 4) rfl
          have cX_g5_13 := X_g_13.out.cell (j := 5) rfl
          have cX_g6_13 := X_g_13.out.cell (j := 6) rfl
          have cX_g7_13 := X_g_13.out.cell (j := 7) rfl
          have cX_g8_13 := X_g_13.out.cell (j := 8) rfl
          have cX_g9_13 := X_g_13.out.cell (j := 9) rfl
          have cX_g10_13 := X_g_13.out.cell (j := 10) rfl
          have cX_g11_13 := X_g_13.out.cell (j := 11) rfl
          have cX_g12_13 := X_g_13.out.cell (j := 12) rfl
          have cX_h0_13 := X_h_13.out.cell (j := 0) rfl
          have cX_h1_13 := X_h_13.out.cell (j := 1) rfl
          have cX_h2_13 := X_h_13.out.cell (j := 2) rfl
          have cX_h3_13 := X_h_13.out.cell (j := 3) rfl
          have cX_h4_13 := X_h_13.out.cell (j := 4) rfl
          have cX_h5_13 := X_h_13.out.cell (j := 5) rfl
          have cX_h6_13 := X_h_13.out.cell (j := 6) rfl
          have cX_h7_13 := X_h_13.out.cell (j := 7) rfl
          have cX_h8_13 := X_h_13.out.cell (j := 8) rfl
          have cX_h9_13 := X_h_13.out.cell (j := 9) rfl
          have cX_h10_13 := X_h_13.out.cell (j := 10) rfl
          have cX_h11_13 := X_h_13.out.cell (j := 11) rfl
          have cX_h12_13 := X_h_13.out.cell (j := 12) rfl
          go_wp2_with fail
          refine Calls.mono (eqStream_same D v13 v3 c13 c3 (by omega) _ R_h_13.out.lates R_w_13.out.lates) ?_
          rintro e w14 ⟨rfl, b14⟩
          have O14 := hid b14.size
          have X_p_14 := hid (X_p_13.out.on b14 X_p_13.out.lt)
          have B_14 := hid (below_via B_13.out b14)
          have X_s_14 := hid (X_s_13.out.on b14 X_s_13.out.lt)
          have R_w_14 := hid (R_w_13.out.on b14)
          have X_w_14 := hid (X_w_13.out.on b14 X_w_13.out.lt)
          have X_x_14 := hid (X_x_13.out.on b14 X_x_13.out.lt)
          have X_g_14 := hid (X_g_13.out.on b14 X_g_13.out.lt)
          have M_14 := hid (M_13.out.on b14)
          have R_h_14 := hid (R_h_13.out.on b14)
          have X_h_14 := hid (X_h_13.out.on b14 X_h_13.out.lt)
          clear b14 X_p_13 B_13 X_s_13 R_w_13 X_w_13 X_x_13 X_g_13 M_13 R_h_13 X_h_13 cX_p0_13 cX_p1_13 cX_p2_13 cX_p3_13 cX_p4_13 cX_p5_13 cX_p6_13 cX_p7_13 cX_p8_13 cX_p9_13 cX_p10_13 cX_p11_13 cX_p12_13 cX_s0_13 cX_s1_13 cX_s2_13 cX_s3_13 cX_w0_13 cX_w1_13 cX_w2_13 cX_w3_13 cX_w4_13 cX_w5_13 cX_w6_13 cX_w7_13 cX_w8_13 cX_w9_13 cX_w10_13 cX_w11_13 cX_w12_13 cX_x0_13 cX_x1_13 cX_x2_13 cX_x3_13 cX_x4_13 cX_x5_13 cX_x6_13 cX_x7_13 cX_x8_13 cX_x9_13 cX_x10_13 cX_x11_13 cX_x12_13 cX_g0_13 cX_g1_13 cX_g2_13 cX_g3_13 cX_g4_13 cX_g5_13 cX_g6_13 cX_g7_13 cX_g8_13 cX_g9_13 cX_g10_13 cX_g11_13 cX_g12_13 cX_h0_13 cX_h1_13 cX_h2_13 cX_h3_13 cX_h4_13 cX_h5_13 cX_h6_13 cX_h7_13 cX_h8_13 cX_h9_13 cX_h10_13 cX_h11_13 cX_h12_13
          have cX_p0_14 := X_p_14.out.cell (j := 0) rfl
          have cX_p1_14 := X_p_14.out.cell (j := 1) rfl
          have cX_p2_14 := X_p_14.out.cell (j := 2) rfl
          have cX_p3_14 := X_p_14.out.cell (j := 3) rfl
          have cX_p4_14 := X_p_14.out.cell (j := 4) rfl
          have cX_p5_14 := X_p_14.out.cell (j := 5) rfl
          have cX_p6_14 := X_p_14.out.cell (j := 6) rfl
          have cX_p7_14 := X_p_14.out.cell (j := 7) rfl
          have cX_p8_14 := X_p_14.out.cell (j := 8) rfl
          have cX_p9_14 := X_p_14.out.cell (j := 9) rfl
          have cX_p10_14 := X_p_14.out.cell (j := 10) rfl
          have cX_p11_14 := X_p_14.out.cell (j := 11) rfl
          have cX_p12_14 := X_p_14.out.cell (j := 12) rfl
          have cX_s0_14 := X_s_14.out.cell (j := 0) rfl
          have cX_s1_14 := X_s_14.out.cell (j := 1) rfl
          have cX_s2_14 := X_s_14.out.cell (j := 2) rfl
          have cX_s3_14 := X_s_14.out.cell (j := 3) rfl
          have cX_w0_14 := X_w_14.out.cell (j := 0) rfl
          have cX_w1_14 := X_w_14.out.cell (j := 1) rfl
          have cX_w2_14 := X_w_14.out.cell (j := 2) rfl
          have cX_w3_14 := X_w_14.out.cell (j := 3) rfl
          have cX_w4_14 := X_w_14.out.cell (j := 4) rfl
          have cX_w5_14 := X_w_14.out.cell (j := 5) rfl
          have cX_w6_14 := X_w_14.out.cell (j := 6) rfl
          have cX_w7_14 := X_w_14.out.cell (j := 7) rfl
          have cX_w8_14 := X_w_14.out.cell (j := 8) rfl
          have cX_w9_14 := X_w_14.out.cell (j := 9) rfl
          have cX_w10_14 := X_w_14.out.cell (j := 10) rfl
          have cX_w11_14 := X_w_14.out.cell (j := 11) rfl
          have cX_w12_14 := X_w_14.out.cell (j := 12) rfl
          have cX_x0_14 := X_x_14.out.cell (j := 0) rfl
          have cX_x1_14 := X_x_14.out.cell (j := 1) rfl
          have cX_x2_14 := X_x_14.out.cell (j := 2) rfl
          have cX_x3_14 := X_x_14.out.cell (j := 3) rfl
          have cX_x4_14 := X_x_14.out.cell (j := 4) rfl
          have cX_x5_14 := X_x_14.out.cell (j := 5) rfl
          have cX_x6_14 := X_x_14.out.cell (j := 6) rfl
          have cX_x7_14 := X_x_14.out.cell (j := 7) rfl
          have cX_x8_14 := X_x_14.out.cell (j := 8) rfl
          have cX_x9_14 := X_x_14.out.cell (j := 9) rfl
          have cX_x10_14 := X_x_14.out.cell (j := 10) rfl
          have cX_x11_14 := X_x_14.out.cell (j := 11) rfl
          have cX_x12_14 := X_x_14.out.cell (j := 12) rfl
          have cX_g0_14 := X_g_14.out.cell (j := 0) rfl
          have cX_g1_14 := X_g_14.out.cell (j := 1) rfl
          have cX_g2_14 := X_g_14.out.cell (j := 2) rfl
          have cX_g3_14 := X_g_14.out.cell (j := 3) rfl
          have cX_g4_14 := X_g_14.out.cell (j := 4) rfl
          have cX_g5_14 := X_g_14.out.cell (j := 5) rfl
          have cX_g6_14 := X_g_14.out.cell (j := 6) rfl
          have cX_g7_14 := X_g_14.out.cell (j := 7) rfl
          have cX_g8_14 := X_g_14.out.cell (j := 8) rfl
          have cX_g9_14 := X_g_14.out.cell (j := 9) rfl
          have cX_g10_14 := X_g_14.out.cell (j := 10) rfl
          have cX_g11_14 := X_g_14.out.cell (j := 11) rfl
          have cX_g12_14 := X_g_14.out.cell (j := 12) rfl
          have cX_h0_14 := X_h_14.out.cell (j := 0) rfl
          have cX_h1_14 := X_h_14.out.cell (j := 1) rfl
          have cX_h2_14 := X_h_14.out.cell (j := 2) rfl
          have cX_h3_14 := X_h_14.out.cell (j := 3) rfl
          have cX_h4_14 := X_h_14.out.cell (j := 4) rfl
          have cX_h5_14 := X_h_14.out.cell (j := 5) rfl
          have cX_h6_14 := X_h_14.out.cell (j := 6) rfl
          have cX_h7_14 := X_h_14.out.cell (j := 7) rfl
          have cX_h8_14 := X_h_14.out.cell (j := 8) rfl
          have cX_h9_14 := X_h_14.out.cell (j := 9) rfl
          have cX_h10_14 := X_h_14.out.cell (j := 10) rfl
          have cX_h11_14 := X_h_14.out.cell (j := 11) rfl
          have cX_h12_14 := X_h_14.out.cell (j := 12) rfl
          go_wp2_with fail
          refine Calls.mono (heldStream_any D v5 D.late.length c5 1 (by omega) hA2 _ (lates3 M_14.out (marksLate_length _ _))) ?_
          rintro e w15 ⟨rfl, b15⟩
          have O15 := hid b15.size
          have X_p_15 := hid (X_p_14.out.on b15 X_p_14.out.lt)
          have B_15 := hid (below_via B_14.out b15)
          have X_s_15 := hid (X_s_14.out.on b15 X_s_14.out.lt)
          have R_w_15 := hid (R_w_14.out.on b15)
          have X_w_15 := hid (X_w_14.out.on b15 X_w_14.out.lt)
          have X_x_15 := hid (X_x_14.out.on b15 X_x_14.out.lt)
          have X_g_15 := hid (X_g_14.out.on b15 X_g_14.out.lt)
          have M_15 := hid (M_14.out.on b15)
          have R_h_15 := hid (R_h_14.out.on b15)
          have X_h_15 := hid (X_h_14.out.on b15 X_h_14.out.lt)
          clear b15 X_p_14 B_14 X_s_14 R_w_14 X_w_14 X_x_14 X_g_14 M_14 R_h_14 X_h_14 cX_p0_14 cX_p1_14 cX_p2_14 cX_p3_14 cX_p4_14 cX_p5_14 cX_p6_14 cX_p7_14 cX_p8_14 cX_p9_14 cX_p10_14 cX_p11_14 cX_p12_14 cX_s0_14 cX_s1_14 cX_s2_14 cX_s3_14 cX_w0_14 cX_w1_14 cX_w2_14 cX_w3_14 cX_w4_14 cX_w5_14 cX_w6_14 cX_w7_14 cX_w8_14 cX_w9_14 cX_w10_14 cX_w11_14 cX_w12_14 cX_x0_14 cX_x1_14 cX_x2_14 cX_x3_14 cX_x4_14 cX_x5_14 cX_x6_14 cX_x7_14 cX_x8_14 cX_x9_14 cX_x10_14 cX_x11_14 cX_x12_14 cX_g0_14 cX_g1_14 cX_g2_14 cX_g3_14 cX_g4_14 cX_g5_14 cX_g6_14 cX_g7_14 cX_g8_14 cX_g9_14 cX_g10_14 cX_g11_14 cX_g12_14 cX_h0_14 cX_h1_14 cX_h2_14 cX_h3_14 cX_h4_14 cX_h5_14 cX_h6_14 cX_h7_14 cX_h8_14 cX_h9_14 cX_h10_14 cX_h11_14 cX_h12_14
          have cX_p0_15 := X_p_15.out.cell (j := 0) rfl
          have cX_p1_15 := X_p_15.out.cell (j := 1) rfl
          have cX_p2_15 := X_p_15.out.cell (j := 2) rfl
          have cX_p3_15 := X_p_15.out.cell (j := 3) rfl
          have cX_p4_15 := X_p_15.out.cell (j := 4) rfl
          have cX_p5_15 := X_p_15.out.cell (j := 5) rfl
          have cX_p6_15 := X_p_15.out.cell (j := 6) rfl
          have cX_p7_15 := X_p_15.out.cell (j := 7) rfl
          have cX_p8_15 := X_p_15.out.cell (j := 8) rfl
          have cX_p9_15 := X_p_15.out.cell (j := 9) rfl
          have cX_p10_15 := X_p_15.out.cell (j := 10) rfl
          have cX_p11_15 := X_p_15.out.cell (j := 11) rfl
          have cX_p12_15 := X_p_15.out.cell (j := 12) rfl
          have cX_s0_15 := X_s_15.out.cell (j := 0) rfl
          have cX_s1_15 := X_s_15.out.cell (j := 1) rfl
          have cX_s2_15 := X_s_15.out.cell (j := 2) rfl
          have cX_s3_15 := X_s_15.out.cell (j := 3) rfl
          have cX_w0_15 := X_w_15.out.cell (j := 0) rfl
          have cX_w1_15 := X_w_15.out.cell (j := 1) rfl
          have cX_w2_15 := X_w_15.out.cell (j := 2) rfl
          have cX_w3_15 := X_w_15.out.cell (j := 3) rfl
          have cX_w4_15 := X_w_15.out.cell (j := 4) rfl
          have cX_w5_15 := X_w_15.out.cell (j := 5) rfl
          have cX_w6_15 := X_w_15.out.cell (j := 6) rfl
          have cX_w7_15 := X_w_15.out.cell (j := 7) rfl
          have cX_w8_15 := X_w_15.out.cell (j := 8) rfl
          have cX_w9_15 := X_w_15.out.cell (j := 9) rfl
          have cX_w10_15 := X_w_15.out.cell (j := 10) rfl
          have cX_w11_15 := X_w_15.out.cell (j := 11) rfl
          have cX_w12_15 := X_w_15.out.cell (j := 12) rfl
          have cX_x0_15 := X_x_15.out.cell (j := 0) rfl
          have cX_x1_15 := X_x_15.out.cell (j := 1) rfl
          have cX_x2_15 := X_x_15.out.cell (j := 2) rfl
          have cX_x3_15 := X_x_15.out.cell (j := 3) rfl
          have cX_x4_15 := X_x_15.out.cell (j := 4) rfl
          have cX_x5_15 := X_x_15.out.cell (j := 5) rfl
          have cX_x6_15 := X_x_15.out.cell (j := 6) rfl
          have cX_x7_15 := X_x_15.out.cell (j := 7) rfl
          have cX_x8_15 := X_x_15.out.cell (j := 8) rfl
          have cX_x9_15 := X_x_15.out.cell (j := 9) rfl
          have cX_x10_15 := X_x_15.out.cell (j := 10) rfl
          have cX_x11_15 := X_x_15.out.cell (j := 11) rfl
          have cX_x12_15 := X_x_15.out.cell (j := 12) rfl
          have cX_g0_15 := X_g_15.out.cell (j := 0) rfl
          have cX_g1_15 := X_g_15.out.cell (j := 1) rfl
          have cX_g2_15 := X_g_15.out.cell (j := 2) rfl
          have cX_g3_15 := X_g_15.out.cell (j := 3) rfl
          have cX_g4_15 := X_g_15.out.cell (j := 4) rfl
          have cX_g5_15 := X_g_15.out.cell (j := 5) rfl
          have cX_g6_15 := X_g_15.out.cell (j := 6) rfl
          have cX_g7_15 := X_g_15.out.cell (j := 7) rfl
          have cX_g8_15 := X_g_15.out.cell (j := 8) rfl
          have cX_g9_15 := X_g_15.out.cell (j := 9) rfl
          have cX_g10_15 := X_g_15.out.cell (j := 10) rfl
          have cX_g11_15 := X_g_15.out.cell (j := 11) rfl
          have cX_g12_15 := X_g_15.out.cell (j := 12) rfl
          have cX_h0_15 := X_h_15.out.cell (j := 0) rfl
          have cX_h1_15 := X_h_15.out.cell (j := 1) rfl
          have cX_h2_15 := X_h_15.out.cell (j := 2) rfl
          have cX_h3_15 := X_h_15.out.cell (j := 3) rfl
          have cX_h4_15 := X_h_15.out.cell (j := 4) rfl
          have cX_h5_15 := X_h_15.out.cell (j := 5) rfl
          have cX_h6_15 := X_h_15.out.cell (j := 6) rfl
          have cX_h7_15 := X_h_15.out.cell (j := 7) rfl
          have cX_h8_15 := X_h_15.out.cell (j := 8) rfl
          have cX_h9_15 := X_h_15.out.cell (j := 9) rfl
          have cX_h10_15 := X_h_15.out.cell (j := 10) rfl
          have cX_h11_15 := X_h_15.out.cell (j := 11) rfl
          have cX_h12_15 := X_h_15.out.cell (j := 12) rfl
          go_wp2
          go_ret
          exact ⟨rfl, B_15.out⟩

theorem own : ownKnob Try.prog.godebug = none := by kernel_rfl
theorem laidOut : laidOutB Try.prog = true := by kernel_rfl
theorem rowed : varsRowed Try.prog Rows.fnExactHearSpec.vars = true := by kernel_rfl
set_option maxRecDepth 1000000 in
theorem contract (H : Type) (enc : TypeId × Value → H) (W : World) (base : Nat) (args : Array Value) (ds gs : List (DataW H)) (before : List MemPlace)
    (hval : ∀ (j : Nat) t v, Try.f3.params[j]? = some t → args[j]? = some v → Value.okWide Try.prog W .any base t v)
    (hW : DataW.Whole enc Try.prog Try.f3.params.toList Rows.fnExactHearSpec.vars false W args.toList ds gs before) (_hL : laidMetH Try.prog Rows.fnExactHearRow.laid W) :
    Calls Try.prog 3 args W fun e W' => ∃ v, e = .returned v ∧ Rows.fnExactHearSpec.post enc Try.prog Try.f3 false true false false W args v W' := by
  have hW' := hW
  obtain ⟨p, q, hA0, hV0, rfl, hfz, hnd⟩ := hW
  have hV : DataW.TrodVars enc Try.prog W (fun _ => true) Rows.fnExactHearSpec.vars gs q := hV0
  have hA : DataW.TrodAll enc Try.prog W 0 (fun _ => true) true Try.f3.params.toList args.toList ds p := hA0
  rw [Try.params3] at hA hval
  obtain ⟨v0, vs0, d0, ds0, p0, q0, hargs0, rfl, rfl, h0, r0⟩ := trodAll_cons hA
  obtain ⟨v1, vs1, d1, ds1, p1, q1, hargs1, rfl, rfl, h1, r1⟩ := trodAll_cons r0
  subst hargs1
  obtain ⟨rfl, rfl, rfl⟩ := trodAll_nil r1
  obtain rfl : args = #[v0, v1] := by cases args; simp_all
  have k0 := h0
  have lt0 : ∀ x ∈ p0, x.block < W.heap.size := by obtain ⟨m, hm⟩ := k0; exact DataW.trod_lt m _ _ _ hm
  obtain ⟨a0, ao0, cap0, rfl, hfd0, hc0, hm0, hat0, hfit0⟩ := open_str (hval 0 24 v0 rfl rfl) h0
  have k1 := h1
  have lt1 : ∀ x ∈ p1, x.block < W.heap.size := by obtain ⟨m, hm⟩ := k1; exact DataW.trod_lt m _ _ _ hm
  obtain ⟨a1, rfl, hf1⟩ := open_seg (hval 1 26 v1 rfl rfl) h1
  clear hA0 hV0
  obtain ⟨rfl, rfl⟩ := trodVars_none hV
  refine (walk a0 hfd0 ao0 cap0 (Nat.le_trans hc0 hm0) hfit0 a1 hf1 W hat0).mono fun e W' ⟨he, bel⟩ => ?_
  subst he
  exact ⟨_, rfl, _, _, _, [], _, [], hW', trodAll_mk1 (shut_bool Try.underlying4 _), trodAll_cons_mk (Below.trod laidOut (by kernel_rfl) (of_decide_eq_true (by kernel_rfl)) k0 bel lt0) (trodAll_cons_mk (Below.trod laidOut (by kernel_rfl) (of_decide_eq_true (by kernel_rfl)) k1 bel lt1) (trodAll_mk0)), rfl, bel.frame _, fun h => by cases h⟩

def put (cs : Array Value) : Obj → Obj
  | .cells _ t frozen => .cells cs t frozen
  | o => o

/-- a world for the witness: the tables hold what their initialisers lay -/
def laidWorld (w : World) : World := { w with heap := w.heap }
theorem laid_met (os : Os) : laidMet Try.prog Rows.fnExactHearRow.laid ((laidWorld (World.holding Try.prog os ⟨#[], #[], []⟩)).forCall (fun _ _ => 0) ⟨#[], #[.agg #[.int .i64 0, .int .i64 0, .int .i64 0, .int .i64 0, .string ByteArray.empty, .int .i64 0, .int .i64 0, .bool false, .string ByteArray.empty, .slice none 0 0, .bool false, .int .i64 0, .int .i64 0], .agg #[.int .i64 0, .int .i64 0, .int .i64 0, .string ByteArray.empty]], []⟩).memory :=
  laidMet_of_run' 8 (by kernel_rfl) (by kernel_rfl)
theorem reads (os : Os) {H : Type} (enc : TypeId × Value → H) : ∃ places, DataW.whole enc Try.prog ((laidWorld (World.holding Try.prog os ⟨#[], #[], []⟩)).forCall (fun _ _ => 0) ⟨#[], #[.agg #[.int .i64 0, .int .i64 0, .int .i64 0, .int .i64 0, .string ByteArray.empty, .int .i64 0, .int .i64 0, .bool false, .string ByteArray.empty, .slice none 0 0, .bool false, .int .i64 0, .int .i64 0], .agg #[.int .i64 0, .int .i64 0, .int .i64 0, .string ByteArray.empty]], []⟩).memory Try.f3.params.toList Rows.fnExactHearSpec.vars false #[Value.agg #[.int .i64 0, .int .i64 0, .int .i64 0, .int .i64 0, .string ByteArray.empty, .int .i64 0, .int .i64 0, .bool false, .string ByteArray.empty, .slice none 0 0, .bool false, .int .i64 0, .int .i64 0], .agg #[.int .i64 0, .int .i64 0, .int .i64 0, .string ByteArray.empty]].toList 8 = some ([.agg [.lit (.int .i64 0), .lit (.int .i64 0), .lit (.int .i64 0), .lit (.int .i64 0), .lit (.string []), .lit (.int .i64 0), .lit (.int .i64 0), .lit (.bool false), .lit (.string []), .nil, .lit (.bool false), .lit (.int .i64 0), .lit (.int .i64 0)], .agg [.lit (.int .i64 0), .lit (.int .i64 0), .lit (.int .i64 0), .lit (.string [])]], [], places) :=
  ⟨[], by kernel_rfl⟩

set_option maxRecDepth 1000000 in
theorem lifted (os : Os) (started : os.Started) (H : Type) (enc : TypeId × Value → H) (F : Stop.Interp) :
    ReturnsInHanded {} Try.checked os 3 .any ((OpenSpec.ofChange Rows.fnExactHearSpec).preRow enc Try.prog Try.f3 Rows.fnExactHearRow.domain false Rows.fnExactHearRow.laid) (((OpenSpec.ofChange Rows.fnExactHearSpec).at F).post enc Try.prog Try.f3 false true false false) := by
  obtain ⟨places, hx⟩ := reads os enc
  refine returnsInHanded_of_row (C := Try.checked) (s := OpenSpec.ofChange Rows.fnExactHearSpec) own started (by kernel_rfl) Try.func3
    (witness_row_at (enc := enc) (C := Try.checked) false (laidWorld (World.holding Try.prog os ⟨#[], #[], []⟩)) #[.agg #[.int .i64 0, .int .i64 0, .int .i64 0, .int .i64 0, .string ByteArray.empty, .int .i64 0, .int .i64 0, .bool false, .string ByteArray.empty, .slice none 0 0, .bool false, .int .i64 0, .int .i64 0], .agg #[.int .i64 0, .int .i64 0, .int .i64 0, .string ByteArray.empty]] rfl (by kernel_rfl) (by kernel_rfl) (by kernel_rfl)
      (OpenSpec.preRow_of_cond 8 hx (by kernel_rfl) (fun k hk => by cases hk) (by kernel_rfl) (laid_met os))) ?_
  intro W base args ds gs before hval hW _ _ _ hL _ _
  exact contract H enc W base args ds gs before hval hW hL

theorem said : Rows.FnExactHearSaid :=
  OpenClaim.holds_of_cond 3 Try.f3 rfl rfl rfl rfl rfl rfl rfl ⟨rfl, rfl, rfl, rfl, rfl⟩ rfl rfl rfl rfl rfl (by kernel_rfl) Try.func3 (by kernel_rfl)
    (of_decide_eq_true (by kernel_rfl)) (by unfold Func.isWrapper; first | (rw [if_pos (by decide +kernel)]; kernel_rfl) | (rw [if_neg (by decide +kernel)]; exact ⟨rfl, rfl⟩))
    (fun os started H enc _ F => by rw [OpenClaim.pre_eq_preRow]; exact lifted os started H enc F)

end Go.Proofs.Ytngcldjkpcmidaa.fnExactHear
