/-
  For every argument, laws.FnExactPerform returns true: impl.Perform and spec.Perform answer alike, the answer owns its memory, a second call answers so again; nothing that was in memory is written. The library's table that strconv.Itoa reads is tied to the program's text (the card).
-/
import Derived.Test.YtfejdoiohnbnnaaGreatDoorCards
import Derived.Test.YtfejdoiohnbnnaaGreatDoorTie
import Derived.Test.YtfejdoiohnbnnaaGreatDoorJoint1
import Derived.Test.YtfejdoiohnbnnaaGreatDoorJoint2
import Derived.Test.YtfejdoiohnbnnaaGreatDoorJoint5
import Derived.Test.YtfejdoiohnbnnaaGreatDoorJoint8
import Derived.Test.YtfejdoiohnbnnaaGreatDoorJoint11
import Derived.Test.YtfejdoiohnbnnaaGreatDoorJoint24
import Derived.Test.YtfejdoiohnbnnaaGreatDoorJoint45
import Derived.Test.YtfejdoiohnbnnaaGreatDoorJoint48
import Derived.Deep.RegionWith
import Derived.Deep.DeepCutAuto
import Derived.WalkSmall
import Derived.WalkKit
import Derived.ProofKit
import Derived.OpenShut
import Derived.OpenVars
import Derived.Deep.DeepHandedRow
import Derived.Lib.LaidTab
import Derived.Stop.LaidErr
namespace Go.Proofs.YtfejdoiohnbnnaaGreatDoor.fnExactPerform
open Go.ChangeShapes Go.WideShapes Go.ChangeAt Go.ChangeMaps Go.RowKit

theorem perf_small (ls : List SessionD) (li : List ItemD) (index : Int) (x : CommandD) : (performD ls li index x).ss.length ≤ 3 ∧ (performD ls li index x).is.length ≤ 8 := by
  unfold performD
  split
  · rename_i h
    obtain ⟨⟨_, _, h1⟩, _, _, h2⟩ := keep_facts (done_right h).1
    exact ⟨h1, h2⟩
  · exact ⟨Nat.zero_le _, Nat.zero_le _⟩
set_option maxRecDepth 1000000 in
set_option maxHeartbeats 16000000 in
theorem walk (ao : Option Addr) (ls : List SessionD) (ac : Nat) (hl : ls.length ≤ maxLen) (hf : SessionsFit ls) (bo : Option Addr) (li : List ItemD) (bc : Nat) (hl' : li.length ≤ maxLen) (hf' : ItemsFit li) (index : Int) (_hn : (Lit.int .i64 index).wf = true) (x : CommandD) (hx : x.Fits) (w : World) (ha : SessionsAt w ao ls) (hi : ItemsAt w bo li) (htab : Lib.TabIs Tryz.prog w "internal/strconv.uint64pow10" .u64 Lib.pow10Tab) :
    Calls Tryz.prog 3 #[.agg #[.slice ao ls.length ac, .slice bo li.length bc], .int .i64 index, .agg #[.int .i64 x.op, .int .i64 x.token, .int .i64 x.seq, .string x.key, .string x.val, .int .i64 x.ver]] w fun e w' => e = .returned (.bool true) ∧ Below w.heap.size w w' := by
  have HA := hid ha
  have HI := hid hi
  have HT := hid htab
  have hbb : Below w.heap.size w ((w.alloc (.cells #[.slice ao ls.length ac, .slice bo li.length bc] 25)).alloc (.cells #[.int .i64 x.op, .int .i64 x.token, .int .i64 x.seq, .string x.key, .string x.val, .int .i64 x.ver] 27)) := below_more (below_more (Below.refl w.heap.size w) _) _
  have hp : BlockIs ((w.alloc (.cells #[.slice ao ls.length ac, .slice bo li.length bc] 25)).alloc (.cells #[.int .i64 x.op, .int .i64 x.token, .int .i64 x.seq, .string x.key, .string x.val, .int .i64 x.ver] 27)) w.heap.size 25 [.slice ao ls.length ac, .slice bo li.length bc] := by
    show ((w.heap.push _).push _)[w.heap.size]? = some _
    rw [Array.getElem?_push, if_neg (by simp), Array.getElem?_push, if_pos rfl]
  have hs : BlockIs ((w.alloc (.cells #[.slice ao ls.length ac, .slice bo li.length bc] 25)).alloc (.cells #[.int .i64 x.op, .int .i64 x.token, .int .i64 x.seq, .string x.key, .string x.val, .int .i64 x.ver] 27)) (w.heap.size + 1) 27 [.int .i64 x.op, .int .i64 x.token, .int .i64 x.seq, .string x.key, .string x.val, .int .i64 x.ver] := by
    show ((w.heap.push _).push _)[w.heap.size + 1]? = some _
    rw [Array.getElem?_push, if_pos (by simp)]
  obtain ⟨W0, hW0⟩ : ∃ W, (w.alloc (.cells #[.slice ao ls.length ac, .slice bo li.length bc] 25)).alloc (.cells #[.int .i64 x.op, .int .i64 x.token, .int .i64 x.seq, .string x.key, .string x.val, .int .i64 x.ver] 27) = W := ⟨_, rfl⟩
  rw [hW0] at hbb hp hs
  have B0 := hid hbb
  have P0 := hid hp
  have Q0 := hid hs
  clear hbb hp hs ha hi htab
  have p0_0 := P0.out.cell (j := 0) rfl
  have p1_0 := P0.out.cell (j := 1) rfl
  go_enter Tryz.func3, Tryz.ntmps3
  go_wp2_with fail
  refine Calls.mono (szKeep_any ao bo ls li ac bc (by unfold maxLen at hl; omega) (by unfold maxLen at hl'; omega) hf hf' _ (HA.out.on B0.out) (HI.out.on B0.out)) ?_
  rintro e w1 ⟨hor, b1⟩
  have B1 := hid (below_via B0.out b1)
  have P1 := hid (P0.out.on b1 P0.out.lt)
  have Q1 := hid (Q0.out.on b1 Q0.out.lt)
  clear b1 B0 P0 Q0 p0_0 p1_0 hW0
  rcases hor with ⟨hneg, rfl⟩ | ⟨hnn, rfl⟩
  · clear P1 Q1
    go_wp2
    go_ret
    exact ⟨rfl, B1.out⟩
  have q1 := sessionBulk_nonneg ls
  have q2 := itemBulk_nonneg li
  have hl2 := (sessionsSmall (l := ls) (by unfold keepBulk at hnn; omega)).1
  have hl3 := (itemsSmall (l := li) (by unfold keepBulk at hnn; omega)).1
  have hkb : keepBulk ls li ≤ 1048576 ∧ 0 ≤ keepBulk ls li := by unfold keepBulk at hnn ⊢; omega
  clear q1 q2 hf hf' hl hl'
  have q0_1 := Q1.out.cell (j := 0) rfl
  have q1_1 := Q1.out.cell (j := 1) rfl
  have q2_1 := Q1.out.cell (j := 2) rfl
  have q3_1 := Q1.out.cell (j := 3) rfl
  have q4_1 := Q1.out.cell (j := 4) rfl
  have q5_1 := Q1.out.cell (j := 5) rfl
  have hnn' : ¬ (1048576 : Int) - keepBulk ls li < 0 := by omega
  go_wp2_with fail
  refine Calls.mono (szCommand_any x (1048576 - keepBulk ls li) (by omega) (by omega) hx _) ?_
  rintro e w2 ⟨hor2, b2⟩
  have B2 := hid (below_via B1.out b2)
  have P2 := hid (P1.out.on b2 P1.out.lt)
  have Q2 := hid (Q1.out.on b2 Q1.out.lt)
  clear b2 B1 P1 Q1 q0_1 q1_1 q2_1 q3_1 q4_1 q5_1 hnn'
  rcases hor2 with ⟨hneg, rfl⟩ | ⟨hnn2, rfl⟩
  · clear P2 Q2
    go_wp2
    go_ret
    exact ⟨rfl, B2.out⟩
  have hnn2' : ¬ (1048576 : Int) - keepBulk ls li - commandOne x < 0 := by omega
  have CS := hid (fun W sa sb sc sd (h1 : SessionsAt W sa ls) (h2 : ItemsAt W sb li) => specPerform_any sa sb ls li sc sd index x hl2 hl3 W h1 h2)
  have CI := hid (fun W sa sb sc sd (h0 : Lib.TabIs Tryz.prog W "internal/strconv.uint64pow10" .u64 Lib.pow10Tab) (h1 : SessionsAt W sa ls) (h2 : ItemsAt W sb li) => implPerform_any sa sb ls li sc sd index x hl2 hl3 W h0 h1 h2)
  unfold PerfDid at CS CI
  obtain ⟨hds, hdi⟩ := perf_small ls li index x
  obtain ⟨D, hD⟩ : ∃ D, performD ls li index x = D := ⟨_, rfl⟩
  rw [hD] at CS CI hds hdi
  clear hD hx
  go_upto_region 8 with fail
  go_cut [8, 9, 10] (fun c r f W => r = .string D.reply ∧ f = .bool D.ok ∧ Hid (Below w2.heap.size w2 W) ∧ ∃ (b : Nat) (va : Option Addr) (vc : Nat) (vb : Option Addr) (vd : Nat), c = .pointer (some ⟨b, 0, none⟩) ∧ Hid (w2.heap.size ≤ b ∧ BlockIs W b 33 [.slice va D.ss.length vc, .slice vb D.is.length vd] ∧ KRows W (w2.heap.size) (.slice va D.ss.length vc) (.slice vb D.is.length vd) D.ss D.is))
  case first =>
    refine wp_region_each (N := 135) (by kernel_rfl) (by kernel_rfl) rfl (by kernel_rfl) (fun W => Below w2.heap.size w2 W) (fun j v u W => match j with | 0 => v = .agg #[.slice ao ls.length ac, .slice bo li.length bc] | 1 => ∃ g h : Nat, v = .agg #[.slice (some ⟨g, 0, none⟩) ls.length ls.length, .slice (some ⟨h, 0, none⟩) li.length li.length] ∧ SessionsAt W (some ⟨g, 0, none⟩) ls ∧ ItemsAt W (some ⟨h, 0, none⟩) li | 2 => v = .int .i64 index | 3 => v = .agg #[.int .i64 x.op, .int .i64 x.token, .int .i64 x.seq, .string x.key, .string x.val, .int .i64 x.ver] | 4 => v = .agg #[.int .i64 x.op, .int .i64 x.token, .int .i64 x.seq, .string x.key, .string x.val, .int .i64 x.ver] | 5 => ∃ va vc vb vd, v = .tuple #[.agg #[.slice va D.ss.length vc, .slice vb D.is.length vd], .string D.reply, .bool D.ok] ∧ KRows W (w2.heap.size) (.slice va D.ss.length vc) (.slice vb D.is.length vd) D.ss D.is | 6 => ∃ va vc vb vd, v = .tuple #[.agg #[.slice va D.ss.length vc, .slice vb D.is.length vd], .string D.reply, .bool D.ok] ∧ KRows W (w2.heap.size) (.slice va D.ss.length vc) (.slice vb D.is.length vd) D.ss D.is | 7 => ∃ va vc vb vd, v = .agg #[.slice va D.ss.length vc, .slice vb D.is.length vd] ∧ KRows W (w2.heap.size) (.slice va D.ss.length vc) (.slice vb D.is.length vd) D.ss D.is | 8 => v = .string D.reply | 9 => v = .bool D.ok | 10 => ∃ b : Nat, v = .pointer (some ⟨b, 0, none⟩) ∧ w2.heap.size ≤ b ∧ BlockIs W b 33 [.slice none 0 0, .slice none 0 0] | 11 => ∃ (b : Nat) (va : Option Addr) (vc : Nat) (vb : Option Addr) (vd : Nat), u = .pointer (some ⟨b, 0, none⟩) ∧ w2.heap.size ≤ b ∧ BlockIs W b 33 [.slice va D.ss.length vc, .slice vb D.is.length vd] ∧ KRows W (w2.heap.size) (.slice va D.ss.length vc) (.slice vb D.is.length vd) D.ss D.is | 12 => v = .string D.reply | 13 => v = .bool D.ok | _ => True) (fun i => if i = 11 then 10 else i) (fun j i => decide ((j, i) ∈ ([(1, 11), (10, 11)] : List (Nat × Nat)))) (fun i X9 Y9 => (i ≠ 11 → Below X9.heap.size X9 Y9) ∧ ∀ g ty cs, BlockIs X9 g ty cs → ty ≠ 33 → BlockIs Y9 g ty cs) (fun i => if i = 11 then 8 else 0) (by kernel_rfl) (fun i hi => by have : 14 ≤ i := hi; simp; omega) ?_ (below_drewN (Below.refl _ _) 1) ?_ ?_
    · intro i j v u x9 y9 hij hdd hwt hxy hg
      match j, hg with
      | 0, hg => exact hg
      | 1, hg =>
        obtain ⟨g, h, e1, e2, e3⟩ := hg
        exact ⟨g, h, e1, e2.on (hxy.1 (fun e9 => by subst e9; simp at hdd)), e3.on (hxy.1 (fun e9 => by subst e9; simp at hdd))⟩
      | 2, hg => exact hg
      | 3, hg => exact hg
      | 4, hg => exact hg
      | 5, hg =>
        obtain ⟨va, vc, vb, vd, e1, e2⟩ := hg
        exact ⟨va, vc, vb, vd, e1, row_ext e2.1 fun g cs h => hxy.2 _ _ _ h (by decide), row_ext e2.2 fun g cs h => hxy.2 _ _ _ h (by decide)⟩
      | 6, hg =>
        obtain ⟨va, vc, vb, vd, e1, e2⟩ := hg
        exact ⟨va, vc, vb, vd, e1, row_ext e2.1 fun g cs h => hxy.2 _ _ _ h (by decide), row_ext e2.2 fun g cs h => hxy.2 _ _ _ h (by decide)⟩
      | 7, hg =>
        obtain ⟨va, vc, vb, vd, e1, e2⟩ := hg
        exact ⟨va, vc, vb, vd, e1, row_ext e2.1 fun g cs h => hxy.2 _ _ _ h (by decide), row_ext e2.2 fun g cs h => hxy.2 _ _ _ h (by decide)⟩
      | 8, hg => exact hg
      | 9, hg => exact hg
      | 10, hg =>
        obtain ⟨b, e1, e2, e3⟩ := hg
        exact ⟨b, e1, e2, e3.on (hxy.1 (fun e9 => by subst e9; simp at hdd)) e3.lt⟩
      | 11, hg =>
        obtain ⟨b, va, vc, vb, vd, e1, e2, e3, e4⟩ := hg
        exact ⟨b, va, vc, vb, vd, e1, e2, e3.on (hxy.1 hij) e3.lt, e4.on (hxy.1 hij)⟩
      | 12, hg => exact hg
      | 13, hg => exact hg
      | n + 14, _ => exact trivial
    · refine ⟨?_, ?_, ?_, ?_, ?_, ?_, ?_, ?_, ?_, ?_, ?_, ?_, ?_, ?_, trivial⟩
      · intro A W hC hg hb
        have h3 : A.eval (.tmp 3) = .pointer (some ⟨w.heap.size, 0, none⟩) := hb 3 (base_of (by kernel_rfl))
        have hk := P2.out.on hC P2.out.lt
        have hc0 := hk.cell (j := 0) rfl
        have hc1 := hk.cell (j := 1) rfl
        exact does_value (v := .agg #[.slice ao ls.length ac, .slice bo li.length bc]) (w' := W) (by simp only [execOp, h3]; simp [go_sem, hc0, hc1]) ⟨rfl, hC, fun _ => Below.refl _ _, fun _ _ _ h _ => h⟩
      · intro A W hC hg hb
        have h32 : A.eval (.tmp 32) = .agg #[.slice ao ls.length ac, .slice bo li.length bc] := hg 0 32 (by decide) rfl (by simp [Op.operands, Call.operands]) (by kernel_rfl) rfl
        simp [go_sem] at h32
        refine does_enter (f := 7) (args := #[.agg #[.slice ao ls.length ac, .slice bo li.length bc]]) (w' := W) (by simp [go_sem, h32]) ?_
        refine Calls.mono (toKeep_any ao bo ls li ac bc hl2 hl3 W (HA.out.on (below_via B2.out hC)) (HI.out.on (below_via B2.out hC))) ?_
        rintro e9 W' ⟨g, h, _, _, rfl, k1, k2, hb⟩
        exact ⟨_, rfl, ⟨g, h, rfl, sessionsAt_of (r := []) (by rw [List.append_nil]; exact k1), itemsAt_of (r := []) (by rw [List.append_nil]; exact k2)⟩, below_via hC hb, fun _ => hb, fun _ _ _ h _ => h.on hb h.lt⟩
      · intro A W hC hg hb
        have h1 : A.eval (.tmp 1) = .int .i64 index := hb 1 (base_of (by kernel_rfl))
        exact does_value (v := .int .i64 index) (w' := W) (by simp only [execOp, h1]; simp [go_sem]) ⟨rfl, hC, fun _ => Below.refl _ _, fun _ _ _ h _ => h⟩
      · intro A W hC hg hb
        have h5 : A.eval (.tmp 5) = .pointer (some ⟨w.heap.size + 1, 0, none⟩) := hb 5 (base_of (by kernel_rfl))
        have hk := Q2.out.on hC Q2.out.lt
        have hc0 := hk.cell (j := 0) rfl
        have hc1 := hk.cell (j := 1) rfl
        have hc2 := hk.cell (j := 2) rfl
        have hc3 := hk.cell (j := 3) rfl
        have hc4 := hk.cell (j := 4) rfl
        have hc5 := hk.cell (j := 5) rfl
        exact does_value (v := .agg #[.int .i64 x.op, .int .i64 x.token, .int .i64 x.seq, .string x.key, .string x.val, .int .i64 x.ver]) (w' := W) (by simp only [execOp, h5]; simp [go_sem, hc0, hc1, hc2, hc3, hc4, hc5]) ⟨rfl, hC, fun _ => Below.refl _ _, fun _ _ _ h _ => h⟩
      · intro A W hC hg hb
        have h35 : A.eval (.tmp 35) = .agg #[.int .i64 x.op, .int .i64 x.token, .int .i64 x.seq, .string x.key, .string x.val, .int .i64 x.ver] := hg 3 35 (by decide) rfl (by simp [Op.operands, Call.operands]) (by kernel_rfl) rfl
        simp [go_sem] at h35
        refine does_enter (f := 8) (args := #[.agg #[.int .i64 x.op, .int .i64 x.token, .int .i64 x.seq, .string x.key, .string x.val, .int .i64 x.ver]]) (w' := W) (by simp [go_sem, h35]) ?_
        refine Calls.mono (toCommand_any x W) ?_
        rintro e9 W' ⟨rfl, hb⟩
        exact ⟨_, rfl, rfl, below_via hC hb, fun _ => hb, fun _ _ _ h _ => h.on hb h.lt⟩
      · intro A W hC hg hb
        have g1 := hg 1 33 (by decide) rfl (by simp [Op.operands, Call.operands]) (by kernel_rfl) rfl
        have h34 : A.eval (.tmp 34) = .int .i64 index := hg 2 34 (by decide) rfl (by simp [Op.operands, Call.operands]) (by kernel_rfl) rfl
        have h36 : A.eval (.tmp 36) = .agg #[.int .i64 x.op, .int .i64 x.token, .int .i64 x.seq, .string x.key, .string x.val, .int .i64 x.ver] := hg 4 36 (by decide) rfl (by simp [Op.operands, Call.operands]) (by kernel_rfl) rfl
        obtain ⟨g, h, h33, hsa, hia⟩ := g1
        simp [go_sem] at h33 h34 h36
        refine does_enter (f := 6) (args := #[.agg #[.slice (some ⟨g, 0, none⟩) ls.length ls.length, .slice (some ⟨h, 0, none⟩) li.length li.length], .int .i64 index, .agg #[.int .i64 x.op, .int .i64 x.token, .int .i64 x.seq, .string x.key, .string x.val, .int .i64 x.ver]]) (w' := W) (by simp [go_sem, h33, h34, h36]) ?_
        refine Calls.mono (CS.out W _ _ _ _ hsa hia) ?_
        rintro e9 W' ⟨va, vc, vb, vd, rfl, hk, hb⟩
        exact ⟨_, rfl, ⟨va, vc, vb, vd, rfl, hk.down hC.size⟩, below_via hC hb, fun _ => hb, fun _ _ _ h _ => h.on hb h.lt⟩
      · intro A W hC hg hb
        have g5 := hg 5 37 (by decide) rfl (by simp [Op.operands]) (by kernel_rfl) rfl
        obtain ⟨va, vc, vb, vd, e8, hk⟩ := g5
        exact does_value (v := .tuple #[.agg #[.slice va D.ss.length vc, .slice vb D.is.length vd], .string D.reply, .bool D.ok]) (w' := W) (by simp only [execOp, e8]; simp [go_sem]) ⟨⟨va, vc, vb, vd, rfl, hk⟩, hC, fun _ => Below.refl _ _, fun _ _ _ h _ => h⟩
      · intro A W hC hg hb
        have g6 := hg 6 31 (by decide) rfl (by simp [Op.operands]) (by kernel_rfl) rfl
        obtain ⟨va, vc, vb, vd, e8, hk⟩ := g6
        exact does_value (v := .agg #[.slice va D.ss.length vc, .slice vb D.is.length vd]) (w' := W) (by simp only [execOp, e8]; simp [go_sem]) ⟨⟨va, vc, vb, vd, rfl, hk⟩, hC, fun _ => Below.refl _ _, fun _ _ _ h _ => h⟩
      · intro A W hC hg hb
        have g6 := hg 6 31 (by decide) rfl (by simp [Op.operands]) (by kernel_rfl) rfl
        obtain ⟨va, vc, vb, vd, e8, hk⟩ := g6
        exact does_value (v := .string D.reply) (w' := W) (by simp only [execOp, e8]; simp [go_sem]) ⟨rfl, hC, fun _ => Below.refl _ _, fun _ _ _ h _ => h⟩
      · intro A W hC hg hb
        have g6 := hg 6 31 (by decide) rfl (by simp [Op.operands]) (by kernel_rfl) rfl
        obtain ⟨va, vc, vb, vd, e8, hk⟩ := g6
        exact does_value (v := .bool D.ok) (w' := W) (by simp only [execOp, e8]; simp [go_sem]) ⟨rfl, hC, fun _ => Below.refl _ _, fun _ _ _ h _ => h⟩
      · intro A W hC hg hb
        have ba := below_more (Below.refl W.heap.size W) (.cells #[.slice none 0 0, .slice none 0 0] 33)
        exact does_value (v := .pointer (some ⟨W.heap.size, 0, none⟩)) (w' := W.alloc (.cells #[.slice none 0 0, .slice none 0 0] 33)) (by simp [execOp, go_sem]) ⟨⟨_, rfl, hC.size, heap_alloc_new W _⟩, below_via hC ba, fun _ => ba, fun _ _ _ h _ => h.on ba h.lt⟩
      · intro A W hC hg hb
        have g10 := hg 10 8 (by decide) rfl (by simp [Op.operands]) (by kernel_rfl) rfl
        have g7 := hg 7 38 (by decide) rfl (by simp [Op.operands]) (by kernel_rfl) rfl
        obtain ⟨va, vc, vb, vd, e8, hk⟩ := g7
        obtain ⟨b, e9, hbN, hX⟩ := g10
        have c0 := hX.cell (j := 0) rfl
        have c1 := hX.cell (j := 1) rfl
        have f0 := hX.thaw 0
        have f1 := hX.thaw 1
        have hX3 := (hX.set 0 (.slice va D.ss.length vc)).set 1 (.slice vb D.is.length vd)
        exact does_skip (w' := ((W.setCell ⟨b, 0, none⟩ (.slice va D.ss.length vc)).setCell ⟨b, 1, none⟩ (.slice vb D.is.length vd))) (by simp only [execOp, e9, e8]; simp [go_sem, c0, c1, f0, f1]) ⟨⟨b, va, vc, vb, vd, e9, hbN, hX3, (KRows.far (j := 0) hk hX (by decide) (by decide) _).far (j := 1) (hX.set 0 _) (by decide) (by decide) _⟩, (hC.setCell (by exact hbN) _).setCell (by exact hbN) _, fun hne => absurd rfl hne, fun g ty cs hq hne => (hq.far (fun e7 => by subst e7; exact hne (block_one hq hX).1) _).far (fun e7 => by subst e7; exact hne (block_one hq hX).1) _⟩
      · intro A W hC hg hb
        have h39 : A.eval (.tmp 39) = .string D.reply := hg 8 39 (by decide) rfl (by simp [Op.operands]) (by kernel_rfl) rfl
        exact does_value (v := .string D.reply) (w' := W) (by simp only [execOp, h39]; simp [go_sem]) ⟨rfl, hC, fun _ => Below.refl _ _, fun _ _ _ h _ => h⟩
      · intro A W hC hg hb
        have h40 : A.eval (.tmp 40) = .bool D.ok := hg 9 40 (by decide) rfl (by simp [Op.operands]) (by kernel_rfl) rfl
        exact does_value (v := .bool D.ok) (w' := W) (by simp only [execOp, h40]; simp [go_sem]) ⟨rfl, hC, fun _ => Below.refl _ _, fun _ _ _ h _ => h⟩
    · intro vs wE hC hg
      obtain ⟨b, va, vc, vb, vd, h1, h2, h3, h4⟩ := hg 11 (by decide) (fun k => by simp)
      have h1b : vs 10 = .pointer (some ⟨b, 0, none⟩) := h1
      have h2b : vs 12 = .string D.reply := hg 12 (by decide) (fun k => by simp)
      have h3b : vs 13 = .bool D.ok := hg 13 (by decide) (fun k => by simp)
      clear hg h1
      simp only [List.size_toArray, List.length_cons, List.length_nil, Nat.zero_add, Nat.reduceAdd]
      simp only [laidBy, if_true, dstAt, List.getElem?_toArray, List.getElem?_cons_succ, List.getElem?_cons_zero, Option.bind_some]
      simp only [Act.put, List.setIfInBounds_toArray, List.set_cons_succ, List.set_cons_zero]
      rw [h1b, h2b, h3b]
      go_wp2_with fail
      go_meet
      exact ⟨rfl, rfl, hC, b, va, vc, vb, vd, rfl, h2, h3, h4⟩
  case rest =>
    rename World => w3
    obtain ⟨rfl, rfl, HB3, bk3, va3, vc3, vb3, vd3, rfl, HC3⟩ := hcut
    have B3 := hid (below_via B2.out HB3.out)
    have P3 := hid (P2.out.on HB3.out P2.out.lt)
    have Q3 := hid (Q2.out.on HB3.out Q2.out.lt)
    have Y3 := hid HC3.out.2.1
    have R3 := hid (HC3.out.2.2.down (show w.heap.size ≤ _ from B2.out.size))
    have HW : Hid (∀ g, (Value.ownBlock (.slice va3 D.ss.length vc3) = some g ∨ Value.ownBlock (.slice vb3 D.is.length vd3) = some g) → g < w3.heap.size) := fun g hg => hg.elim (fun q => (R3.out.1.lt g q).2) (fun q => (R3.out.2.lt g q).2)
    clear HB3 HC3 B2 P2 Q2
    have p0_3 := P3.out.cell (j := 0) rfl
    have p1_3 := P3.out.cell (j := 1) rfl
    go_wp2_with fail
    refine Calls.mono (toKeep_any ao bo ls li ac bc hl2 hl3 _ (HA.out.on B3.out) (HI.out.on B3.out)) ?_
    rintro e w4 ⟨gx, hx, hgx, hhx, rfl, kx, jx, b4⟩
    have bn := below_more (Below.refl w4.heap.size w4) (.cells #[.slice (some ⟨gx, 0, none⟩) ls.length ls.length, .slice (some ⟨hx, 0, none⟩) li.length li.length] 33)
    have nn : BlockIs (w4.alloc (.cells #[.slice (some ⟨gx, 0, none⟩) ls.length ls.length, .slice (some ⟨hx, 0, none⟩) li.length li.length] 33)) w4.heap.size 33 [.slice (some ⟨gx, 0, none⟩) ls.length ls.length, .slice (some ⟨hx, 0, none⟩) li.length li.length] := heap_alloc_new w4 _
    have b4n := below_via b4 bn
    have kx5 := kx.on bn kx.lt
    have jx5 := jx.on bn jx.lt
    have hx5 : hx < w4.heap.size := jx.lt
    have hwx : w.heap.size ≤ w3.heap.size := B3.out.size
    obtain ⟨w5, hw5⟩ : ∃ W, w4.alloc (.cells #[.slice (some ⟨gx, 0, none⟩) ls.length ls.length, .slice (some ⟨hx, 0, none⟩) li.length li.length] 33) = W := ⟨_, rfl⟩
    rw [hw5] at bn nn b4n kx5 jx5
    have h45 : w4.heap.size ≤ w5.heap.size := bn.size
    have B5 := hid (below_via B3.out b4n)
    have P5 := hid (P3.out.on b4n P3.out.lt)
    have Q5 := hid (Q3.out.on b4n Q3.out.lt)
    have Y5 := hid (Y3.out.on b4n Y3.out.lt)
    have R5 := hid (R3.out.on b4n)
    have X5 := hid nn
    have KX := hid kx5
    have JX := hid jx5
    have SX := hid (sessionsAt_of (l := ls) (r := []) (by rw [List.append_nil]; exact kx5))
    have IX := hid (itemsAt_of (l := li) (r := []) (by rw [List.append_nil]; exact jx5))
    clear bn nn b4n kx5 jx5 kx jx b4 B3 P3 Q3 Y3 R3 p0_3 p1_3
    go_upto_region 10 with fail
    go_cut [12, 13, 14] (fun c r f W => r = .string D.reply ∧ f = .bool D.ok ∧ Hid (Below w5.heap.size w5 W) ∧ ∃ (b : Nat) (va : Option Addr) (vc : Nat) (vb : Option Addr) (vd : Nat), c = .pointer (some ⟨b, 0, none⟩) ∧ Hid (w5.heap.size ≤ b ∧ BlockIs W b 33 [.slice va D.ss.length vc, .slice vb D.is.length vd] ∧ KRows W (w5.heap.size) (.slice va D.ss.length vc) (.slice vb D.is.length vd) D.ss D.is))
    case first =>
      refine wp_region_each (N := 135) (by kernel_rfl) (by kernel_rfl) rfl (by kernel_rfl) (fun W => Below w5.heap.size w5 W) (fun j v u W => match j with | 0 => v = .agg #[.slice (some ⟨gx, 0, none⟩) ls.length ls.length, .slice (some ⟨hx, 0, none⟩) li.length li.length] | 1 => v = .int .i64 index | 2 => v = .agg #[.int .i64 x.op, .int .i64 x.token, .int .i64 x.seq, .string x.key, .string x.val, .int .i64 x.ver] | 3 => v = .agg #[.int .i64 x.op, .int .i64 x.token, .int .i64 x.seq, .string x.key, .string x.val, .int .i64 x.ver] | 4 => ∃ va vc vb vd, v = .tuple #[.agg #[.slice va D.ss.length vc, .slice vb D.is.length vd], .string D.reply, .bool D.ok] ∧ KRows W (w5.heap.size) (.slice va D.ss.length vc) (.slice vb D.is.length vd) D.ss D.is | 5 => ∃ va vc vb vd, v = .tuple #[.agg #[.slice va D.ss.length vc, .slice vb D.is.length vd], .string D.reply, .bool D.ok] ∧ KRows W (w5.heap.size) (.slice va D.ss.length vc) (.slice vb D.is.length vd) D.ss D.is | 6 => ∃ va vc vb vd, v = .agg #[.slice va D.ss.length vc, .slice vb D.is.length vd] ∧ KRows W (w5.heap.size) (.slice va D.ss.length vc) (.slice vb D.is.length vd) D.ss D.is | 7 => v = .string D.reply | 8 => v = .bool D.ok | 9 => ∃ b : Nat, v = .pointer (some ⟨b, 0, none⟩) ∧ w5.heap.size ≤ b ∧ BlockIs W b 33 [.slice none 0 0, .slice none 0 0] | 10 => ∃ (b : Nat) (va : Option Addr) (vc : Nat) (vb : Option Addr) (vd : Nat), u = .pointer (some ⟨b, 0, none⟩) ∧ w5.heap.size ≤ b ∧ BlockIs W b 33 [.slice va D.ss.length vc, .slice vb D.is.length vd] ∧ KRows W (w5.heap.size) (.slice va D.ss.length vc) (.slice vb D.is.length vd) D.ss D.is | 11 => v = .string D.reply | 12 => v = .bool D.ok | _ => True) (fun i => if i = 10 then 9 else i) (fun j i => decide ((j, i) ∈ ([(9, 10)] : List (Nat × Nat)))) (fun i X9 Y9 => (i ≠ 10 → Below X9.heap.size X9 Y9) ∧ ∀ g ty cs, BlockIs X9 g ty cs → ty ≠ 33 → BlockIs Y9 g ty cs) (fun i => if i = 10 then 12 else 0) (by kernel_rfl) (fun i hi => by have : 13 ≤ i := hi; simp; omega) ?_ (below_drewN (Below.refl _ _) 1) ?_ ?_
      · intro i j v u x9 y9 hij hdd hwt hxy hg
        match j, hg with
        | 0, hg => exact hg
        | 1, hg => exact hg
        | 2, hg => exact hg
        | 3, hg => exact hg
        | 4, hg =>
          obtain ⟨va, vc, vb, vd, e1, e2⟩ := hg
          exact ⟨va, vc, vb, vd, e1, row_ext e2.1 fun g cs h => hxy.2 _ _ _ h (by decide), row_ext e2.2 fun g cs h => hxy.2 _ _ _ h (by decide)⟩
        | 5, hg =>
          obtain ⟨va, vc, vb, vd, e1, e2⟩ := hg
          exact ⟨va, vc, vb, vd, e1, row_ext e2.1 fun g cs h => hxy.2 _ _ _ h (by decide), row_ext e2.2 fun g cs h => hxy.2 _ _ _ h (by decide)⟩
        | 6, hg =>
          obtain ⟨va, vc, vb, vd, e1, e2⟩ := hg
          exact ⟨va, vc, vb, vd, e1, row_ext e2.1 fun g cs h => hxy.2 _ _ _ h (by decide), row_ext e2.2 fun g cs h => hxy.2 _ _ _ h (by decide)⟩
        | 7, hg => exact hg
        | 8, hg => exact hg
        | 9, hg =>
          obtain ⟨b, e1, e2, e3⟩ := hg
          exact ⟨b, e1, e2, e3.on (hxy.1 (fun e9 => by subst e9; simp at hdd)) e3.lt⟩
        | 10, hg =>
          obtain ⟨b, va, vc, vb, vd, e1, e2, e3, e4⟩ := hg
          exact ⟨b, va, vc, vb, vd, e1, e2, e3.on (hxy.1 hij) e3.lt, e4.on (hxy.1 hij)⟩
        | 11, hg => exact hg
        | 12, hg => exact hg
        | n + 13, _ => exact trivial
      · refine ⟨?_, ?_, ?_, ?_, ?_, ?_, ?_, ?_, ?_, ?_, ?_, ?_, ?_, trivial⟩
        · intro A W hC hg hb
          have h11 : A.eval (.tmp 11) = .pointer (some ⟨w4.heap.size, 0, none⟩) := hb 11 (base_of (by kernel_rfl))
          have hk := X5.out.on hC X5.out.lt
          have hc0 := hk.cell (j := 0) rfl
          have hc1 := hk.cell (j := 1) rfl
          exact does_value (v := .agg #[.slice (some ⟨gx, 0, none⟩) ls.length ls.length, .slice (some ⟨hx, 0, none⟩) li.length li.length]) (w' := W) (by simp only [execOp, h11]; simp [go_sem, hc0, hc1]) ⟨rfl, hC, fun _ => Below.refl _ _, fun _ _ _ h _ => h⟩
        · intro A W hC hg hb
          have h1 : A.eval (.tmp 1) = .int .i64 index := hb 1 (base_of (by kernel_rfl))
          exact does_value (v := .int .i64 index) (w' := W) (by simp only [execOp, h1]; simp [go_sem]) ⟨rfl, hC, fun _ => Below.refl _ _, fun _ _ _ h _ => h⟩
        · intro A W hC hg hb
          have h5 : A.eval (.tmp 5) = .pointer (some ⟨w.heap.size + 1, 0, none⟩) := hb 5 (base_of (by kernel_rfl))
          have hk := Q5.out.on hC Q5.out.lt
          have hc0 := hk.cell (j := 0) rfl
          have hc1 := hk.cell (j := 1) rfl
          have hc2 := hk.cell (j := 2) rfl
          have hc3 := hk.cell (j := 3) rfl
          have hc4 := hk.cell (j := 4) rfl
          have hc5 := hk.cell (j := 5) rfl
          exact does_value (v := .agg #[.int .i64 x.op, .int .i64 x.token, .int .i64 x.seq, .string x.key, .string x.val, .int .i64 x.ver]) (w' := W) (by simp only [execOp, h5]; simp [go_sem, hc0, hc1, hc2, hc3, hc4, hc5]) ⟨rfl, hC, fun _ => Below.refl _ _, fun _ _ _ h _ => h⟩
        · intro A W hC hg hb
          have h46 : A.eval (.tmp 46) = .agg #[.int .i64 x.op, .int .i64 x.token, .int .i64 x.seq, .string x.key, .string x.val, .int .i64 x.ver] := hg 2 46 (by decide) rfl (by simp [Op.operands, Call.operands]) (by kernel_rfl) rfl
          simp [go_sem] at h46
          refine does_enter (f := 8) (args := #[.agg #[.int .i64 x.op, .int .i64 x.token, .int .i64 x.seq, .string x.key, .string x.val, .int .i64 x.ver]]) (w' := W) (by simp [go_sem, h46]) ?_
          refine Calls.mono (toCommand_any x W) ?_
          rintro e9 W' ⟨rfl, hb⟩
          exact ⟨_, rfl, rfl, below_via hC hb, fun _ => hb, fun _ _ _ h _ => h.on hb h.lt⟩
        · intro A W hC hg hb
          have h44 : A.eval (.tmp 44) = .agg #[.slice (some ⟨gx, 0, none⟩) ls.length ls.length, .slice (some ⟨hx, 0, none⟩) li.length li.length] := hg 0 44 (by decide) rfl (by simp [Op.operands, Call.operands]) (by kernel_rfl) rfl
          have h45 : A.eval (.tmp 45) = .int .i64 index := hg 1 45 (by decide) rfl (by simp [Op.operands, Call.operands]) (by kernel_rfl) rfl
          have h47 : A.eval (.tmp 47) = .agg #[.int .i64 x.op, .int .i64 x.token, .int .i64 x.seq, .string x.key, .string x.val, .int .i64 x.ver] := hg 3 47 (by decide) rfl (by simp [Op.operands, Call.operands]) (by kernel_rfl) rfl
          have hsa := SX.out.on hC
          have hia := IX.out.on hC
          simp [go_sem] at h44 h45 h47
          refine does_enter (f := 9) (args := #[.agg #[.slice (some ⟨gx, 0, none⟩) ls.length ls.length, .slice (some ⟨hx, 0, none⟩) li.length li.length], .int .i64 index, .agg #[.int .i64 x.op, .int .i64 x.token, .int .i64 x.seq, .string x.key, .string x.val, .int .i64 x.ver]]) (w' := W) (by simp [go_sem, h44, h45, h47]) ?_
          refine Calls.mono (CI.out W _ _ _ _ (table_low HT.out (below_via B5.out hC)) hsa hia) ?_
          rintro e9 W' ⟨va, vc, vb, vd, rfl, hk, hb⟩
          exact ⟨_, rfl, ⟨va, vc, vb, vd, rfl, hk.down hC.size⟩, below_via hC hb, fun _ => hb, fun _ _ _ h _ => h.on hb h.lt⟩
        · intro A W hC hg hb
          have g4 := hg 4 48 (by decide) rfl (by simp [Op.operands]) (by kernel_rfl) rfl
          obtain ⟨va, vc, vb, vd, e8, hk⟩ := g4
          exact does_value (v := .tuple #[.agg #[.slice va D.ss.length vc, .slice vb D.is.length vd], .string D.reply, .bool D.ok]) (w' := W) (by simp only [execOp, e8]; simp [go_sem]) ⟨⟨va, vc, vb, vd, rfl, hk⟩, hC, fun _ => Below.refl _ _, fun _ _ _ h _ => h⟩
        · intro A W hC hg hb
          have g5 := hg 5 43 (by decide) rfl (by simp [Op.operands]) (by kernel_rfl) rfl
          obtain ⟨va, vc, vb, vd, e8, hk⟩ := g5
          exact does_value (v := .agg #[.slice va D.ss.length vc, .slice vb D.is.length vd]) (w' := W) (by simp only [execOp, e8]; simp [go_sem]) ⟨⟨va, vc, vb, vd, rfl, hk⟩, hC, fun _ => Below.refl _ _, fun _ _ _ h _ => h⟩
        · intro A W hC hg hb
          have g5 := hg 5 43 (by decide) rfl (by simp [Op.operands]) (by kernel_rfl) rfl
          obtain ⟨va, vc, vb, vd, e8, hk⟩ := g5
          exact does_value (v := .string D.reply) (w' := W) (by simp only [execOp, e8]; simp [go_sem]) ⟨rfl, hC, fun _ => Below.refl _ _, fun _ _ _ h _ => h⟩
        · intro A W hC hg hb
          have g5 := hg 5 43 (by decide) rfl (by simp [Op.operands]) (by kernel_rfl) rfl
          obtain ⟨va, vc, vb, vd, e8, hk⟩ := g5
          exact does_value (v := .bool D.ok) (w' := W) (by simp only [execOp, e8]; simp [go_sem]) ⟨rfl, hC, fun _ => Below.refl _ _, fun _ _ _ h _ => h⟩
        · intro A W hC hg hb
          have ba := below_more (Below.refl W.heap.size W) (.cells #[.slice none 0 0, .slice none 0 0] 33)
          exact does_value (v := .pointer (some ⟨W.heap.size, 0, none⟩)) (w' := W.alloc (.cells #[.slice none 0 0, .slice none 0 0] 33)) (by simp [execOp, go_sem]) ⟨⟨_, rfl, hC.size, heap_alloc_new W _⟩, below_via hC ba, fun _ => ba, fun _ _ _ h _ => h.on ba h.lt⟩
        · intro A W hC hg hb
          have g9 := hg 9 12 (by decide) rfl (by simp [Op.operands]) (by kernel_rfl) rfl
          have g6 := hg 6 49 (by decide) rfl (by simp [Op.operands]) (by kernel_rfl) rfl
          obtain ⟨va, vc, vb, vd, e8, hk⟩ := g6
          obtain ⟨b, e9, hbN, hX⟩ := g9
          have c0 := hX.cell (j := 0) rfl
          have c1 := hX.cell (j := 1) rfl
          have f0 := hX.thaw 0
          have f1 := hX.thaw 1
          have hX3 := (hX.set 0 (.slice va D.ss.length vc)).set 1 (.slice vb D.is.length vd)
          exact does_skip (w' := ((W.setCell ⟨b, 0, none⟩ (.slice va D.ss.length vc)).setCell ⟨b, 1, none⟩ (.slice vb D.is.length vd))) (by simp only [execOp, e9, e8]; simp [go_sem, c0, c1, f0, f1]) ⟨⟨b, va, vc, vb, vd, e9, hbN, hX3, (KRows.far (j := 0) hk hX (by decide) (by decide) _).far (j := 1) (hX.set 0 _) (by decide) (by decide) _⟩, (hC.setCell (by exact hbN) _).setCell (by exact hbN) _, fun hne => absurd rfl hne, fun g ty cs hq hne => (hq.far (fun e7 => by subst e7; exact hne (block_one hq hX).1) _).far (fun e7 => by subst e7; exact hne (block_one hq hX).1) _⟩
        · intro A W hC hg hb
          have h50 : A.eval (.tmp 50) = .string D.reply := hg 7 50 (by decide) rfl (by simp [Op.operands]) (by kernel_rfl) rfl
          exact does_value (v := .string D.reply) (w' := W) (by simp only [execOp, h50]; simp [go_sem]) ⟨rfl, hC, fun _ => Below.refl _ _, fun _ _ _ h _ => h⟩
        · intro A W hC hg hb
          have h51 : A.eval (.tmp 51) = .bool D.ok := hg 8 51 (by decide) rfl (by simp [Op.operands]) (by kernel_rfl) rfl
          exact does_value (v := .bool D.ok) (w' := W) (by simp only [execOp, h51]; simp [go_sem]) ⟨rfl, hC, fun _ => Below.refl _ _, fun _ _ _ h _ => h⟩
      · intro vs wE hC hg
        obtain ⟨b, va, vc, vb, vd, h1, h2, h3, h4⟩ := hg 10 (by decide) (fun k => by simp)
        have h1b : vs 9 = .pointer (some ⟨b, 0, none⟩) := h1
        have h2b : vs 11 = .string D.reply := hg 11 (by decide) (fun k => by simp)
        have h3b : vs 12 = .bool D.ok := hg 12 (by decide) (fun k => by simp)
        clear hg h1
        simp only [List.size_toArray, List.length_cons, List.length_nil, Nat.zero_add, Nat.reduceAdd]
        simp only [laidBy, if_true, dstAt, List.getElem?_toArray, List.getElem?_cons_succ, List.getElem?_cons_zero, Option.bind_some]
        simp only [Act.put, List.setIfInBounds_toArray, List.set_cons_succ, List.set_cons_zero]
        rw [h1b, h2b, h3b]
        go_wp2_with fail
        go_meet
        exact ⟨rfl, rfl, hC, b, va, vc, vb, vd, rfl, h2, h3, h4⟩
    case rest =>
      rename World => w6
      obtain ⟨rfl, rfl, HB6, bk6, va6, vc6, vb6, vd6, rfl, HC6⟩ := hcut
      have B6 := hid (below_via B5.out HB6.out)
      have P6 := hid (P5.out.on HB6.out P5.out.lt)
      have Q6 := hid (Q5.out.on HB6.out Q5.out.lt)
      have Y6 := hid (Y5.out.on HB6.out Y5.out.lt)
      have R6 := hid (R5.out.on HB6.out)
      have X6 := hid (X5.out.on HB6.out X5.out.lt)
      have KX6 := hid (KX.out.on HB6.out KX.out.lt)
      have JX6 := hid (JX.out.on HB6.out JX.out.lt)
      have Z6 := hid HC6.out.2.1
      have G6 := hid HC6.out.2.2
      have HG : Hid (∀ g, (Value.ownBlock (.slice va6 D.ss.length vc6) = some g ∨ Value.ownBlock (.slice vb6 D.is.length vd6) = some g) → w5.heap.size ≤ g) := fun g hg => hg.elim (fun q => (G6.out.1.lt g q).1) (fun q => (G6.out.2.lt g q).1)
      clear HB6 HC6 B5 P5 Q5 Y5 R5 X5 KX JX SX IX hw5
      have hle : D.ss.length ≤ 140737488355328 := by omega
      have hle' : D.is.length ≤ 140737488355328 := by omega
      have p0_6 := P6.out.cell (j := 0) rfl
      have p1_6 := P6.out.cell (j := 1) rfl
      have y0_6 := Y6.out.cell (j := 0) rfl
      have y1_6 := Y6.out.cell (j := 1) rfl
      have x0_6 := X6.out.cell (j := 0) rfl
      have x1_6 := X6.out.cell (j := 1) rfl
      have z0_6 := Z6.out.cell (j := 0) rfl
      have z1_6 := Z6.out.cell (j := 1) rfl
      go_wp2_with fail
      refine Calls.mono (eqKeep_same va6 va3 vb6 vb3 D.ss D.is vc6 vc3 vd6 vd3 hle hle' _ (sessionR_at G6.out.1) (sessionR_at R6.out.1) (itemR_at G6.out.2) (itemR_at R6.out.2)) ?_
      rintro e w7 ⟨rfl, b7⟩
      have B7 := hid (below_via B6.out b7)
      have P7 := hid (P6.out.on b7 P6.out.lt)
      have Q7 := hid (Q6.out.on b7 Q6.out.lt)
      have Y7 := hid (Y6.out.on b7 Y6.out.lt)
      have X7 := hid (X6.out.on b7 X6.out.lt)
      have Z7 := hid (Z6.out.on b7 Z6.out.lt)
      have R7 := hid (R6.out.on b7)
      have G7 := hid (G6.out.on b7)
      have KX7 := hid (KX6.out.on b7 KX6.out.lt)
      have JX7 := hid (JX6.out.on b7 JX6.out.lt)
      clear b7 KX6 JX6 B6 P6 Q6 Y6 X6 Z6 R6 G6 p0_6 p1_6 y0_6 y1_6 x0_6 x1_6 z0_6 z1_6
      have p0_7 := P7.out.cell (j := 0) rfl
      have p1_7 := P7.out.cell (j := 1) rfl
      have y0_7 := Y7.out.cell (j := 0) rfl
      have y1_7 := Y7.out.cell (j := 1) rfl
      have x0_7 := X7.out.cell (j := 0) rfl
      have x1_7 := X7.out.cell (j := 1) rfl
      have z0_7 := Z7.out.cell (j := 0) rfl
      have z1_7 := Z7.out.cell (j := 1) rfl
      have CT : Hid (Calls Tryz.prog 7 #[.agg #[.slice ao ls.length ac, .slice bo li.length bc]] w7.drew fun e w8 => ∃ g8 h8, e = .returned (.agg #[.slice (some ⟨g8, 0, none⟩) ls.length ls.length, .slice (some ⟨h8, 0, none⟩) li.length li.length]) ∧ (w8.cell? ⟨w4.heap.size, 0, none⟩ = some (.slice (some ⟨gx, 0, none⟩) ls.length ls.length) ∧ w8.cell? ⟨w4.heap.size, 1, none⟩ = some (.slice (some ⟨hx, 0, none⟩) li.length li.length)) ∧ Hid (Below w7.heap.size w7 w8 ∧ (SessionsAt w8 (some ⟨gx, 0, none⟩) ls ∧ SessionsAt w8 (some ⟨g8, 0, none⟩) ls) ∧ ItemsAt w8 (some ⟨hx, 0, none⟩) li ∧ ItemsAt w8 (some ⟨h8, 0, none⟩) li)) := by
        have hd : Below w7.heap.size w7 w7.drew := below_drewN (Below.refl _ _) 1
        refine Calls.mono (toKeep_any ao bo ls li ac bc hl2 hl3 _ (HA.out.on (below_via B7.out hd)) (HI.out.on (below_via B7.out hd))) ?_
        rintro e w8 ⟨g8, h8, _, _, rfl, k8, j8, b8⟩
        have h78 := below_via hd b8
        have k6 := X7.out.on h78 X7.out.lt
        exact ⟨g8, h8, rfl, ⟨k6.cell (j := 0) rfl, k6.cell (j := 1) rfl⟩, h78, ⟨sessionsAt_of (r := []) (by rw [List.append_nil]; exact KX7.out.on h78 KX7.out.lt), sessionsAt_of (r := []) (by rw [List.append_nil]; exact k8)⟩, itemsAt_of (r := []) (by rw [List.append_nil]; exact JX7.out.on h78 JX7.out.lt), itemsAt_of (r := []) (by rw [List.append_nil]; exact j8)⟩
      have hsl : ls.length ≤ 140737488355328 := by omega
      have hil : li.length ≤ 140737488355328 := by omega
      have htt : (D.reply.toList == D.reply.toList) = true := beq_self_eq_true _
      have hbt : (D.ok == D.ok) = true := beq_self_eq_true _
      go_upto_region 13 with fail
      go_cut [70] (fun c W => c = .bool false ∧ Hid (Below w7.heap.size w7 W))
      case first =>
        go_region_with (first | (go_at_call 7; refine Calls.mono CT.out ?_; rintro e w8 ⟨g8, h8, rfl, ⟨y80, y81⟩, H8⟩) | (go_at_call 10; refine Calls.mono (eqKeep_same _ _ _ _ ls li _ _ _ _ hsl hil _ H8.out.2.1.1 H8.out.2.1.2 H8.out.2.2.1 H8.out.2.2.2) ?_; rintro e w9 ⟨rfl, b9⟩))
        all_goals
          go_wp2_with fail
          go_meet
          exact ⟨rfl, below_via H8.out.1 b9⟩
      case rest =>
        rename World => w10
        obtain ⟨rfl, HB10⟩ := hcut
        have B10 := hid (below_via B7.out HB10.out)
        have P10 := hid (P7.out.on HB10.out P7.out.lt)
        have Q10 := hid (Q7.out.on HB10.out Q7.out.lt)
        have Y10 := hid (Y7.out.on HB10.out Y7.out.lt)
        have X10 := hid (X7.out.on HB10.out X7.out.lt)
        have Z10 := hid (Z7.out.on HB10.out Z7.out.lt)
        have R10 := hid (R7.out.on HB10.out)
        have G10 := hid (G7.out.on HB10.out)
        have KX10 := hid (KX7.out.on HB10.out KX7.out.lt)
        have JX10 := hid (JX7.out.on HB10.out JX7.out.lt)
        clear HB10 CT KX7 JX7 B7 P7 Q7 Y7 X7 Z7 R7 G7 p0_7 p1_7 y0_7 y1_7 x0_7 x1_7 z0_7 z1_7
        have p0_10 := P10.out.cell (j := 0) rfl
        have p1_10 := P10.out.cell (j := 1) rfl
        have y0_10 := Y10.out.cell (j := 0) rfl
        have y1_10 := Y10.out.cell (j := 1) rfl
        have x0_10 := X10.out.cell (j := 0) rfl
        have x1_10 := X10.out.cell (j := 1) rfl
        have z0_10 := Z10.out.cell (j := 0) rfl
        have z1_10 := Z10.out.cell (j := 1) rfl
        have KXR := hid (show KRows w10 w3.heap.size (.slice (some ⟨gx, 0, none⟩) ls.length ls.length) (.slice (some ⟨hx, 0, none⟩) li.length li.length) ls li from ⟨row_of_blockK KX10.out (sessionCells_length ls) (by unfold maxLen; omega) (by omega), row_of_blockK JX10.out (itemCells_length li) (by unfold maxLen; omega) (by omega)⟩)
        go_wp2_with fail
        refine Calls.mono (markKeep_own w3.heap.size (some ⟨gx, 0, none⟩) (some ⟨hx, 0, none⟩) ls.length li.length ls li hl2 hl3 _ KXR.out) ?_
        rintro e w11 ⟨rfl, _, mk⟩
        have B11 := hid (mk.2.2 w (by omega) B10.out)
        have P11 := hid (mk.box P10.out KXR.out.1 KXR.out.2 (by decide) (by decide))
        have Q11 := hid (mk.box Q10.out KXR.out.1 KXR.out.2 (by decide) (by decide))
        have Y11 := hid (mk.box Y10.out KXR.out.1 KXR.out.2 (by decide) (by decide))
        have X11 := hid (mk.box X10.out KXR.out.1 KXR.out.2 (by decide) (by decide))
        have Z11 := hid (mk.box Z10.out KXR.out.1 KXR.out.2 (by decide) (by decide))
        have R11 := hid (mk.rows R10.out (fun g hg => by have := HW.out g hg; constructor <;> (intro e; simp [Value.ownBlock] at e; omega)))
        have G11 := hid (mk.rows G10.out (fun g hg => by have := HG.out g hg; constructor <;> (intro e; simp [Value.ownBlock] at e; omega)))
        have hk11 : ¬ ((1 + 3 * ls.length + 3 * li.length : Nat) : Int) < 0 := by omega
        obtain ⟨K1, hK1⟩ : ∃ K : Nat, 1 + 3 * ls.length + 3 * li.length = K := ⟨_, rfl⟩
        rw [hK1] at hk11 ⊢
        clear hK1 mk KXR KX10 JX10 B10 P10 Q10 Y10 X10 Z10 R10 G10 p0_10 p1_10 y0_10 y1_10 x0_10 x1_10 z0_10 z1_10
        have p0_11 := P11.out.cell (j := 0) rfl
        have p1_11 := P11.out.cell (j := 1) rfl
        have y0_11 := Y11.out.cell (j := 0) rfl
        have y1_11 := Y11.out.cell (j := 1) rfl
        have x0_11 := X11.out.cell (j := 0) rfl
        have x1_11 := X11.out.cell (j := 1) rfl
        have z0_11 := Z11.out.cell (j := 0) rfl
        have z1_11 := Z11.out.cell (j := 1) rfl
        go_wp2_with fail
        refine Calls.mono (eqKeep_same va6 va3 vb6 vb3 D.ss D.is vc6 vc3 vd6 vd3 hle hle' _ (sessionR_at G11.out.1) (sessionR_at R11.out.1) (itemR_at G11.out.2) (itemR_at R11.out.2)) ?_
        rintro e w12 ⟨rfl, b12⟩
        have B12 := hid (below_via B11.out b12)
        have P12 := hid (P11.out.on b12 P11.out.lt)
        have Q12 := hid (Q11.out.on b12 Q11.out.lt)
        have Y12 := hid (Y11.out.on b12 Y11.out.lt)
        have X12 := hid (X11.out.on b12 X11.out.lt)
        have Z12 := hid (Z11.out.on b12 Z11.out.lt)
        have R12 := hid (R11.out.on b12)
        have G12 := hid (G11.out.on b12)
        clear b12 B11 P11 Q11 Y11 X11 Z11 R11 G11 p0_11 p1_11 y0_11 y1_11 x0_11 x1_11 z0_11 z1_11
        have p0_12 := P12.out.cell (j := 0) rfl
        have p1_12 := P12.out.cell (j := 1) rfl
        have y0_12 := Y12.out.cell (j := 0) rfl
        have y1_12 := Y12.out.cell (j := 1) rfl
        have x0_12 := X12.out.cell (j := 0) rfl
        have x1_12 := X12.out.cell (j := 1) rfl
        have z0_12 := Z12.out.cell (j := 0) rfl
        have z1_12 := Z12.out.cell (j := 1) rfl
        go_wp2_with fail
        refine Calls.mono (markKeep_own w5.heap.size va6 vb6 vc6 vd6 D.ss D.is (by omega) (by omega) _ G12.out) ?_
        rintro e w13 ⟨rfl, ⟨ms, mi⟩, mk⟩
        have B13 := hid (mk.2.2 w (by omega) B12.out)
        have P13 := hid (mk.box P12.out G12.out.1 G12.out.2 (by decide) (by decide))
        have Q13 := hid (mk.box Q12.out G12.out.1 G12.out.2 (by decide) (by decide))
        have Y13 := hid (mk.box Y12.out G12.out.1 G12.out.2 (by decide) (by decide))
        have X13 := hid (mk.box X12.out G12.out.1 G12.out.2 (by decide) (by decide))
        have Z13 := hid (mk.box Z12.out G12.out.1 G12.out.2 (by decide) (by decide))
        have R13 := hid (mk.rows R12.out (fun g hg => by have h1 := HW.out g hg; constructor <;> (intro e; have h2 := HG.out g (by first | exact Or.inl e | exact Or.inr e); omega)))
        have MS13 := hid ms
        have MI13 := hid mi
        clear ms mi mk B12 P12 Q12 Y12 X12 Z12 R12 G12 p0_12 p1_12 y0_12 y1_12 x0_12 x1_12 z0_12 z1_12
        have p0_13 := P13.out.cell (j := 0) rfl
        have p1_13 := P13.out.cell (j := 1) rfl
        have y0_13 := Y13.out.cell (j := 0) rfl
        have y1_13 := Y13.out.cell (j := 1) rfl
        have z0_13 := Z13.out.cell (j := 0) rfl
        have z1_13 := Z13.out.cell (j := 1) rfl
        have hmk : ¬ ((1 + 3 * D.ss.length + 3 * D.is.length : Nat) : Int) < 0 := by omega
        have HS := hid (fun W (h1 : SessionsAt W va6 (marksSession 1 D.ss.length)) (h2 : ItemsAt W vb6 (marksItem (1 + 3 * D.ss.length) D.is.length)) => heldKeep_own va6 vb6 D.ss.length D.is.length vc6 vd6 (by omega) (by omega) W h1 h2)
        obtain ⟨K2, hK2⟩ : ∃ K : Nat, 1 + 3 * D.ss.length + 3 * D.is.length = K := ⟨_, rfl⟩
        rw [hK2] at hmk HS ⊢
        clear hK2
        go_wp2_with fail
        refine Calls.mono (HS.out _ (sessionR_at (l := marksSession 1 D.ss.length) (by rw [marksSession_length]; exact MS13.out)) (itemR_at (l := marksItem (1 + 3 * D.ss.length) D.is.length) (by rw [marksItem_length]; exact MI13.out))) ?_
        rintro e w14 ⟨rfl, b14⟩
        have B14 := hid (below_via B13.out b14)
        have P14 := hid (P13.out.on b14 P13.out.lt)
        have Q14 := hid (Q13.out.on b14 Q13.out.lt)
        have Y14 := hid (Y13.out.on b14 Y13.out.lt)
        have Z14 := hid (Z13.out.on b14 Z13.out.lt)
        have R14 := hid (R13.out.on b14)
        have MS14 := hid (row_onK MS13.out b14)
        have MI14 := hid (row_onK MI13.out b14)
        clear b14 X13 B13 P13 Q13 Y13 Z13 R13 MS13 MI13 p0_13 p1_13 y0_13 y1_13 z0_13 z1_13
        have p0_14 := P14.out.cell (j := 0) rfl
        have p1_14 := P14.out.cell (j := 1) rfl
        have y0_14 := Y14.out.cell (j := 0) rfl
        have y1_14 := Y14.out.cell (j := 1) rfl
        have z0_14 := Z14.out.cell (j := 0) rfl
        have z1_14 := Z14.out.cell (j := 1) rfl
        go_upto_region 27 with fail
        go_cut [18, 19, 20] (fun c r f W => r = .string D.reply ∧ f = .bool D.ok ∧ Hid (Below w14.heap.size w14 W) ∧ ∃ (b : Nat) (va : Option Addr) (vc : Nat) (vb : Option Addr) (vd : Nat), c = .pointer (some ⟨b, 0, none⟩) ∧ Hid (w14.heap.size ≤ b ∧ BlockIs W b 33 [.slice va D.ss.length vc, .slice vb D.is.length vd] ∧ KRows W (w14.heap.size) (.slice va D.ss.length vc) (.slice vb D.is.length vd) D.ss D.is))
        case first =>
          refine wp_region_each (N := 135) (by kernel_rfl) (by kernel_rfl) rfl (by kernel_rfl) (fun W => Below w14.heap.size w14 W) (fun j v u W => match j with | 0 => v = .agg #[.slice ao ls.length ac, .slice bo li.length bc] | 1 => ∃ g h : Nat, v = .agg #[.slice (some ⟨g, 0, none⟩) ls.length ls.length, .slice (some ⟨h, 0, none⟩) li.length li.length] ∧ SessionsAt W (some ⟨g, 0, none⟩) ls ∧ ItemsAt W (some ⟨h, 0, none⟩) li | 2 => v = .int .i64 index | 3 => v = .agg #[.int .i64 x.op, .int .i64 x.token, .int .i64 x.seq, .string x.key, .string x.val, .int .i64 x.ver] | 4 => v = .agg #[.int .i64 x.op, .int .i64 x.token, .int .i64 x.seq, .string x.key, .string x.val, .int .i64 x.ver] | 5 => ∃ va vc vb vd, v = .tuple #[.agg #[.slice va D.ss.length vc, .slice vb D.is.length vd], .string D.reply, .bool D.ok] ∧ KRows W (w14.heap.size) (.slice va D.ss.length vc) (.slice vb D.is.length vd) D.ss D.is | 6 => ∃ va vc vb vd, v = .tuple #[.agg #[.slice va D.ss.length vc, .slice vb D.is.length vd], .string D.reply, .bool D.ok] ∧ KRows W (w14.heap.size) (.slice va D.ss.length vc) (.slice vb D.is.length vd) D.ss D.is | 7 => ∃ va vc vb vd, v = .agg #[.slice va D.ss.length vc, .slice vb D.is.length vd] ∧ KRows W (w14.heap.size) (.slice va D.ss.length vc) (.slice vb D.is.length vd) D.ss D.is | 8 => v = .string D.reply | 9 => v = .bool D.ok | 10 => ∃ b : Nat, v = .pointer (some ⟨b, 0, none⟩) ∧ w14.heap.size ≤ b ∧ BlockIs W b 33 [.slice none 0 0, .slice none 0 0] | 11 => ∃ (b : Nat) (va : Option Addr) (vc : Nat) (vb : Option Addr) (vd : Nat), u = .pointer (some ⟨b, 0, none⟩) ∧ w14.heap.size ≤ b ∧ BlockIs W b 33 [.slice va D.ss.length vc, .slice vb D.is.length vd] ∧ KRows W (w14.heap.size) (.slice va D.ss.length vc) (.slice vb D.is.length vd) D.ss D.is | 12 => v = .string D.reply | 13 => v = .bool D.ok | _ => True) (fun i => if i = 11 then 10 else i) (fun j i => decide ((j, i) ∈ ([(1, 11), (10, 11)] : List (Nat × Nat)))) (fun i X9 Y9 => (i ≠ 11 → Below X9.heap.size X9 Y9) ∧ ∀ g ty cs, BlockIs X9 g ty cs → ty ≠ 33 → BlockIs Y9 g ty cs) (fun i => if i = 11 then 18 else 0) (by kernel_rfl) (fun i hi => by have : 14 ≤ i := hi; simp; omega) ?_ (below_drewN (Below.refl _ _) 1) ?_ ?_
          · intro i j v u x9 y9 hij hdd hwt hxy hg
            match j, hg with
            | 0, hg => exact hg
            | 1, hg =>
              obtain ⟨g, h, e1, e2, e3⟩ := hg
              exact ⟨g, h, e1, e2.on (hxy.1 (fun e9 => by subst e9; simp at hdd)), e3.on (hxy.1 (fun e9 => by subst e9; simp at hdd))⟩
            | 2, hg => exact hg
            | 3, hg => exact hg
            | 4, hg => exact hg
            | 5, hg =>
              obtain ⟨va, vc, vb, vd, e1, e2⟩ := hg
              exact ⟨va, vc, vb, vd, e1, row_ext e2.1 fun g cs h => hxy.2 _ _ _ h (by decide), row_ext e2.2 fun g cs h => hxy.2 _ _ _ h (by decide)⟩
            | 6, hg =>
              obtain ⟨va, vc, vb, vd, e1, e2⟩ := hg
              exact ⟨va, vc, vb, vd, e1, row_ext e2.1 fun g cs h => hxy.2 _ _ _ h (by decide), row_ext e2.2 fun g cs h => hxy.2 _ _ _ h (by decide)⟩
            | 7, hg =>
              obtain ⟨va, vc, vb, vd, e1, e2⟩ := hg
              exact ⟨va, vc, vb, vd, e1, row_ext e2.1 fun g cs h => hxy.2 _ _ _ h (by decide), row_ext e2.2 fun g cs h => hxy.2 _ _ _ h (by decide)⟩
            | 8, hg => exact hg
            | 9, hg => exact hg
            | 10, hg =>
              obtain ⟨b, e1, e2, e3⟩ := hg
              exact ⟨b, e1, e2, e3.on (hxy.1 (fun e9 => by subst e9; simp at hdd)) e3.lt⟩
            | 11, hg =>
              obtain ⟨b, va, vc, vb, vd, e1, e2, e3, e4⟩ := hg
              exact ⟨b, va, vc, vb, vd, e1, e2, e3.on (hxy.1 hij) e3.lt, e4.on (hxy.1 hij)⟩
            | 12, hg => exact hg
            | 13, hg => exact hg
            | n + 14, _ => exact trivial
          · refine ⟨?_, ?_, ?_, ?_, ?_, ?_, ?_, ?_, ?_, ?_, ?_, ?_, ?_, ?_, trivial⟩
            · intro A W hC hg hb
              have h3 : A.eval (.tmp 3) = .pointer (some ⟨w.heap.size, 0, none⟩) := hb 3 (base_of (by kernel_rfl))
              have hk := P14.out.on hC P14.out.lt
              have hc0 := hk.cell (j := 0) rfl
              have hc1 := hk.cell (j := 1) rfl
              exact does_value (v := .agg #[.slice ao ls.length ac, .slice bo li.length bc]) (w' := W) (by simp only [execOp, h3]; simp [go_sem, hc0, hc1]) ⟨rfl, hC, fun _ => Below.refl _ _, fun _ _ _ h _ => h⟩
            · intro A W hC hg hb
              have h104 : A.eval (.tmp 104) = .agg #[.slice ao ls.length ac, .slice bo li.length bc] := hg 0 104 (by decide) rfl (by simp [Op.operands, Call.operands]) (by kernel_rfl) rfl
              simp [go_sem] at h104
              refine does_enter (f := 7) (args := #[.agg #[.slice ao ls.length ac, .slice bo li.length bc]]) (w' := W) (by simp [go_sem, h104]) ?_
              refine Calls.mono (toKeep_any ao bo ls li ac bc hl2 hl3 W (HA.out.on (below_via B14.out hC)) (HI.out.on (below_via B14.out hC))) ?_
              rintro e9 W' ⟨g, h, _, _, rfl, k1, k2, hb⟩
              exact ⟨_, rfl, ⟨g, h, rfl, sessionsAt_of (r := []) (by rw [List.append_nil]; exact k1), itemsAt_of (r := []) (by rw [List.append_nil]; exact k2)⟩, below_via hC hb, fun _ => hb, fun _ _ _ h _ => h.on hb h.lt⟩
            · intro A W hC hg hb
              have h1 : A.eval (.tmp 1) = .int .i64 index := hb 1 (base_of (by kernel_rfl))
              exact does_value (v := .int .i64 index) (w' := W) (by simp only [execOp, h1]; simp [go_sem]) ⟨rfl, hC, fun _ => Below.refl _ _, fun _ _ _ h _ => h⟩
            · intro A W hC hg hb
              have h5 : A.eval (.tmp 5) = .pointer (some ⟨w.heap.size + 1, 0, none⟩) := hb 5 (base_of (by kernel_rfl))
              have hk := Q14.out.on hC Q14.out.lt
              have hc0 := hk.cell (j := 0) rfl
              have hc1 := hk.cell (j := 1) rfl
              have hc2 := hk.cell (j := 2) rfl
              have hc3 := hk.cell (j := 3) rfl
              have hc4 := hk.cell (j := 4) rfl
              have hc5 := hk.cell (j := 5) rfl
              exact does_value (v := .agg #[.int .i64 x.op, .int .i64 x.token, .int .i64 x.seq, .string x.key, .string x.val, .int .i64 x.ver]) (w' := W) (by simp only [execOp, h5]; simp [go_sem, hc0, hc1, hc2, hc3, hc4, hc5]) ⟨rfl, hC, fun _ => Below.refl _ _, fun _ _ _ h _ => h⟩
            · intro A W hC hg hb
              have h107 : A.eval (.tmp 107) = .agg #[.int .i64 x.op, .int .i64 x.token, .int .i64 x.seq, .string x.key, .string x.val, .int .i64 x.ver] := hg 3 107 (by decide) rfl (by simp [Op.operands, Call.operands]) (by kernel_rfl) rfl
              simp [go_sem] at h107
              refine does_enter (f := 8) (args := #[.agg #[.int .i64 x.op, .int .i64 x.token, .int .i64 x.seq, .string x.key, .string x.val, .int .i64 x.ver]]) (w' := W) (by simp [go_sem, h107]) ?_
              refine Calls.mono (toCommand_any x W) ?_
              rintro e9 W' ⟨rfl, hb⟩
              exact ⟨_, rfl, rfl, below_via hC hb, fun _ => hb, fun _ _ _ h _ => h.on hb h.lt⟩
            · intro A W hC hg hb
              have g1 := hg 1 105 (by decide) rfl (by simp [Op.operands, Call.operands]) (by kernel_rfl) rfl
              have h106 : A.eval (.tmp 106) = .int .i64 index := hg 2 106 (by decide) rfl (by simp [Op.operands, Call.operands]) (by kernel_rfl) rfl
              have h108 : A.eval (.tmp 108) = .agg #[.int .i64 x.op, .int .i64 x.token, .int .i64 x.seq, .string x.key, .string x.val, .int .i64 x.ver] := hg 4 108 (by decide) rfl (by simp [Op.operands, Call.operands]) (by kernel_rfl) rfl
              obtain ⟨g, h, h105, hsa, hia⟩ := g1
              simp [go_sem] at h105 h106 h108
              refine does_enter (f := 9) (args := #[.agg #[.slice (some ⟨g, 0, none⟩) ls.length ls.length, .slice (some ⟨h, 0, none⟩) li.length li.length], .int .i64 index, .agg #[.int .i64 x.op, .int .i64 x.token, .int .i64 x.seq, .string x.key, .string x.val, .int .i64 x.ver]]) (w' := W) (by simp [go_sem, h105, h106, h108]) ?_
              refine Calls.mono (CI.out W _ _ _ _ (table_low HT.out (below_via B14.out hC)) hsa hia) ?_
              rintro e9 W' ⟨va, vc, vb, vd, rfl, hk, hb⟩
              exact ⟨_, rfl, ⟨va, vc, vb, vd, rfl, hk.down hC.size⟩, below_via hC hb, fun _ => hb, fun _ _ _ h _ => h.on hb h.lt⟩
            · intro A W hC hg hb
              have g5 := hg 5 109 (by decide) rfl (by simp [Op.operands]) (by kernel_rfl) rfl
              obtain ⟨va, vc, vb, vd, e8, hk⟩ := g5
              exact does_value (v := .tuple #[.agg #[.slice va D.ss.length vc, .slice vb D.is.length vd], .string D.reply, .bool D.ok]) (w' := W) (by simp only [execOp, e8]; simp [go_sem]) ⟨⟨va, vc, vb, vd, rfl, hk⟩, hC, fun _ => Below.refl _ _, fun _ _ _ h _ => h⟩
            · intro A W hC hg hb
              have g6 := hg 6 103 (by decide) rfl (by simp [Op.operands]) (by kernel_rfl) rfl
              obtain ⟨va, vc, vb, vd, e8, hk⟩ := g6
              exact does_value (v := .agg #[.slice va D.ss.length vc, .slice vb D.is.length vd]) (w' := W) (by simp only [execOp, e8]; simp [go_sem]) ⟨⟨va, vc, vb, vd, rfl, hk⟩, hC, fun _ => Below.refl _ _, fun _ _ _ h _ => h⟩
            · intro A W hC hg hb
              have g6 := hg 6 103 (by decide) rfl (by simp [Op.operands]) (by kernel_rfl) rfl
              obtain ⟨va, vc, vb, vd, e8, hk⟩ := g6
              exact does_value (v := .string D.reply) (w' := W) (by simp only [execOp, e8]; simp [go_sem]) ⟨rfl, hC, fun _ => Below.refl _ _, fun _ _ _ h _ => h⟩
            · intro A W hC hg hb
              have g6 := hg 6 103 (by decide) rfl (by simp [Op.operands]) (by kernel_rfl) rfl
              obtain ⟨va, vc, vb, vd, e8, hk⟩ := g6
              exact does_value (v := .bool D.ok) (w' := W) (by simp only [execOp, e8]; simp [go_sem]) ⟨rfl, hC, fun _ => Below.refl _ _, fun _ _ _ h _ => h⟩
            · intro A W hC hg hb
              have ba := below_more (Below.refl W.heap.size W) (.cells #[.slice none 0 0, .slice none 0 0] 33)
              exact does_value (v := .pointer (some ⟨W.heap.size, 0, none⟩)) (w' := W.alloc (.cells #[.slice none 0 0, .slice none 0 0] 33)) (by simp [execOp, go_sem]) ⟨⟨_, rfl, hC.size, heap_alloc_new W _⟩, below_via hC ba, fun _ => ba, fun _ _ _ h _ => h.on ba h.lt⟩
            · intro A W hC hg hb
              have g10 := hg 10 18 (by decide) rfl (by simp [Op.operands]) (by kernel_rfl) rfl
              have g7 := hg 7 110 (by decide) rfl (by simp [Op.operands]) (by kernel_rfl) rfl
              obtain ⟨va, vc, vb, vd, e8, hk⟩ := g7
              obtain ⟨b, e9, hbN, hX⟩ := g10
              have c0 := hX.cell (j := 0) rfl
              have c1 := hX.cell (j := 1) rfl
              have f0 := hX.thaw 0
              have f1 := hX.thaw 1
              have hX3 := (hX.set 0 (.slice va D.ss.length vc)).set 1 (.slice vb D.is.length vd)
              exact does_skip (w' := ((W.setCell ⟨b, 0, none⟩ (.slice va D.ss.length vc)).setCell ⟨b, 1, none⟩ (.slice vb D.is.length vd))) (by simp only [execOp, e9, e8]; simp [go_sem, c0, c1, f0, f1]) ⟨⟨b, va, vc, vb, vd, e9, hbN, hX3, (KRows.far (j := 0) hk hX (by decide) (by decide) _).far (j := 1) (hX.set 0 _) (by decide) (by decide) _⟩, (hC.setCell (by exact hbN) _).setCell (by exact hbN) _, fun hne => absurd rfl hne, fun g ty cs hq hne => (hq.far (fun e7 => by subst e7; exact hne (block_one hq hX).1) _).far (fun e7 => by subst e7; exact hne (block_one hq hX).1) _⟩
            · intro A W hC hg hb
              have h111 : A.eval (.tmp 111) = .string D.reply := hg 8 111 (by decide) rfl (by simp [Op.operands]) (by kernel_rfl) rfl
              exact does_value (v := .string D.reply) (w' := W) (by simp only [execOp, h111]; simp [go_sem]) ⟨rfl, hC, fun _ => Below.refl _ _, fun _ _ _ h _ => h⟩
            · intro A W hC hg hb
              have h112 : A.eval (.tmp 112) = .bool D.ok := hg 9 112 (by decide) rfl (by simp [Op.operands]) (by kernel_rfl) rfl
              exact does_value (v := .bool D.ok) (w' := W) (by simp only [execOp, h112]; simp [go_sem]) ⟨rfl, hC, fun _ => Below.refl _ _, fun _ _ _ h _ => h⟩
          · intro vs wE hC hg
            obtain ⟨b, va, vc, vb, vd, h1, h2, h3, h4⟩ := hg 11 (by decide) (fun k => by simp)
            have h1b : vs 10 = .pointer (some ⟨b, 0, none⟩) := h1
            have h2b : vs 12 = .string D.reply := hg 12 (by decide) (fun k => by simp)
            have h3b : vs 13 = .bool D.ok := hg 13 (by decide) (fun k => by simp)
            clear hg h1
            simp only [List.size_toArray, List.length_cons, List.length_nil, Nat.zero_add, Nat.reduceAdd]
            simp only [laidBy, if_true, dstAt, List.getElem?_toArray, List.getElem?_cons_succ, List.getElem?_cons_zero, Option.bind_some]
            simp only [Act.put, List.setIfInBounds_toArray, List.set_cons_succ, List.set_cons_zero]
            rw [h1b, h2b, h3b]
            go_wp2_with fail
            go_meet
            exact ⟨rfl, rfl, hC, b, va, vc, vb, vd, rfl, h2, h3, h4⟩
        case rest =>
          rename World => w15
          obtain ⟨rfl, rfl, HB15, bk15, va15, vc15, vb15, vd15, rfl, HC15⟩ := hcut
          have B15 := hid (below_via B14.out HB15.out)
          have P15 := hid (P14.out.on HB15.out P14.out.lt)
          have Q15 := hid (Q14.out.on HB15.out Q14.out.lt)
          have Y15 := hid (Y14.out.on HB15.out Y14.out.lt)
          have Z15 := hid (Z14.out.on HB15.out Z14.out.lt)
          have R15 := hid (R14.out.on HB15.out)
          have MS15 := hid (row_onK MS14.out HB15.out)
          have MI15 := hid (row_onK MI14.out HB15.out)
          have V15 := hid HC15.out.2.1
          have H15 := hid HC15.out.2.2
          clear HB15 HC15 B14 P14 Q14 Y14 Z14 R14 MS14 MI14 p0_14 p1_14 y0_14 y1_14 z0_14 z1_14
          have p0_15 := P15.out.cell (j := 0) rfl
          have p1_15 := P15.out.cell (j := 1) rfl
          have y0_15 := Y15.out.cell (j := 0) rfl
          have y1_15 := Y15.out.cell (j := 1) rfl
          have z0_15 := Z15.out.cell (j := 0) rfl
          have z1_15 := Z15.out.cell (j := 1) rfl
          have v0_15 := V15.out.cell (j := 0) rfl
          have v1_15 := V15.out.cell (j := 1) rfl
          go_wp2_with fail
          refine Calls.mono (eqKeep_same va15 va3 vb15 vb3 D.ss D.is vc15 vc3 vd15 vd3 hle hle' _ (sessionR_at H15.out.1) (sessionR_at R15.out.1) (itemR_at H15.out.2) (itemR_at R15.out.2)) ?_
          rintro e w16 ⟨rfl, b16⟩
          have B16 := hid (below_via B15.out b16)
          have P16 := hid (P15.out.on b16 P15.out.lt)
          have Q16 := hid (Q15.out.on b16 Q15.out.lt)
          have Y16 := hid (Y15.out.on b16 Y15.out.lt)
          have Z16 := hid (Z15.out.on b16 Z15.out.lt)
          have R16 := hid (R15.out.on b16)
          have MS16 := hid (row_onK MS15.out b16)
          have MI16 := hid (row_onK MI15.out b16)
          clear b16 V15 H15 v0_15 v1_15 B15 P15 Q15 Y15 Z15 R15 MS15 MI15 p0_15 p1_15 y0_15 y1_15 z0_15 z1_15
          have p0_16 := P16.out.cell (j := 0) rfl
          have p1_16 := P16.out.cell (j := 1) rfl
          have y0_16 := Y16.out.cell (j := 0) rfl
          have y1_16 := Y16.out.cell (j := 1) rfl
          have z0_16 := Z16.out.cell (j := 0) rfl
          have z1_16 := Z16.out.cell (j := 1) rfl
          go_wp2_with fail
          refine Calls.mono (HS.out _ (sessionR_at (l := marksSession 1 D.ss.length) (by rw [marksSession_length]; exact MS16.out)) (itemR_at (l := marksItem (1 + 3 * D.ss.length) D.is.length) (by rw [marksItem_length]; exact MI16.out))) ?_
          rintro e w17 ⟨rfl, b17⟩
          have B17 := hid (below_via B16.out b17)
          clear b17 B16 P16 Q16 Y16 Z16 R16 MS16 MI16 p0_16 p1_16 y0_16 y1_16 z0_16 z1_16 HS HA HI HT
          go_wp2
          go_ret
          exact ⟨rfl, B17.out⟩

theorem own : ownKnob Tryz.prog.godebug = none := by kernel_rfl
theorem laidOut : laidOutB Tryz.prog = true := by kernel_rfl
theorem rowed : varsRowed Tryz.prog Rows.fnExactPerformSpec.vars = true := by kernel_rfl
/-- what the row's list gives: what internal/strconv.uint64pow10 holds -/
theorem table0 {W : World} (h : laidMetH Tryz.prog Rows.fnExactPerformRow.laid W) : Lib.TabIs Tryz.prog W "internal/strconv.uint64pow10" .u64 Lib.pow10Tab := by
  have h1 : laidMet Tryz.prog Rows.fnExactPerformRow.laid W := h
  unfold Rows.fnExactPerformRow at h1
  have h2 := h1.tail.tail
  rw [show (Rows.laid_internal_strconv_uint64pow10 : DataW Unit) = Lib.tabData .u64 Lib.pow10Tab by kernel_rfl] at h2
  exact Lib.tabIs_of_head (show Tryz.prog.globalNamed "internal/strconv.uint64pow10" = some 0 by kernel_rfl) (show (Tryz.prog.globals[0]?).map (·.type) = some 155 by kernel_rfl) Tryz.underlying155 Tryz.underlying129 (show Tryz.prog.cellsOf 129 = 1 by kernel_rfl) (show Tryz.prog.cellsOf 155 = 20 by kernel_rfl) h2
set_option maxRecDepth 1000000 in
theorem contract (H : Type) (enc : TypeId × Value → H) (W : World) (base : Nat) (args : Array Value) (ds gs : List (DataW H)) (before : List MemPlace)
    (hval : ∀ (j : Nat) t v, Tryz.f3.params[j]? = some t → args[j]? = some v → Value.okWide Tryz.prog W .any base t v)
    (hW : DataW.Whole enc Tryz.prog Tryz.f3.params.toList Rows.fnExactPerformSpec.vars false W args.toList ds gs before) (hL : laidMetH Tryz.prog Rows.fnExactPerformRow.laid W) :
    Calls Tryz.prog 3 args W fun e W' => ∃ v, e = .returned v ∧ Rows.fnExactPerformSpec.post enc Tryz.prog Tryz.f3 false true false false W args v W' := by
  have hW' := hW
  obtain ⟨p, q, hA0, hV0, rfl, hfz, hnd⟩ := hW
  have hV : DataW.TrodVars enc Tryz.prog W (fun _ => true) Rows.fnExactPerformSpec.vars gs q := hV0
  have hA : DataW.TrodAll enc Tryz.prog W 0 (fun _ => true) true Tryz.f3.params.toList args.toList ds p := hA0
  rw [Tryz.params3] at hA hval
  obtain ⟨v0, vs0, d0, ds0, p0, q0, hargs0, rfl, rfl, h0, r0⟩ := trodAll_cons hA
  obtain ⟨v1, vs1, d1, ds1, p1, q1, hargs1, rfl, rfl, h1, r1⟩ := trodAll_cons r0
  subst hargs1
  obtain ⟨v2, vs2, d2, ds2, p2, q2, hargs2, rfl, rfl, h2, r2⟩ := trodAll_cons r1
  subst hargs2
  obtain ⟨rfl, rfl, rfl⟩ := trodAll_nil r2
  obtain rfl : args = #[v0, v1, v2] := by cases args; simp_all
  have k0 := h0
  have lt0 : ∀ x ∈ p0, x.block < W.heap.size := by obtain ⟨m, hm⟩ := k0; exact DataW.trod_lt m _ _ _ hm
  obtain ⟨a0, l0, ac0, b0, m0, bc0, rfl, ⟨hc0, hm0, hat0, hfit0⟩, hd0, hn0, hbt0, hgit0⟩ := open_keep (hval 0 25 v0 rfl rfl) h0
  obtain ⟨a1, rfl, rfl, rfl, w1⟩ := open_int Tryz.underlying3 (hval 1 3 v1 rfl rfl) h1
  have k2 := h2
  have lt2 : ∀ x ∈ p2, x.block < W.heap.size := by obtain ⟨m, hm⟩ := k2; exact DataW.trod_lt m _ _ _ hm
  obtain ⟨a2, rfl, hf2⟩ := open_command (hval 2 27 v2 rfl rfl) h2
  clear hA0 hV0
  obtain ⟨rfl, rfl⟩ := trodVars_none hV
  refine (walk a0 l0 ac0 (Nat.le_trans hc0 hm0) hfit0 b0 m0 bc0 (Nat.le_trans hd0 hn0) hgit0 a1 w1 a2 hf2 W hat0 hbt0 (table0 hL)).mono fun e W' ⟨he, bel⟩ => ?_
  subst he
  exact ⟨_, rfl, _, _, _, [], _, [], hW', trodAll_mk1 (shut_bool Tryz.underlying4 _), trodAll_cons_mk (Below.trod laidOut (by kernel_rfl) (of_decide_eq_true (by kernel_rfl)) k0 bel lt0) (trodAll_cons_mk (shut_int Tryz.underlying3 w1) (trodAll_cons_mk (Below.trod laidOut (by kernel_rfl) (of_decide_eq_true (by kernel_rfl)) k2 bel lt2) (trodAll_mk0))), rfl, bel.frame _, fun h => by cases h⟩

def put (cs : Array Value) : Obj → Obj
  | .cells _ t frozen => .cells cs t frozen
  | o => o

/-- a world for the witness: the tables hold what their initialisers lay -/
def laidWorld (w : World) : World := { w with heap := (((w.heap.modify 1 (put (([0, 1, 28, 2, 29, 14, 24, 3, 30, 22, 20, 15, 25, 17, 4, 8, 31, 27, 13, 23, 21, 19, 16, 7, 26, 12, 18, 6, 11, 5, 10, 9] : List Int).map (Value.int .u8)).toArray)).modify 2 (put (([0, 1, 56, 2, 57, 49, 28, 3, 61, 58, 42, 50, 38, 29, 17, 4, 62, 47, 59, 36, 45, 43, 51, 22, 53, 39, 33, 30, 24, 18, 12, 5, 63, 55, 48, 27, 60, 41, 37, 16, 46, 35, 44, 21, 52, 32, 23, 11, 54, 26, 40, 15, 34, 20, 31, 10, 25, 14, 19, 9, 13, 8, 7, 6] : List Int).map (Value.int .u8)).toArray)).modify 0 (put (([1, 10, 100, 1000, 10000, 100000, 1000000, 10000000, 100000000, 1000000000, 10000000000, 100000000000, 1000000000000, 10000000000000, 100000000000000, 1000000000000000, 10000000000000000, 100000000000000000, 1000000000000000000, 10000000000000000000] : List Int).map (Value.int .u64)).toArray)) }
theorem laid_met (os : Os) : laidMet Tryz.prog Rows.fnExactPerformRow.laid ((laidWorld (World.holding Tryz.prog os ⟨#[], #[], []⟩)).forCall (fun _ _ => 0) ⟨#[], #[.agg #[.slice none 0 0, .slice none 0 0], .int .i64 0, .agg #[.int .i64 0, .int .i64 0, .int .i64 0, .string ByteArray.empty, .string ByteArray.empty, .int .i64 0]], []⟩).memory :=
  laidMet_of_run' 8 (by kernel_rfl) (by kernel_rfl)
theorem reads (os : Os) {H : Type} (enc : TypeId × Value → H) : ∃ places, DataW.whole enc Tryz.prog ((laidWorld (World.holding Tryz.prog os ⟨#[], #[], []⟩)).forCall (fun _ _ => 0) ⟨#[], #[.agg #[.slice none 0 0, .slice none 0 0], .int .i64 0, .agg #[.int .i64 0, .int .i64 0, .int .i64 0, .string ByteArray.empty, .string ByteArray.empty, .int .i64 0]], []⟩).memory Tryz.f3.params.toList Rows.fnExactPerformSpec.vars false #[Value.agg #[.slice none 0 0, .slice none 0 0], .int .i64 0, .agg #[.int .i64 0, .int .i64 0, .int .i64 0, .string ByteArray.empty, .string ByteArray.empty, .int .i64 0]].toList 8 = some ([.agg [.nil, .nil], .lit (.int .i64 0), .agg [.lit (.int .i64 0), .lit (.int .i64 0), .lit (.int .i64 0), .lit (.string []), .lit (.string []), .lit (.int .i64 0)]], [], places) :=
  ⟨[], by kernel_rfl⟩

set_option maxRecDepth 1000000 in
theorem lifted (os : Os) (started : os.Started) (H : Type) (enc : TypeId × Value → H) (F : Stop.Interp) :
    ReturnsInHanded {} Tryz.checked os 3 .any ((OpenSpec.ofChange Rows.fnExactPerformSpec).preRow enc Tryz.prog Tryz.f3 Rows.fnExactPerformRow.domain false Rows.fnExactPerformRow.laid) (((OpenSpec.ofChange Rows.fnExactPerformSpec).at F).post enc Tryz.prog Tryz.f3 false true false false) := by
  obtain ⟨places, hx⟩ := reads os enc
  refine returnsInHanded_of_row (C := Tryz.checked) (s := OpenSpec.ofChange Rows.fnExactPerformSpec) own started (by kernel_rfl) Tryz.func3
    (witness_row_at (enc := enc) (C := Tryz.checked) false (laidWorld (World.holding Tryz.prog os ⟨#[], #[], []⟩)) #[.agg #[.slice none 0 0, .slice none 0 0], .int .i64 0, .agg #[.int .i64 0, .int .i64 0, .int .i64 0, .string ByteArray.empty, .string ByteArray.empty, .int .i64 0]] rfl (by kernel_rfl) (by kernel_rfl) (by kernel_rfl)
      (OpenSpec.preRow_of_cond 8 hx (by kernel_rfl) (fun k hk => by cases hk) (by kernel_rfl) (laid_met os))) ?_
  intro W base args ds gs before hval hW _ _ _ hL _ _
  exact contract H enc W base args ds gs before hval hW hL

theorem said : Rows.FnExactPerformSaid :=
  OpenClaim.holds_of_cond 3 Tryz.f3 rfl rfl rfl rfl rfl rfl rfl ⟨rfl, rfl, rfl, rfl, rfl⟩ rfl rfl rfl rfl rfl (by kernel_rfl) Tryz.func3 (by kernel_rfl)
    (of_decide_eq_true (by kernel_rfl)) (by unfold Func.isWrapper; first | (rw [if_pos (by decide +kernel)]; kernel_rfl) | (rw [if_neg (by decide +kernel)]; exact ⟨rfl, rfl⟩))
    (fun os started H enc _ F => by rw [OpenClaim.pre_eq_preRow]; exact lifted os started H enc F)

theorem plain (f : FuncId) (fn : Func) (hf : Tryz.pinned.checked.prog.funcNamed "loop.example/g00232/laws.FnExactPerform" = some f) (hfn : Tryz.pinned.checked.prog.funcs[f]? = some fn) :
    false = Tryz.pinned.checked.prog.looks [] ∧ ∀ (j : Nat) t, fn.params[j]? = some t → Tryz.pinned.checked.prog.wantsStandIn t = false := by
  obtain rfl : f = 3 := Option.some.inj ((show Tryz.prog.funcNamed "loop.example/g00232/laws.FnExactPerform" = some 3 by kernel_rfl).symm.trans hf) |>.symm
  obtain rfl : fn = Tryz.f3 := (Option.some.inj (Tryz.func3.symm.trans hfn)).symm
  refine ⟨by kernel_rfl, fun j t ht => ?_⟩
  rw [Tryz.params3] at ht
  rcases (show t = 25 ∨ t = 3 ∨ t = 27 by simpa using Array.mem_of_getElem? ht) with rfl | rfl | rfl
  · exact (show Tryz.prog.wantsStandIn 25 = false by kernel_rfl)
  · exact (show Tryz.prog.wantsStandIn 3 = false by kernel_rfl)
  · exact (show Tryz.prog.wantsStandIn 27 = false by kernel_rfl)

theorem card : Rows.FnExactPerformCardSaid :=
  Claim7.holds_tied_plain_at .later [] _ _ _ _ said (fun _ h => by cases h) (by kernel_rfl) (fun _ h => by cases h) fnExactPerform_row_tie rfl ⟨rfl, rfl⟩ (by kernel_rfl) rfl plain (by kernel_rfl)
end Go.Proofs.YtfejdoiohnbnnaaGreatDoor.fnExactPerform
