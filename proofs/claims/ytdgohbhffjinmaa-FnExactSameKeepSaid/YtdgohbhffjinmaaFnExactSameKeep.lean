/-
  For every two keeps, laws.FnExactSameKeep returns true: impl and spec answer alike; nothing that was in memory is written.
-/
import Derived.Test.YtdgohbhffjinmaaRows
import Derived.Test.YtdgohbhffjinmaaOpenKeep
import Derived.Test.YtdgohbhffjinmaaSzKeepN
import Derived.Test.YtdgohbhffjinmaaToKeep
import Derived.Test.YtdgohbhffjinmaaEqKeep
import Derived.Test.YtdgohbhffjinmaaSameKeepS
import Derived.Test.YtdgohbhffjinmaaSameKeepI
import Derived.Test.YtdgohbhffjinmaaAnyOrder
import Derived.WalkSmall
import Derived.WalkKit
import Derived.ProofKit
import Derived.OpenShut
import Derived.OpenVars
import Derived.Deep.DeepHandedRow
import Derived.Lib.LaidTab
import Derived.Stop.LaidErr
namespace Go.Proofs.Ytdgohbhffjinmaa.fnExactSameKeep
open Go.ChangeShapes Go.WideShapes Go.ChangeAt Go.ChangeMaps Go.RowKit

set_option maxRecDepth 1000000 in
set_option maxHeartbeats 4000000 in
theorem walk (ao : Option Addr) (ls : List SessionD) (ac : Nat) (hl : ls.length ≤ maxLen) (hf : SessionsFit ls) (bo : Option Addr) (li : List ItemD) (bc : Nat) (hl' : li.length ≤ maxLen) (hf' : ItemsFit li) (co : Option Addr) (ms : List SessionD) (cc : Nat) (hm : ms.length ≤ maxLen) (hmf : SessionsFit ms) (eo : Option Addr) (mi : List ItemD) (ec : Nat) (hm' : mi.length ≤ maxLen) (hmf' : ItemsFit mi) (w : World) (ha : SessionsAt w ao ls) (hi : ItemsAt w bo li) (hc : SessionsAt w co ms) (hd : ItemsAt w eo mi) :
    Calls Try.prog 5 #[.agg #[.slice ao ls.length ac, .slice bo li.length bc], .agg #[.slice co ms.length cc, .slice eo mi.length ec]] w fun e w' => e = .returned (.bool true) ∧ Below w.heap.size w w' := by
  have h2 := two_blocks w (.cells #[.slice ao ls.length ac, .slice bo li.length bc] 39) (.cells #[.slice co ms.length cc, .slice eo mi.length ec] 39)
  have XA : Hid (BlockIs _ w.heap.size 39 [.slice ao ls.length ac, .slice bo li.length bc]) := h2.2.2.1
  have XB : Hid (BlockIs _ (w.heap.size + 1) 39 [.slice co ms.length cc, .slice eo mi.length ec]) := h2.2.2.2
  have B0 := hid h2.1
  have bw := h2.1
  have HA := hid (ha.on bw)
  have HI := hid (hi.on bw)
  have HC := hid (hc.on bw)
  have HD := hid (hd.on bw)
  clear h2 ha hi hc hd bw
  obtain ⟨W, hW⟩ : ∃ W, (w.alloc (.cells #[.slice ao ls.length ac, .slice bo li.length bc] 39)).alloc (.cells #[.slice co ms.length cc, .slice eo mi.length ec] 39) = W := ⟨_, rfl⟩
  rw [hW] at XA XB B0 HA HI HC HD
  have ca0 := XA.out.cell (j := 0) rfl
  have ca1 := XA.out.cell (j := 1) rfl
  have cb0 := XB.out.cell (j := 0) rfl
  have cb1 := XB.out.cell (j := 1) rfl
  go_enter Try.func5, Try.ntmps5
  go_wp2_with fail
  refine (szKeep_at ao bo ls li ac bc (by unfold maxLen at hl; omega) (by unfold maxLen at hl'; omega) hf hf' 1048576 (by omega) (by omega) _ HA.out HI.out).mono ?_
  rintro e w1 ⟨(⟨hneg, rfl⟩ | ⟨hnn, rfl⟩), b1⟩
  · have B1 := hid (below_via B0.out b1)
    clear b1 hneg hf hf' hmf hmf'
    go_wp2
    go_ret
    exact ⟨rfl, B1.out⟩
  have B1 := hid (below_via B0.out b1)
  have XA1 := hid (XA.out.on b1 XA.out.lt)
  have XB1 := hid (XB.out.on b1 XB.out.lt)
  have HA1 := hid (HA.out.on b1)
  have HI1 := hid (HI.out.on b1)
  have HC1 := hid (HC.out.on b1)
  have HD1 := hid (HD.out.on b1)
  have q1 := sessionBulk_nonneg ls
  have q2 := itemBulk_nonneg li
  have n1 := (sessionsSmall (l := ls) (by unfold keepBulk at hnn; omega)).1
  have n2 := (itemsSmall (l := li) (by unfold keepBulk at hnn; omega)).1
  have hnn' : ¬ (1048576 : Int) - keepBulk ls li < 0 := by omega
  have hk : 0 ≤ keepBulk ls li := by unfold keepBulk; omega
  have HNN := hid hnn
  clear b1 XA XB HA HI HC HD B0 ca0 ca1 cb0 cb1 hW hf hf' q1 q2 hnn
  have ca0 := XA1.out.cell (j := 0) rfl
  have ca1 := XA1.out.cell (j := 1) rfl
  have cb0 := XB1.out.cell (j := 0) rfl
  have cb1 := XB1.out.cell (j := 1) rfl
  go_wp2_with fail
  refine (szKeep_at co eo ms mi cc ec (by unfold maxLen at hm; omega) (by unfold maxLen at hm'; omega) hmf hmf' _ HNN.out (by omega) _ HC1.out HD1.out).mono ?_
  rintro e w2 ⟨(⟨hneg, rfl⟩ | ⟨hnn, rfl⟩), b2⟩
  · have B2 := hid (below_via B1.out b2)
    clear b2 hneg hmf hmf'
    go_wp2
    go_ret
    exact ⟨rfl, B2.out⟩
  have B2 := hid (below_via B1.out b2)
  have XA2 := hid (XA1.out.on b2 XA1.out.lt)
  have XB2 := hid (XB1.out.on b2 XB1.out.lt)
  have HA2 := hid (HA1.out.on b2)
  have HI2 := hid (HI1.out.on b2)
  have HC2 := hid (HC1.out.on b2)
  have HD2 := hid (HD1.out.on b2)
  have q1 := sessionBulk_nonneg ms
  have q2 := itemBulk_nonneg mi
  have m1 := (sessionsSmall (l := ms) (by unfold keepBulk at hnn hk; omega)).1
  have m2 := (itemsSmall (l := mi) (by unfold keepBulk at hnn hk; omega)).1
  have hnn2 : ¬ (1048576 : Int) - keepBulk ls li - keepBulk ms mi < 0 := by omega
  clear b2 XA1 XB1 HA1 HI1 HC1 HD1 B1 hmf hmf' q1 q2 hnn hnn' hk HNN ca0 ca1 cb0 cb1
  have ca0 := XA2.out.cell (j := 0) rfl
  have ca1 := XA2.out.cell (j := 1) rfl
  have cb0 := XB2.out.cell (j := 0) rfl
  have cb1 := XB2.out.cell (j := 1) rfl
  obtain ⟨r, hr⟩ : ∃ r, keepSame ls ms li mi = r := ⟨_, rfl⟩
  have HR := hid hr
  clear hr
  go_wp2
  refine wp_region_each (N := 45) (by kernel_rfl) (by kernel_rfl) rfl (by kernel_rfl) (fun W => Below w2.heap.size w2 W) (fun j v _ W => match j with | 0 => v = .agg #[.slice ao ls.length ac, .slice bo li.length bc] | 1 => ∃ g h, v = .agg #[.slice (some ⟨g, 0, none⟩) ls.length ls.length, .slice (some ⟨h, 0, none⟩) li.length li.length] ∧ SessionsAt W (some ⟨g, 0, none⟩) ls ∧ ItemsAt W (some ⟨h, 0, none⟩) li | 2 => v = .agg #[.slice co ms.length cc, .slice eo mi.length ec] | 3 => ∃ g h, v = .agg #[.slice (some ⟨g, 0, none⟩) ms.length ms.length, .slice (some ⟨h, 0, none⟩) mi.length mi.length] ∧ SessionsAt W (some ⟨g, 0, none⟩) ms ∧ ItemsAt W (some ⟨h, 0, none⟩) mi | 4 => v = .bool r | 5 => v = .bool r | _ => True) (fun i => i) (fun _ _ => false) (fun _ x y => Below x.heap.size x y) (fun _ => 0) (by kernel_rfl) (fun _ _ => rfl) ?_ (below_drewN (Below.refl _ _) 1) ?_ ?_
  · intro i j v u x y hij hdd hwt hxy hg
    match j, hg with
    | 0, hg => exact hg
    | 1, hg =>
      obtain ⟨g, h, e1, e2, e3⟩ := hg
      exact ⟨g, h, e1, e2.on hxy, e3.on hxy⟩
    | 2, hg => exact hg
    | 3, hg =>
      obtain ⟨g, h, e1, e2, e3⟩ := hg
      exact ⟨g, h, e1, e2.on hxy, e3.on hxy⟩
    | 4, hg => exact hg
    | 5, hg => exact hg
    | n + 6, _ => exact trivial
  · refine ⟨?_, ?_, ?_, ?_, ?_, ?_, trivial⟩
    · intro A W hC hg hb
      have h2 : A.eval (.tmp 2) = .pointer (some ⟨w.heap.size, 0, none⟩) := hb 2 (base_of (by kernel_rfl))
      have x0 := (XA2.out.on hC XA2.out.lt).cell (j := 0) rfl
      have x1 := (XA2.out.on hC XA2.out.lt).cell (j := 1) rfl
      exact does_value (v := .agg #[.slice ao ls.length ac, .slice bo li.length bc]) (w' := W) (by simp only [execOp, h2]; simp [go_sem, x0, x1]) ⟨rfl, hC, Below.refl _ _⟩
    · intro A W hC hg hb
      have h20 : A.eval (.tmp 20) = .agg #[.slice ao ls.length ac, .slice bo li.length bc] := hg 0 20 (by decide) rfl (by simp [Op.operands, Call.operands]) (by kernel_rfl) rfl
      simp [go_sem] at h20
      refine does_enter (f := 16) (args := #[.agg #[.slice ao ls.length ac, .slice bo li.length bc]]) (w' := W) (by simp [go_sem, h20]) ?_
      refine (toKeep_any _ _ _ _ _ _ n1 n2 W (HA2.out.on hC) (HI2.out.on hC)).mono ?_
      rintro e w3 ⟨g, h, _, _, rfl, k3, j3, b3⟩
      exact ⟨_, rfl, ⟨g, h, rfl, sessionsAt_of (r := []) (by rw [List.append_nil]; exact k3), itemsAt_of (r := []) (by rw [List.append_nil]; exact j3)⟩, below_via hC b3, b3⟩
    · intro A W hC hg hb
      have h3 : A.eval (.tmp 3) = .pointer (some ⟨w.heap.size + 1, 0, none⟩) := hb 3 (base_of (by kernel_rfl))
      have x0 := (XB2.out.on hC XB2.out.lt).cell (j := 0) rfl
      have x1 := (XB2.out.on hC XB2.out.lt).cell (j := 1) rfl
      exact does_value (v := .agg #[.slice co ms.length cc, .slice eo mi.length ec]) (w' := W) (by simp only [execOp, h3]; simp [go_sem, x0, x1]) ⟨rfl, hC, Below.refl _ _⟩
    · intro A W hC hg hb
      have h22 : A.eval (.tmp 22) = .agg #[.slice co ms.length cc, .slice eo mi.length ec] := hg 2 22 (by decide) rfl (by simp [Op.operands, Call.operands]) (by kernel_rfl) rfl
      simp [go_sem] at h22
      refine does_enter (f := 16) (args := #[.agg #[.slice co ms.length cc, .slice eo mi.length ec]]) (w' := W) (by simp [go_sem, h22]) ?_
      refine (toKeep_any _ _ _ _ _ _ m1 m2 W (HC2.out.on hC) (HD2.out.on hC)).mono ?_
      rintro e w3 ⟨g, h, _, _, rfl, k3, j3, b3⟩
      exact ⟨_, rfl, ⟨g, h, rfl, sessionsAt_of (r := []) (by rw [List.append_nil]; exact k3), itemsAt_of (r := []) (by rw [List.append_nil]; exact j3)⟩, below_via hC b3, b3⟩
    · intro A W hC hg hb
      have g1 := hg 1 21 (by decide) rfl (by simp [Op.operands, Call.operands]) (by kernel_rfl) rfl
      have g3 := hg 3 23 (by decide) rfl (by simp [Op.operands, Call.operands]) (by kernel_rfl) rfl
      obtain ⟨g1, h1, e1, s1, i1⟩ := g1
      obtain ⟨g3, h3, e3, s3, i3⟩ := g3
      simp [go_sem] at e1 e3
      refine does_enter (f := 15) (args := #[.agg #[.slice (some ⟨g1, 0, none⟩) ls.length ls.length, .slice (some ⟨h1, 0, none⟩) li.length li.length], .agg #[.slice (some ⟨g3, 0, none⟩) ms.length ms.length, .slice (some ⟨h3, 0, none⟩) mi.length mi.length]]) (w' := W) (by simp [go_sem, e1, e3]) ?_
      refine (specSameKeep_any _ _ _ _ ls ms li mi _ _ _ _ n1 n2 m1 m2 W s1 i1 s3 i3).mono ?_
      rintro e w3 ⟨rfl, b3⟩
      exact ⟨_, rfl, congrArg Value.bool HR.out, below_via hC b3, b3⟩
    · intro A W hC hg hb
      have h24 : A.eval (.tmp 24) = .bool r := hg 4 24 (by decide) rfl (by simp [Op.operands]) (by kernel_rfl) rfl
      exact does_value (v := .bool r) (w' := W) (by simp only [execOp, h24]; simp [go_sem]) ⟨rfl, hC, Below.refl _ _⟩
  intro vs w5 hC hg
  have hv := hg 5 (by decide) (fun k => rfl)
  change vs 5 = _ at hv
  clear hg
  have B5 := hid (below_via B2.out hC)
  have XA5 := hid (XA2.out.on hC XA2.out.lt)
  have XB5 := hid (XB2.out.on hC XB2.out.lt)
  have HA5 := hid (HA2.out.on hC)
  have HI5 := hid (HI2.out.on hC)
  have HC5 := hid (HC2.out.on hC)
  have HD5 := hid (HD2.out.on hC)
  change Exit.then _ _ _ (laidBy _ vs _ 6 _) w5
  simp only [laidBy, if_true, dstAt, List.getElem?_toArray, List.getElem?_cons_succ, List.getElem?_cons_zero, Option.bind_some]
  simp only [Act.put, List.setIfInBounds_toArray, List.set_cons_succ, List.set_cons_zero]
  rw [hv]
  clear hv hC ca0 ca1 cb0 cb1 XA2 XB2 HA2 HI2 HC2 HD2 B2
  have ca0 := XA5.out.cell (j := 0) rfl
  have ca1 := XA5.out.cell (j := 1) rfl
  have cb0 := XB5.out.cell (j := 0) rfl
  have cb1 := XB5.out.cell (j := 1) rfl
  go_wp2_with fail
  refine (toKeep_any _ _ ls li _ _ n1 n2 _ HA5.out HI5.out).mono ?_
  rintro e w6 ⟨g6, h6, _, _, rfl, k6, j6, b6⟩
  have bx := below_more (Below.refl w6.heap.size w6) (.cells #[.slice (some ⟨g6, 0, none⟩) ls.length ls.length, .slice (some ⟨h6, 0, none⟩) li.length li.length] 31)
  have KX : Hid (BlockIs (w6.alloc (.cells #[.slice (some ⟨g6, 0, none⟩) ls.length ls.length, .slice (some ⟨h6, 0, none⟩) li.length li.length] 31)) w6.heap.size 31 [.slice (some ⟨g6, 0, none⟩) ls.length ls.length, .slice (some ⟨h6, 0, none⟩) li.length li.length]) := heap_alloc_new w6 _
  have bb := below_via b6 bx
  have SX := hid ((sessionsAt_of (l := ls) (r := []) (by rw [List.append_nil]; exact k6)).on bx)
  have IX := hid ((itemsAt_of (l := li) (r := []) (by rw [List.append_nil]; exact j6)).on bx)
  have B6 := hid (below_via B5.out bb)
  have XA6 := hid (XA5.out.on bb XA5.out.lt)
  have XB6 := hid (XB5.out.on bb XB5.out.lt)
  have HA6 := hid (HA5.out.on bb)
  have HI6 := hid (HI5.out.on bb)
  have HC6 := hid (HC5.out.on bb)
  have HD6 := hid (HD5.out.on bb)
  clear b6 k6 j6 ca0 ca1 cb0 cb1 XA5 XB5 HA5 HI5 HC5 HD5 B5
  obtain ⟨V6, hV6⟩ : ∃ V, w6.alloc (.cells #[.slice (some ⟨g6, 0, none⟩) ls.length ls.length, .slice (some ⟨h6, 0, none⟩) li.length li.length] 31) = V := ⟨_, rfl⟩
  rw [hV6] at KX SX IX B6 XA6 XB6 HA6 HI6 HC6 HD6
  clear bx bb
  have ca0 := XA6.out.cell (j := 0) rfl
  have ca1 := XA6.out.cell (j := 1) rfl
  have cb0 := XB6.out.cell (j := 0) rfl
  have cb1 := XB6.out.cell (j := 1) rfl
  go_wp2_with fail
  refine (toKeep_any _ _ ms mi _ _ m1 m2 _ HC6.out HD6.out).mono ?_
  rintro e w7 ⟨g7, h7, _, _, rfl, k7, j7, b7⟩
  have bx := below_more (Below.refl w7.heap.size w7) (.cells #[.slice (some ⟨g7, 0, none⟩) ms.length ms.length, .slice (some ⟨h7, 0, none⟩) mi.length mi.length] 31)
  have KY : Hid (BlockIs (w7.alloc (.cells #[.slice (some ⟨g7, 0, none⟩) ms.length ms.length, .slice (some ⟨h7, 0, none⟩) mi.length mi.length] 31)) w7.heap.size 31 [.slice (some ⟨g7, 0, none⟩) ms.length ms.length, .slice (some ⟨h7, 0, none⟩) mi.length mi.length]) := heap_alloc_new w7 _
  have bb := below_via b7 bx
  have SY := hid ((sessionsAt_of (l := ms) (r := []) (by rw [List.append_nil]; exact k7)).on bx)
  have IY := hid ((itemsAt_of (l := mi) (r := []) (by rw [List.append_nil]; exact j7)).on bx)
  have B7 := hid (below_via B6.out bb)
  have XA7 := hid (XA6.out.on bb XA6.out.lt)
  have XB7 := hid (XB6.out.on bb XB6.out.lt)
  have HA7 := hid (HA6.out.on bb)
  have HI7 := hid (HI6.out.on bb)
  have HC7 := hid (HC6.out.on bb)
  have HD7 := hid (HD6.out.on bb)
  clear b7 k7 j7 ca0 ca1 cb0 cb1 XA6 XB6 HA6 HI6 HC6 HD6 B6
  have KX7 := hid (KX.out.on bb KX.out.lt)
  have SX7 := hid (SX.out.on bb)
  have IX7 := hid (IX.out.on bb)
  clear KX SX IX
  obtain ⟨V7, hV7⟩ : ∃ V, w7.alloc (.cells #[.slice (some ⟨g7, 0, none⟩) ms.length ms.length, .slice (some ⟨h7, 0, none⟩) mi.length mi.length] 31) = V := ⟨_, rfl⟩
  rw [hV7] at KY SY IY B7 XA7 XB7 HA7 HI7 HC7 HD7 KX7 SX7 IX7
  clear bx bb
  have x0 := KX7.out.cell (j := 0) rfl
  have x1 := KX7.out.cell (j := 1) rfl
  have y0 := KY.out.cell (j := 0) rfl
  have y1 := KY.out.cell (j := 1) rfl
  go_wp2_with fail
  refine (implSameKeep_any _ _ _ _ ls ms li mi _ _ _ _ n1 n2 m1 m2 _ SX7.out IX7.out SY.out IY.out).mono ?_
  rintro e w8 ⟨rfl, b8⟩
  rw [HR.out]
  have B8 := hid (below_via B7.out b8)
  have XA8 := hid (XA7.out.on b8 XA7.out.lt)
  have XB8 := hid (XB7.out.on b8 XB7.out.lt)
  have KX8 := hid (KX7.out.on b8 KX7.out.lt)
  have HA8 := hid (HA7.out.on b8)
  have HI8 := hid (HI7.out.on b8)
  have HC8 := hid (HC7.out.on b8)
  have HD8 := hid (HD7.out.on b8)
  have SX8 := hid (SX7.out.on b8)
  have IX8 := hid (IX7.out.on b8)
  have KY8 := hid (KY.out.on b8 KY.out.lt)
  have SY8 := hid (SY.out.on b8)
  have IY8 := hid (IY.out.on b8)
  clear b8 x0 x1 y0 y1 XA7 XB7 KX7 HA7 HI7 HC7 HD7 SX7 IX7 KY SY IY B7 hV6 hV7 HR
  have hlp : ls.length ≤ 140737488355328 := by omega
  have hlq : li.length ≤ 140737488355328 := by omega
  have hmp : ms.length ≤ 140737488355328 := by omega
  have hmq : mi.length ≤ 140737488355328 := by omega
  have ca0 := XA8.out.cell (j := 0) rfl
  have ca1 := XA8.out.cell (j := 1) rfl
  have cb0 := XB8.out.cell (j := 0) rfl
  have cb1 := XB8.out.cell (j := 1) rfl
  have x0 := KX8.out.cell (j := 0) rfl
  have x1 := KX8.out.cell (j := 1) rfl
  have y0 := KY8.out.cell (j := 0) rfl
  have y1 := KY8.out.cell (j := 1) rfl
  go_wp2
  refine wp_region_each (N := 45) (by kernel_rfl) (by kernel_rfl) rfl (by kernel_rfl) (fun W => Below w8.heap.size w8 W) (fun j v _ W => match j with | 0 => v = .agg #[.slice (some ⟨g6, 0, none⟩) ls.length ls.length, .slice (some ⟨h6, 0, none⟩) li.length li.length] | 1 => v = .agg #[.slice ao ls.length ac, .slice bo li.length bc] | 2 => ∃ g h, v = .agg #[.slice (some ⟨g, 0, none⟩) ls.length ls.length, .slice (some ⟨h, 0, none⟩) li.length li.length] ∧ SessionsAt W (some ⟨g, 0, none⟩) ls ∧ ItemsAt W (some ⟨h, 0, none⟩) li | 3 => v = .bool true | 4 => v = .bool false | _ => True) (fun i => i) (fun _ _ => false) (fun _ x y => Below x.heap.size x y) (fun _ => 0) (by kernel_rfl) (fun _ _ => rfl) ?_ (below_drewN (Below.refl _ _) 1) ?_ ?_
  · intro i j v u x y hij hdd hwt hxy hg
    match j, hg with
    | 0, hg => exact hg
    | 1, hg => exact hg
    | 2, hg =>
      obtain ⟨g, h, e1, e2, e3⟩ := hg
      exact ⟨g, h, e1, e2.on hxy, e3.on hxy⟩
    | 3, hg => exact hg
    | 4, hg => exact hg
    | n + 5, _ => exact trivial
  · refine ⟨?_, ?_, ?_, ?_, ?_, trivial⟩
    · intro A W hC hg hb
      have h7 : A.eval (.tmp 7) = .pointer (some ⟨w6.heap.size, 0, none⟩) := hb 7 (base_of (by kernel_rfl))
      have z0 := (KX8.out.on hC KX8.out.lt).cell (j := 0) rfl
      have z1 := (KX8.out.on hC KX8.out.lt).cell (j := 1) rfl
      exact does_value (v := .agg #[.slice (some ⟨g6, 0, none⟩) ls.length ls.length, .slice (some ⟨h6, 0, none⟩) li.length li.length]) (w' := W) (by simp only [execOp, h7]; simp [go_sem, z0, z1]) ⟨rfl, hC, Below.refl _ _⟩
    · intro A W hC hg hb
      have h2 : A.eval (.tmp 2) = .pointer (some ⟨w.heap.size, 0, none⟩) := hb 2 (base_of (by kernel_rfl))
      have z0 := (XA8.out.on hC XA8.out.lt).cell (j := 0) rfl
      have z1 := (XA8.out.on hC XA8.out.lt).cell (j := 1) rfl
      exact does_value (v := .agg #[.slice ao ls.length ac, .slice bo li.length bc]) (w' := W) (by simp only [execOp, h2]; simp [go_sem, z0, z1]) ⟨rfl, hC, Below.refl _ _⟩
    · intro A W hC hg hb
      have h36 : A.eval (.tmp 36) = .agg #[.slice ao ls.length ac, .slice bo li.length bc] := hg 1 36 (by decide) rfl (by simp [Op.operands, Call.operands]) (by kernel_rfl) rfl
      simp [go_sem] at h36
      refine does_enter (f := 16) (args := #[.agg #[.slice ao ls.length ac, .slice bo li.length bc]]) (w' := W) (by simp [go_sem, h36]) ?_
      refine (toKeep_any _ _ _ _ _ _ n1 n2 W (HA8.out.on hC) (HI8.out.on hC)).mono ?_
      rintro e w3 ⟨g, h, _, _, rfl, k3, j3, b3⟩
      exact ⟨_, rfl, ⟨g, h, rfl, sessionsAt_of (r := []) (by rw [List.append_nil]; exact k3), itemsAt_of (r := []) (by rw [List.append_nil]; exact j3)⟩, below_via hC b3, b3⟩
    · intro A W hC hg hb
      have h35 : A.eval (.tmp 35) = .agg #[.slice (some ⟨g6, 0, none⟩) ls.length ls.length, .slice (some ⟨h6, 0, none⟩) li.length li.length] := hg 0 35 (by decide) rfl (by simp [Op.operands, Call.operands]) (by kernel_rfl) rfl
      have g2 := hg 2 37 (by decide) rfl (by simp [Op.operands, Call.operands]) (by kernel_rfl) rfl
      obtain ⟨g, h, e1, s1, i1⟩ := g2
      simp [go_sem] at e1 h35
      refine does_enter (f := 11) (args := #[.agg #[.slice (some ⟨g6, 0, none⟩) ls.length ls.length, .slice (some ⟨h6, 0, none⟩) li.length li.length], .agg #[.slice (some ⟨g, 0, none⟩) ls.length ls.length, .slice (some ⟨h, 0, none⟩) li.length li.length]]) (w' := W) (by simp [go_sem, e1, h35]) ?_
      refine (eqKeep_same _ _ _ _ ls li _ _ _ _ hlp hlq W (SX8.out.on hC) s1 (IX8.out.on hC) i1).mono ?_
      rintro e w3 ⟨rfl, b3⟩
      exact ⟨_, rfl, rfl, below_via hC b3, b3⟩
    · intro A W hC hg hb
      have h38 : A.eval (.tmp 38) = .bool true := hg 3 38 (by decide) rfl (by simp [Op.operands]) (by kernel_rfl) rfl
      exact does_value (v := .bool false) (w' := W) (by simp only [execOp, h38]; simp [go_sem]) ⟨rfl, hC, Below.refl _ _⟩
  intro vs w9 hC hg
  have hv := hg 4 (by decide) (fun k => rfl)
  change vs 4 = _ at hv
  clear hg
  have B9 := hid (below_via B8.out hC)
  have XA9 := hid (XA8.out.on hC XA8.out.lt)
  have XB9 := hid (XB8.out.on hC XB8.out.lt)
  have KX9 := hid (KX8.out.on hC KX8.out.lt)
  have KY9 := hid (KY8.out.on hC KY8.out.lt)
  have HA9 := hid (HA8.out.on hC)
  have HI9 := hid (HI8.out.on hC)
  have HC9 := hid (HC8.out.on hC)
  have HD9 := hid (HD8.out.on hC)
  have SX9 := hid (SX8.out.on hC)
  have IX9 := hid (IX8.out.on hC)
  have SY9 := hid (SY8.out.on hC)
  have IY9 := hid (IY8.out.on hC)
  change Exit.then _ _ _ (laidBy _ vs _ 5 _) w9
  simp only [laidBy, if_true, dstAt, List.getElem?_toArray, List.getElem?_cons_succ, List.getElem?_cons_zero, Option.bind_some]
  simp only [Act.put, List.setIfInBounds_toArray, List.set_cons_succ, List.set_cons_zero]
  rw [hv]
  clear hv hC ca0 ca1 cb0 cb1 x0 x1 y0 y1
  clear XA8 XB8 KX8 KY8 HA8 HI8 HC8 HD8 SX8 IX8 SY8 IY8 B8
  have ca0 := XA9.out.cell (j := 0) rfl
  have ca1 := XA9.out.cell (j := 1) rfl
  have cb0 := XB9.out.cell (j := 0) rfl
  have cb1 := XB9.out.cell (j := 1) rfl
  have x0 := KX9.out.cell (j := 0) rfl
  have x1 := KX9.out.cell (j := 1) rfl
  have y0 := KY9.out.cell (j := 0) rfl
  have y1 := KY9.out.cell (j := 1) rfl
  go_wp2
  refine wp_region_each (N := 45) (by kernel_rfl) (by kernel_rfl) rfl (by kernel_rfl) (fun W => Below w9.heap.size w9 W) (fun j v _ W => match j with | 0 => v = .agg #[.slice (some ⟨g7, 0, none⟩) ms.length ms.length, .slice (some ⟨h7, 0, none⟩) mi.length mi.length] | 1 => v = .agg #[.slice co ms.length cc, .slice eo mi.length ec] | 2 => ∃ g h, v = .agg #[.slice (some ⟨g, 0, none⟩) ms.length ms.length, .slice (some ⟨h, 0, none⟩) mi.length mi.length] ∧ SessionsAt W (some ⟨g, 0, none⟩) ms ∧ ItemsAt W (some ⟨h, 0, none⟩) mi | 3 => v = .bool true | 4 => v = .bool false | _ => True) (fun i => i) (fun _ _ => false) (fun _ x y => Below x.heap.size x y) (fun _ => 0) (by kernel_rfl) (fun _ _ => rfl) ?_ (below_drewN (Below.refl _ _) 1) ?_ ?_
  · intro i j v u x y hij hdd hwt hxy hg
    match j, hg with
    | 0, hg => exact hg
    | 1, hg => exact hg
    | 2, hg =>
      obtain ⟨g, h, e1, e2, e3⟩ := hg
      exact ⟨g, h, e1, e2.on hxy, e3.on hxy⟩
    | 3, hg => exact hg
    | 4, hg => exact hg
    | n + 5, _ => exact trivial
  · refine ⟨?_, ?_, ?_, ?_, ?_, trivial⟩
    · intro A W hC hg hb
      have h8 : A.eval (.tmp 8) = .pointer (some ⟨w7.heap.size, 0, none⟩) := hb 8 (base_of (by kernel_rfl))
      have z0 := (KY9.out.on hC KY9.out.lt).cell (j := 0) rfl
      have z1 := (KY9.out.on hC KY9.out.lt).cell (j := 1) rfl
      exact does_value (v := .agg #[.slice (some ⟨g7, 0, none⟩) ms.length ms.length, .slice (some ⟨h7, 0, none⟩) mi.length mi.length]) (w' := W) (by simp only [execOp, h8]; simp [go_sem, z0, z1]) ⟨rfl, hC, Below.refl _ _⟩
    · intro A W hC hg hb
      have h3 : A.eval (.tmp 3) = .pointer (some ⟨w.heap.size + 1, 0, none⟩) := hb 3 (base_of (by kernel_rfl))
      have z0 := (XB9.out.on hC XB9.out.lt).cell (j := 0) rfl
      have z1 := (XB9.out.on hC XB9.out.lt).cell (j := 1) rfl
      exact does_value (v := .agg #[.slice co ms.length cc, .slice eo mi.length ec]) (w' := W) (by simp only [execOp, h3]; simp [go_sem, z0, z1]) ⟨rfl, hC, Below.refl _ _⟩
    · intro A W hC hg hb
      have h41 : A.eval (.tmp 41) = .agg #[.slice co ms.length cc, .slice eo mi.length ec] := hg 1 41 (by decide) rfl (by simp [Op.operands, Call.operands]) (by kernel_rfl) rfl
      simp [go_sem] at h41
      refine does_enter (f := 16) (args := #[.agg #[.slice co ms.length cc, .slice eo mi.length ec]]) (w' := W) (by simp [go_sem, h41]) ?_
      refine (toKeep_any _ _ _ _ _ _ m1 m2 W (HC9.out.on hC) (HD9.out.on hC)).mono ?_
      rintro e w3 ⟨g, h, _, _, rfl, k3, j3, b3⟩
      exact ⟨_, rfl, ⟨g, h, rfl, sessionsAt_of (r := []) (by rw [List.append_nil]; exact k3), itemsAt_of (r := []) (by rw [List.append_nil]; exact j3)⟩, below_via hC b3, b3⟩
    · intro A W hC hg hb
      have h40 : A.eval (.tmp 40) = .agg #[.slice (some ⟨g7, 0, none⟩) ms.length ms.length, .slice (some ⟨h7, 0, none⟩) mi.length mi.length] := hg 0 40 (by decide) rfl (by simp [Op.operands, Call.operands]) (by kernel_rfl) rfl
      have g2 := hg 2 42 (by decide) rfl (by simp [Op.operands, Call.operands]) (by kernel_rfl) rfl
      obtain ⟨g, h, e1, s1, i1⟩ := g2
      simp [go_sem] at e1 h40
      refine does_enter (f := 11) (args := #[.agg #[.slice (some ⟨g7, 0, none⟩) ms.length ms.length, .slice (some ⟨h7, 0, none⟩) mi.length mi.length], .agg #[.slice (some ⟨g, 0, none⟩) ms.length ms.length, .slice (some ⟨h, 0, none⟩) mi.length mi.length]]) (w' := W) (by simp [go_sem, e1, h40]) ?_
      refine (eqKeep_same _ _ _ _ ms mi _ _ _ _ hmp hmq W (SY9.out.on hC) s1 (IY9.out.on hC) i1).mono ?_
      rintro e w3 ⟨rfl, b3⟩
      exact ⟨_, rfl, rfl, below_via hC b3, b3⟩
    · intro A W hC hg hb
      have h43 : A.eval (.tmp 43) = .bool true := hg 3 43 (by decide) rfl (by simp [Op.operands]) (by kernel_rfl) rfl
      exact does_value (v := .bool false) (w' := W) (by simp only [execOp, h43]; simp [go_sem]) ⟨rfl, hC, Below.refl _ _⟩
  intro vs w10 hC hg
  have hv := hg 4 (by decide) (fun k => rfl)
  change vs 4 = _ at hv
  clear hg
  have B10 := hid (below_via B9.out hC)
  have XA10 := hid (XA9.out.on hC XA9.out.lt)
  have XB10 := hid (XB9.out.on hC XB9.out.lt)
  have KX10 := hid (KX9.out.on hC KX9.out.lt)
  have KY10 := hid (KY9.out.on hC KY9.out.lt)
  have HA10 := hid (HA9.out.on hC)
  have HI10 := hid (HI9.out.on hC)
  have HC10 := hid (HC9.out.on hC)
  have HD10 := hid (HD9.out.on hC)
  have SX10 := hid (SX9.out.on hC)
  have IX10 := hid (IX9.out.on hC)
  have SY10 := hid (SY9.out.on hC)
  have IY10 := hid (IY9.out.on hC)
  change Exit.then _ _ _ (laidBy _ vs _ 5 _) w10
  simp only [laidBy, if_true, dstAt, List.getElem?_toArray, List.getElem?_cons_succ, List.getElem?_cons_zero, Option.bind_some]
  simp only [Act.put, List.setIfInBounds_toArray, List.set_cons_succ, List.set_cons_zero]
  rw [hv]
  clear hv hC ca0 ca1 cb0 cb1 x0 x1 y0 y1
  clear XA9 XB9 KX9 KY9 HA9 HI9 HC9 HD9 SX9 IX9 SY9 IY9 B9
  go_wp2
  go_ret
  exact ⟨rfl, B10.out⟩

theorem own : ownKnob Try.prog.godebug = none := by kernel_rfl
theorem laidOut : laidOutB Try.prog = true := by kernel_rfl
theorem rowed : varsRowed Try.prog Rows.fnExactSameKeepSpec.vars = true := by kernel_rfl
set_option maxRecDepth 1000000 in
theorem contract (H : Type) (enc : TypeId × Value → H) (W : World) (base : Nat) (args : Array Value) (ds gs : List (DataW H)) (before : List MemPlace)
    (hval : ∀ (j : Nat) t v, Try.f5.params[j]? = some t → args[j]? = some v → Value.okWide Try.prog W .any base t v)
    (hW : DataW.Whole enc Try.prog Try.f5.params.toList Rows.fnExactSameKeepSpec.vars false W args.toList ds gs before) (_hL : laidMetH Try.prog Rows.fnExactSameKeepRow.laid W) :
    Calls Try.prog 5 args W fun e W' => ∃ v, e = .returned v ∧ Rows.fnExactSameKeepSpec.post enc Try.prog Try.f5 false true false false W args v W' := by
  have hW' := hW
  obtain ⟨p, q, hA0, hV0, rfl, hfz, hnd⟩ := hW
  have hV : DataW.TrodVars enc Try.prog W (fun _ => true) Rows.fnExactSameKeepSpec.vars gs q := hV0
  have hA : DataW.TrodAll enc Try.prog W 0 (fun _ => true) true Try.f5.params.toList args.toList ds p := hA0
  rw [Try.params5] at hA hval
  obtain ⟨v0, vs0, d0, ds0, p0, q0, hargs0, rfl, rfl, h0, r0⟩ := trodAll_cons hA
  obtain ⟨v1, vs1, d1, ds1, p1, q1, hargs1, rfl, rfl, h1, r1⟩ := trodAll_cons r0
  subst hargs1
  obtain ⟨rfl, rfl, rfl⟩ := trodAll_nil r1
  obtain rfl : args = #[v0, v1] := by cases args; simp_all
  have k0 := h0
  have lt0 : ∀ x ∈ p0, x.block < W.heap.size := by obtain ⟨m, hm⟩ := k0; exact DataW.trod_lt m _ _ _ hm
  obtain ⟨a0, l0, ac0, b0, m0, bc0, rfl, ⟨hc0, hm0, hat0, hfit0⟩, hd0, hn0, hbt0, hgit0⟩ := open_keep (hval 0 39 v0 rfl rfl) h0
  have k1 := h1
  have lt1 : ∀ x ∈ p1, x.block < W.heap.size := by obtain ⟨m, hm⟩ := k1; exact DataW.trod_lt m _ _ _ hm
  obtain ⟨a1, l1, ac1, b1, m1, bc1, rfl, ⟨hc1, hm1, hat1, hfit1⟩, hd1, hn1, hbt1, hgit1⟩ := open_keep (hval 1 39 v1 rfl rfl) h1
  clear hA0 hV0
  obtain ⟨rfl, rfl⟩ := trodVars_none hV
  refine (walk a0 l0 ac0 (Nat.le_trans hc0 hm0) hfit0 b0 m0 bc0 (Nat.le_trans hd0 hn0) hgit0 a1 l1 ac1 (Nat.le_trans hc1 hm1) hfit1 b1 m1 bc1 (Nat.le_trans hd1 hn1) hgit1 W hat0 hbt0 hat1 hbt1).mono fun e W' ⟨he, bel⟩ => ?_
  subst he
  exact ⟨_, rfl, _, _, _, [], _, [], hW', trodAll_mk1 (shut_bool Try.underlying4 _), trodAll_cons_mk (Below.trod laidOut (by kernel_rfl) (of_decide_eq_true (by kernel_rfl)) k0 bel lt0) (trodAll_cons_mk (Below.trod laidOut (by kernel_rfl) (of_decide_eq_true (by kernel_rfl)) k1 bel lt1) (trodAll_mk0)), rfl, bel.frame _, fun h => by cases h⟩

def put (cs : Array Value) : Obj → Obj
  | .cells _ t frozen => .cells cs t frozen
  | o => o

/-- a world for the witness: the tables hold what their initialisers lay -/
def laidWorld (w : World) : World := { w with heap := w.heap }
theorem laid_met (os : Os) : laidMet Try.prog Rows.fnExactSameKeepRow.laid ((laidWorld (World.holding Try.prog os ⟨#[], #[], []⟩)).forCall (fun _ _ => 0) ⟨#[], #[.agg #[.slice none 0 0, .slice none 0 0], .agg #[.slice none 0 0, .slice none 0 0]], []⟩).memory :=
  laidMet_of_run' 8 (by kernel_rfl) (by kernel_rfl)
theorem reads (os : Os) {H : Type} (enc : TypeId × Value → H) : ∃ places, DataW.whole enc Try.prog ((laidWorld (World.holding Try.prog os ⟨#[], #[], []⟩)).forCall (fun _ _ => 0) ⟨#[], #[.agg #[.slice none 0 0, .slice none 0 0], .agg #[.slice none 0 0, .slice none 0 0]], []⟩).memory Try.f5.params.toList Rows.fnExactSameKeepSpec.vars false #[Value.agg #[.slice none 0 0, .slice none 0 0], .agg #[.slice none 0 0, .slice none 0 0]].toList 8 = some ([.agg [.nil, .nil], .agg [.nil, .nil]], [], places) :=
  ⟨[], by kernel_rfl⟩

set_option maxRecDepth 1000000 in
theorem lifted (os : Os) (started : os.Started) (H : Type) (enc : TypeId × Value → H) (F : Stop.Interp) :
    ReturnsInHanded {} Try.checked os 5 .any ((OpenSpec.ofChange Rows.fnExactSameKeepSpec).preRow enc Try.prog Try.f5 Rows.fnExactSameKeepRow.domain false Rows.fnExactSameKeepRow.laid) (((OpenSpec.ofChange Rows.fnExactSameKeepSpec).at F).post enc Try.prog Try.f5 false true false false) := by
  obtain ⟨places, hx⟩ := reads os enc
  refine returnsInHanded_of_row (C := Try.checked) (s := OpenSpec.ofChange Rows.fnExactSameKeepSpec) own started (by kernel_rfl) Try.func5
    (witness_row_at (enc := enc) (C := Try.checked) false (laidWorld (World.holding Try.prog os ⟨#[], #[], []⟩)) #[.agg #[.slice none 0 0, .slice none 0 0], .agg #[.slice none 0 0, .slice none 0 0]] rfl (by kernel_rfl) (by kernel_rfl) (by kernel_rfl)
      (OpenSpec.preRow_of_cond 8 hx (by kernel_rfl) (fun k hk => by cases hk) (by kernel_rfl) (laid_met os))) ?_
  intro W base args ds gs before hval hW _ _ _ hL _ _
  exact contract H enc W base args ds gs before hval hW hL

theorem said : Rows.FnExactSameKeepSaid :=
  OpenClaim.holds_of_cond 5 Try.f5 rfl rfl rfl rfl rfl rfl rfl ⟨rfl, rfl, rfl, rfl, rfl⟩ rfl rfl rfl rfl rfl (by kernel_rfl) Try.func5 (by kernel_rfl)
    (of_decide_eq_true (by kernel_rfl)) (by unfold Func.isWrapper; first | (rw [if_pos (by decide +kernel)]; kernel_rfl) | (rw [if_neg (by decide +kernel)]; exact ⟨rfl, rfl⟩))
    (fun os started H enc _ F => by rw [OpenClaim.pre_eq_preRow]; exact lifted os started H enc F)

end Go.Proofs.Ytdgohbhffjinmaa.fnExactSameKeep
