/-
  For every Id and every list of numbers, laws.FnExactNodeNew returns true: impl.NodeNew and spec.NodeNew answer alike, no argument is written, and the answer owns its memory; nothing that was in memory is written.
-/
import Derived.Test.YteceaohhnjlmbaaRows
import Derived.Test.YteceaohhnjlmbaaJoint11
import Derived.Test.YteceaohhnjlmbaaJoint31
import Derived.Test.YteceaohhnjlmbaaJoint36
import Derived.Test.YteceaohhnjlmbaaJoint45
import Derived.Test.YteceaohhnjlmbaaJoint1
import Derived.Test.YteceaohhnjlmbaaJoint46
import Derived.Test.YteceaohhnjlmbaaJoint34
import Derived.WalkSmall
import Derived.WalkKit
import Derived.ProofKit
import Derived.OpenShut
import Derived.OpenVars
import Derived.Deep.DeepHandedRow
import Derived.Lib.LaidTab
import Derived.Stop.LaidErr
namespace Go.Proofs.Yteceaohhnjlmbaa.fnExactNodeNew
open Go.ChangeShapes Go.WideShapes Go.ChangeAt Go.ChangeMaps Go.RowKit

theorem ints_block {w : World} {g : Nat} {zs : List Int} (h : BlockIs w g 3 (intCells zs)) : ∀ j (hj : j < zs.length), w.cell? ⟨g, 0 + j, none⟩ = some (.int .i64 zs[j]) := by
  intro j hj
  rw [Nat.zero_add]
  exact h.cell (by rw [intCells, List.getElem?_map, List.getElem?_eq_getElem hj]; rfl)
theorem box_apart {w w' : World} {j g : Nat} {t : TypeId} {cs xs : List Value} (hb : BlockIs w j t cs) (hx : BlockIs w g 3 xs) (hg : w.grownBy w' (some g)) (ht : t ≠ 3) : BlockIs w' j t cs := by
  have hlt := hb.lt
  have hne : j ≠ g := by
    intro q
    subst q
    exact ht (block_one hb hx).1
  unfold BlockIs at hb ⊢
  rw [hg.block j hlt (by simpa using hne)]
  exact hb
theorem row_apart {w w' : World} {base size n x : Nat} {t : TypeId} {v : Value} {xs : List Value} (h : w.ownsRow base t size v n xs) (hg : w.grownBy w' (some x)) (ha : ∀ g, v.ownBlock = some g → g ≠ x) : w'.ownsRow base t size v n xs := by
  refine ⟨h.1, h.2.imp id ?_⟩
  rintro ⟨g, cap, cur, a, b, c, r⟩
  have hv : v.ownBlock = some g := by rw [a]; rfl
  have hlt : g < w.heap.size := by
    rcases Nat.lt_or_ge g w.heap.size with h' | h'
    · exact h'
    · rw [Array.getElem?_eq_none h'] at c; cases c
  have := hg.block g hlt (by simpa using ha g hv)
  exact ⟨g, cap, cur, a, b, by rw [this]; exact c, r⟩
set_option maxRecDepth 1000000 in
set_option maxHeartbeats 8000000 in
theorem walk (i : Int) (_hi : (Lit.int .i64 i).wf = true) (ao : Option Addr) (zs : List Int) (cap : Nat) (_hzl : zs.length ≤ maxLen) (_hzf : IntsFit zs) (w : World) (ha : IntsAt w ao zs) :
    Calls Try.prog 4 #[.int .i64 i, .slice ao zs.length cap] w fun e w' => e = .returned (.bool true) ∧ Below w.heap.size w w' := by
  by_cases hbig : (1048576 : Int) < (zs.length : Int)
  · go_enter Try.func4, Try.ntmps4
    go_wp2
    go_ret
    exact ⟨rfl, Below.refl _ _⟩
  have hl : zs.length ≤ 1048576 := by omega
  have hCl := newC_small (i := i) hl
  obtain ⟨ok, hok⟩ : ∃ x, nodeOk (newD i zs 20) = x := ⟨_, rfl⟩
  have CS' := fun b cc W hc => specNodeNew_any i zs hl b cc ok hok W hc
  have CI' := fun b cc W hc => implNodeNew_any i zs hl b cc ok hok W hc
  obtain ⟨I, hI⟩ : ∃ x, newI i zs = x := ⟨_, rfl⟩
  obtain ⟨C, hC⟩ : ∃ x, newC i zs = x := ⟨_, rfl⟩
  obtain ⟨L, hL⟩ : ∃ x, newL i zs = x := ⟨_, rfl⟩
  rw [hI, hC, hL] at CS' CI'
  rw [hC] at hCl
  have CS := hid CS'
  have CI := hid CI'
  have CT := hid (fun W h => toIntS_any ao zs cap hl W h)
  have HA := hid ha
  have hbt : (ok == ok) = true := beq_self_eq_true ok
  have hbf : (ok != ok) = false := by simp
  have hle : zs.length ≤ 140737488355328 := by omega
  clear CS' CI' hok hI hC hL hbig ha
  go_enter Try.func4, Try.ntmps4
  go_wp2_with fail
  refine (CT.out w HA.out).mono ?_
  rintro e w1 ⟨rfl, hbl, b1⟩
  have K1 := hid (ints_block hbl)
  have B1 := hid b1
  clear hbl b1
  go_wp2_with fail
  refine (CS.out _ _ w1 K1.out).mono ?_
  rintro e w2 ⟨co3, cc3, eo3, ec3, rfl, hk, hb⟩
  have bn := below_more (Below.refl w2.heap.size w2) (.cells #[.int .i64 I, .int .i64 0, .int .i64 0, .int .i64 0, .int .i64 0, .slice co3 C.length cc3, .int .i64 0, .int .i64 0, .slice eo3 0 ec3, .int .i64 0, .int .i64 0, .int .i64 L, .slice none 0 0, .slice none 0 0] 36)
  have nn : BlockIs (w2.alloc (.cells #[.int .i64 I, .int .i64 0, .int .i64 0, .int .i64 0, .int .i64 0, .slice co3 C.length cc3, .int .i64 0, .int .i64 0, .slice eo3 0 ec3, .int .i64 0, .int .i64 0, .int .i64 L, .slice none 0 0, .slice none 0 0] 36)) w2.heap.size 36 [.int .i64 I, .int .i64 0, .int .i64 0, .int .i64 0, .int .i64 0, .slice co3 C.length cc3, .int .i64 0, .int .i64 0, .slice eo3 0 ec3, .int .i64 0, .int .i64 0, .int .i64 L, .slice none 0 0, .slice none 0 0] := heap_alloc_new w2 _
  obtain ⟨U2, hU2⟩ : ∃ W, w2.alloc (.cells #[.int .i64 0, .int .i64 0, .int .i64 0, .int .i64 0, .int .i64 0, .slice none 0 0, .int .i64 0, .int .i64 0, .slice none 0 0, .int .i64 0, .int .i64 0, .int .i64 0, .slice none 0 0, .slice none 0 0] 36) = W := ⟨_, rfl⟩
  have KZ2 : BlockIs U2 w2.heap.size 36 [.int .i64 0, .int .i64 0, .int .i64 0, .int .i64 0, .int .i64 0, .slice none 0 0, .int .i64 0, .int .i64 0, .slice none 0 0, .int .i64 0, .int .i64 0, .int .i64 0, .slice none 0 0, .slice none 0 0] := by rw [← hU2]; exact heap_alloc_new _ _
  obtain ⟨w3, hw3⟩ : ∃ W, U2.setRow w2.heap.size #[.int .i64 I, .int .i64 0, .int .i64 0, .int .i64 0, .int .i64 0, .slice co3 C.length cc3, .int .i64 0, .int .i64 0, .slice eo3 0 ec3, .int .i64 0, .int .i64 0, .int .i64 L, .slice none 0 0, .slice none 0 0] = W := ⟨_, rfl⟩
  have hov : w2.alloc (.cells #[.int .i64 I, .int .i64 0, .int .i64 0, .int .i64 0, .int .i64 0, .slice co3 C.length cc3, .int .i64 0, .int .i64 0, .slice eo3 0 ec3, .int .i64 0, .int .i64 0, .int .i64 L, .slice none 0 0, .slice none 0 0] 36) = w3 := by rw [← hw3, ← hU2, whole_over]
  rw [hov] at bn nn
  have Y3 := hid nn
  have bb := below_via hb bn
  have RC3 := hid (row_ext hk fun g cs h9 => h9.on bn h9.lt)
  have B3 := hid (below_via B1.out bb)
  clear bn nn bb hk hb hov K1 B1
  go_wp2_with (first | (refine wpList_store_whole node_size KZ2 rfl rfl _ _ rfl _ rfl rfl rfl (by simp [Value.oneCell']) ?_; rw [hw3]) | fail)
  refine (CT.out _ (HA.out.on B3.out)).mono ?_
  rintro e w4 ⟨rfl, hbl, b4⟩
  have HWC : Hid (∀ g, (Value.ownBlock (.slice co3 C.length cc3)) = some g → g < w3.heap.size) := fun g hg => by obtain ⟨_, h9, _⟩ := row_block RC3.out hg; exact h9.lt
  obtain ⟨gx, hgx⟩ : ∃ g, w3.heap.size = g := ⟨_, rfl⟩
  have HLX : Hid (w.heap.size ≤ gx) := (show _ ≤ _ by rw [← hgx]; exact B3.out.size)
  have Y4 := hid (Y3.out.on b4 Y3.out.lt)
  have RC4 := hid (row_ext RC3.out fun g cs h9 => h9.on b4 h9.lt)
  have B4 := hid (below_via B3.out b4)
  rw [hgx] at hbl HWC ⊢
  have X4 := hid hbl
  have hgl : gx < w4.heap.size := hbl.lt
  clear hgx hbl b4 hw3 hU2 KZ2 Y3 RC3 B3
  go_wp2_with fail
  refine (CI.out _ _ w4 (intsAt_of (r := []) (by rw [List.append_nil]; exact X4.out))).mono ?_
  rintro e w5 ⟨co6, cc6, eo6, ec6, rfl, hk, hb⟩
  have bn := below_more (Below.refl w5.heap.size w5) (.cells #[.int .i64 I, .int .i64 0, .int .i64 0, .int .i64 0, .int .i64 0, .slice co6 C.length cc6, .int .i64 0, .int .i64 0, .slice eo6 0 ec6, .int .i64 0, .int .i64 0, .int .i64 L, .slice none 0 0, .slice none 0 0] 36)
  have nn : BlockIs (w5.alloc (.cells #[.int .i64 I, .int .i64 0, .int .i64 0, .int .i64 0, .int .i64 0, .slice co6 C.length cc6, .int .i64 0, .int .i64 0, .slice eo6 0 ec6, .int .i64 0, .int .i64 0, .int .i64 L, .slice none 0 0, .slice none 0 0] 36)) w5.heap.size 36 [.int .i64 I, .int .i64 0, .int .i64 0, .int .i64 0, .int .i64 0, .slice co6 C.length cc6, .int .i64 0, .int .i64 0, .slice eo6 0 ec6, .int .i64 0, .int .i64 0, .int .i64 L, .slice none 0 0, .slice none 0 0] := heap_alloc_new w5 _
  obtain ⟨U5, hU5⟩ : ∃ W, w5.alloc (.cells #[.int .i64 0, .int .i64 0, .int .i64 0, .int .i64 0, .int .i64 0, .slice none 0 0, .int .i64 0, .int .i64 0, .slice none 0 0, .int .i64 0, .int .i64 0, .int .i64 0, .slice none 0 0, .slice none 0 0] 36) = W := ⟨_, rfl⟩
  have KZ5 : BlockIs U5 w5.heap.size 36 [.int .i64 0, .int .i64 0, .int .i64 0, .int .i64 0, .int .i64 0, .slice none 0 0, .int .i64 0, .int .i64 0, .slice none 0 0, .int .i64 0, .int .i64 0, .int .i64 0, .slice none 0 0, .slice none 0 0] := by rw [← hU5]; exact heap_alloc_new _ _
  obtain ⟨w6, hw6⟩ : ∃ W, U5.setRow w5.heap.size #[.int .i64 I, .int .i64 0, .int .i64 0, .int .i64 0, .int .i64 0, .slice co6 C.length cc6, .int .i64 0, .int .i64 0, .slice eo6 0 ec6, .int .i64 0, .int .i64 0, .int .i64 L, .slice none 0 0, .slice none 0 0] = W := ⟨_, rfl⟩
  have hov : w5.alloc (.cells #[.int .i64 I, .int .i64 0, .int .i64 0, .int .i64 0, .int .i64 0, .slice co6 C.length cc6, .int .i64 0, .int .i64 0, .slice eo6 0 ec6, .int .i64 0, .int .i64 0, .int .i64 L, .slice none 0 0, .slice none 0 0] 36) = w6 := by rw [← hw6, ← hU5, whole_over]
  rw [hov] at bn nn
  have Z6 := hid nn
  have bb := below_via hb bn
  have GC6 := hid (row_ext hk fun g cs h9 => h9.on bn h9.lt)
  have HGC : Hid (∀ g, (Value.ownBlock (.slice co6 C.length cc6)) = some g → gx < g) := fun g hg => by obtain ⟨_, _, h9⟩ := row_block hk hg; omega
  have Y6 := hid (Y4.out.on bb Y4.out.lt)
  have X6 := hid (X4.out.on bb X4.out.lt)
  have RC6 := hid (row_ext RC4.out fun g cs h9 => h9.on bb h9.lt)
  have B6 := hid (below_via B4.out bb)
  have hw4s : w.heap.size ≤ w4.heap.size := B4.out.size
  clear bn nn bb hk hb hov Y4 X4 RC4 B4 hgl
  have y0_6 := Y6.out.cell (j := 0) rfl
  have y1_6 := Y6.out.cell (j := 1) rfl
  have y2_6 := Y6.out.cell (j := 2) rfl
  have y3_6 := Y6.out.cell (j := 3) rfl
  have y4_6 := Y6.out.cell (j := 4) rfl
  have y5_6 := Y6.out.cell (j := 5) rfl
  have y6_6 := Y6.out.cell (j := 6) rfl
  have y7_6 := Y6.out.cell (j := 7) rfl
  have y8_6 := Y6.out.cell (j := 8) rfl
  have y9_6 := Y6.out.cell (j := 9) rfl
  have y10_6 := Y6.out.cell (j := 10) rfl
  have y11_6 := Y6.out.cell (j := 11) rfl
  have y12_6 := Y6.out.cell (j := 12) rfl
  have y13_6 := Y6.out.cell (j := 13) rfl
  have z0_6 := Z6.out.cell (j := 0) rfl
  have z1_6 := Z6.out.cell (j := 1) rfl
  have z2_6 := Z6.out.cell (j := 2) rfl
  have z3_6 := Z6.out.cell (j := 3) rfl
  have z4_6 := Z6.out.cell (j := 4) rfl
  have z5_6 := Z6.out.cell (j := 5) rfl
  have z6_6 := Z6.out.cell (j := 6) rfl
  have z7_6 := Z6.out.cell (j := 7) rfl
  have z8_6 := Z6.out.cell (j := 8) rfl
  have z9_6 := Z6.out.cell (j := 9) rfl
  have z10_6 := Z6.out.cell (j := 10) rfl
  have z11_6 := Z6.out.cell (j := 11) rfl
  have z12_6 := Z6.out.cell (j := 12) rfl
  have z13_6 := Z6.out.cell (j := 13) rfl
  go_wp2_with (first | (refine wpList_store_whole node_size KZ5 rfl rfl _ _ rfl _ rfl rfl rfl (by simp [Value.oneCell']) ?_; rw [hw6]) | fail)
  refine (eqNode_same (newD I C L) ⟨co6, cc6, eo6, ec6, none, 0, none, 0⟩ ⟨co3, cc3, eo3, ec3, none, 0, none, 0⟩ (newD_small hCl) _ (newD_at (ints_row rfl GC6.out)) (newD_at (ints_row rfl RC6.out))).mono ?_
  rintro e w7 ⟨rfl, b7⟩
  have B7 := hid (below_via B6.out b7)
  have Y7 := hid (Y6.out.on b7 Y6.out.lt)
  have Z7 := hid (Z6.out.on b7 Z6.out.lt)
  have X7 := hid (X6.out.on b7 X6.out.lt)
  have RC7 := hid (row_ext RC6.out fun g cs h9 => h9.on b7 h9.lt)
  have GC7 := hid (row_ext GC6.out fun g cs h9 => h9.on b7 h9.lt)
  clear b7 hw6 hU5 KZ5 B6 Y6 Z6 X6 RC6 GC6 y0_6 y1_6 y2_6 y3_6 y4_6 y5_6 y6_6 y7_6 y8_6 y9_6 y10_6 y11_6 y12_6 y13_6 z0_6 z1_6 z2_6 z3_6 z4_6 z5_6 z6_6 z7_6 z8_6 z9_6 z10_6 z11_6 z12_6 z13_6
  go_wp2_with fail
  refine (CT.out _ (HA.out.on B7.out)).mono ?_
  rintro e w8 ⟨rfl, hbl, b8⟩
  have T8 := hid hbl
  clear hbl
  have B8 := hid (below_via B7.out b8)
  have Y8 := hid (Y7.out.on b8 Y7.out.lt)
  have Z8 := hid (Z7.out.on b8 Z7.out.lt)
  have X8 := hid (X7.out.on b8 X7.out.lt)
  have RC8 := hid (row_ext RC7.out fun g cs h9 => h9.on b8 h9.lt)
  have GC8 := hid (row_ext GC7.out fun g cs h9 => h9.on b8 h9.lt)
  clear b8 B7 Y7 Z7 X7 RC7 GC7
  go_wp2_with fail
  refine (eqIntS_same _ _ zs _ _ hle _ (intsAt_of (r := []) (by rw [List.append_nil]; exact X8.out)) (intsAt_of (r := []) (by rw [List.append_nil]; exact T8.out))).mono ?_
  rintro e w9 ⟨rfl, b9⟩
  have B9 := hid (below_via B8.out b9)
  have Y9 := hid (Y8.out.on b9 Y8.out.lt)
  have Z9 := hid (Z8.out.on b9 Z8.out.lt)
  have X9 := hid (X8.out.on b9 X8.out.lt)
  have RC9 := hid (row_ext RC8.out fun g cs h9 => h9.on b9 h9.lt)
  have GC9 := hid (row_ext GC8.out fun g cs h9 => h9.on b9 h9.lt)
  clear b9 T8 B8 Y8 Z8 X8 RC8 GC8
  go_wp2_with fail
  refine (markIntS_any gx zs zs.length 1 (by omega) hl _ X9.out).mono ?_
  rintro e w10 ⟨rfl, _, hg⟩
  have B10 := hid (B9.out.grown hg B9.out.size (fun k q => by cases q; exact HLX.out))
  have Y10 := hid (box_apart Y9.out X9.out hg (by decide))
  have Z10 := hid (box_apart Z9.out X9.out hg (by decide))
  have RC10 := hid (row_apart RC9.out hg (fun g q => Nat.ne_of_lt (HWC.out g q)))
  have GC10 := hid (row_apart GC9.out hg (fun g q => Nat.ne_of_gt (HGC.out g q)))
  have hp1 : ¬ ((1 + zs.length : Nat) : Int) < 0 := by omega
  obtain ⟨M, hM⟩ : ∃ M : Nat, 1 + zs.length = M := ⟨_, rfl⟩
  rw [hM] at hp1 ⊢
  clear hM hg B9 Y9 Z9 X9 RC9 GC9
  have y0_10 := Y10.out.cell (j := 0) rfl
  have y1_10 := Y10.out.cell (j := 1) rfl
  have y2_10 := Y10.out.cell (j := 2) rfl
  have y3_10 := Y10.out.cell (j := 3) rfl
  have y4_10 := Y10.out.cell (j := 4) rfl
  have y5_10 := Y10.out.cell (j := 5) rfl
  have y6_10 := Y10.out.cell (j := 6) rfl
  have y7_10 := Y10.out.cell (j := 7) rfl
  have y8_10 := Y10.out.cell (j := 8) rfl
  have y9_10 := Y10.out.cell (j := 9) rfl
  have y10_10 := Y10.out.cell (j := 10) rfl
  have y11_10 := Y10.out.cell (j := 11) rfl
  have y12_10 := Y10.out.cell (j := 12) rfl
  have y13_10 := Y10.out.cell (j := 13) rfl
  have z0_10 := Z10.out.cell (j := 0) rfl
  have z1_10 := Z10.out.cell (j := 1) rfl
  have z2_10 := Z10.out.cell (j := 2) rfl
  have z3_10 := Z10.out.cell (j := 3) rfl
  have z4_10 := Z10.out.cell (j := 4) rfl
  have z5_10 := Z10.out.cell (j := 5) rfl
  have z6_10 := Z10.out.cell (j := 6) rfl
  have z7_10 := Z10.out.cell (j := 7) rfl
  have z8_10 := Z10.out.cell (j := 8) rfl
  have z9_10 := Z10.out.cell (j := 9) rfl
  have z10_10 := Z10.out.cell (j := 10) rfl
  have z11_10 := Z10.out.cell (j := 11) rfl
  have z12_10 := Z10.out.cell (j := 12) rfl
  have z13_10 := Z10.out.cell (j := 13) rfl
  go_wp2_with fail
  refine (eqNode_same (newD I C L) ⟨co6, cc6, eo6, ec6, none, 0, none, 0⟩ ⟨co3, cc3, eo3, ec3, none, 0, none, 0⟩ (newD_small hCl) _ (newD_at (ints_row rfl GC10.out)) (newD_at (ints_row rfl RC10.out))).mono ?_
  rintro e w11 ⟨rfl, b11⟩
  have B11 := hid (below_via B10.out b11)
  have Y11 := hid (Y10.out.on b11 Y10.out.lt)
  have Z11 := hid (Z10.out.on b11 Z10.out.lt)
  have RC11 := hid (row_ext RC10.out fun g cs h9 => h9.on b11 h9.lt)
  have GC11 := hid (row_ext GC10.out fun g cs h9 => h9.on b11 h9.lt)
  clear b11 B10 Y10 Z10 RC10 GC10 y0_10 y1_10 y2_10 y3_10 y4_10 y5_10 y6_10 y7_10 y8_10 y9_10 y10_10 y11_10 y12_10 y13_10 z0_10 z1_10 z2_10 z3_10 z4_10 z5_10 z6_10 z7_10 z8_10 z9_10 z10_10 z11_10 z12_10 z13_10
  have y0_11 := Y11.out.cell (j := 0) rfl
  have y1_11 := Y11.out.cell (j := 1) rfl
  have y2_11 := Y11.out.cell (j := 2) rfl
  have y3_11 := Y11.out.cell (j := 3) rfl
  have y4_11 := Y11.out.cell (j := 4) rfl
  have y5_11 := Y11.out.cell (j := 5) rfl
  have y6_11 := Y11.out.cell (j := 6) rfl
  have y7_11 := Y11.out.cell (j := 7) rfl
  have y8_11 := Y11.out.cell (j := 8) rfl
  have y9_11 := Y11.out.cell (j := 9) rfl
  have y10_11 := Y11.out.cell (j := 10) rfl
  have y11_11 := Y11.out.cell (j := 11) rfl
  have y12_11 := Y11.out.cell (j := 12) rfl
  have y13_11 := Y11.out.cell (j := 13) rfl
  have z0_11 := Z11.out.cell (j := 0) rfl
  have z1_11 := Z11.out.cell (j := 1) rfl
  have z2_11 := Z11.out.cell (j := 2) rfl
  have z3_11 := Z11.out.cell (j := 3) rfl
  have z4_11 := Z11.out.cell (j := 4) rfl
  have z5_11 := Z11.out.cell (j := 5) rfl
  have z6_11 := Z11.out.cell (j := 6) rfl
  have z7_11 := Z11.out.cell (j := 7) rfl
  have z8_11 := Z11.out.cell (j := 8) rfl
  have z9_11 := Z11.out.cell (j := 9) rfl
  have z10_11 := Z11.out.cell (j := 10) rfl
  have z11_11 := Z11.out.cell (j := 11) rfl
  have z12_11 := Z11.out.cell (j := 12) rfl
  have z13_11 := Z11.out.cell (j := 13) rfl
  go_wp2_with fail
  refine (markNew_own w4.heap.size I L co6 eo6 cc6 ec6 C hCl _ GC11.out).mono ?_
  rintro e w12 ⟨rfl, ms, mk⟩
  have B12 := hid (mk.2.2 w hw4s B11.out)
  have Y12 := hid (mk.box Y11.out GC11.out (by decide))
  have Z12 := hid (mk.box Z11.out GC11.out (by decide))
  have RC12 := hid (mk.row RC11.out (fun g hg q => by have h1 := HWC.out g hg; have h2 := HGC.out g q; omega))
  have MC12 := hid ms
  clear ms mk B11 Y11 Z11 RC11 GC11 y0_11 y1_11 y2_11 y3_11 y4_11 y5_11 y6_11 y7_11 y8_11 y9_11 y10_11 y11_11 y12_11 y13_11 z0_11 z1_11 z2_11 z3_11 z4_11 z5_11 z6_11 z7_11 z8_11 z9_11 z10_11 z11_11 z12_11 z13_11 HWC HGC HLX
  have y0_12 := Y12.out.cell (j := 0) rfl
  have y1_12 := Y12.out.cell (j := 1) rfl
  have y2_12 := Y12.out.cell (j := 2) rfl
  have y3_12 := Y12.out.cell (j := 3) rfl
  have y4_12 := Y12.out.cell (j := 4) rfl
  have y5_12 := Y12.out.cell (j := 5) rfl
  have y6_12 := Y12.out.cell (j := 6) rfl
  have y7_12 := Y12.out.cell (j := 7) rfl
  have y8_12 := Y12.out.cell (j := 8) rfl
  have y9_12 := Y12.out.cell (j := 9) rfl
  have y10_12 := Y12.out.cell (j := 10) rfl
  have y11_12 := Y12.out.cell (j := 11) rfl
  have y12_12 := Y12.out.cell (j := 12) rfl
  have y13_12 := Y12.out.cell (j := 13) rfl
  have z0_12 := Z12.out.cell (j := 0) rfl
  have z1_12 := Z12.out.cell (j := 1) rfl
  have z2_12 := Z12.out.cell (j := 2) rfl
  have z3_12 := Z12.out.cell (j := 3) rfl
  have z4_12 := Z12.out.cell (j := 4) rfl
  have z5_12 := Z12.out.cell (j := 5) rfl
  have z6_12 := Z12.out.cell (j := 6) rfl
  have z7_12 := Z12.out.cell (j := 7) rfl
  have z8_12 := Z12.out.cell (j := 8) rfl
  have z9_12 := Z12.out.cell (j := 9) rfl
  have z10_12 := Z12.out.cell (j := 10) rfl
  have z11_12 := Z12.out.cell (j := 11) rfl
  have z12_12 := Z12.out.cell (j := 12) rfl
  have z13_12 := Z12.out.cell (j := 13) rfl
  have hmk : ¬ ((1 + C.length : Nat) : Int) < 0 := by omega
  have HS := hid (fun W (h : IntsAt W co6 (countFrom 1 C.length)) => heldNew_own I L co6 eo6 cc6 ec6 C.length hCl W h)
  obtain ⟨K, hK⟩ : ∃ K : Nat, 1 + C.length = K := ⟨_, rfl⟩
  rw [hK] at hmk HS ⊢
  clear hK
  go_wp2_with fail
  refine (HS.out _ MC12.out).mono ?_
  rintro e w13 ⟨rfl, b13⟩
  have B13 := hid (below_via B12.out b13)
  have Y13 := hid (Y12.out.on b13 Y12.out.lt)
  have Z13 := hid (Z12.out.on b13 Z12.out.lt)
  have RC13 := hid (row_ext RC12.out fun g cs h9 => h9.on b13 h9.lt)
  have MC13 := hid (MC12.out.on b13)
  clear b13 B12 Y12 Z12 RC12 MC12 y0_12 y1_12 y2_12 y3_12 y4_12 y5_12 y6_12 y7_12 y8_12 y9_12 y10_12 y11_12 y12_12 y13_12 z0_12 z1_12 z2_12 z3_12 z4_12 z5_12 z6_12 z7_12 z8_12 z9_12 z10_12 z11_12 z12_12 z13_12
  go_wp2_with fail
  refine (CT.out _ (HA.out.on B13.out)).mono ?_
  rintro e w14 ⟨rfl, hbl, b14⟩
  have T14 := hid hbl
  clear hbl
  have B14 := hid (below_via B13.out b14)
  have Y14 := hid (Y13.out.on b14 Y13.out.lt)
  have Z14 := hid (Z13.out.on b14 Z13.out.lt)
  have RC14 := hid (row_ext RC13.out fun g cs h9 => h9.on b14 h9.lt)
  have MC14 := hid (MC13.out.on b14)
  clear b14 B13 Y13 Z13 RC13 MC13
  go_wp2_with fail
  refine (CI.out _ _ w14 (intsAt_of (r := []) (by rw [List.append_nil]; exact T14.out))).mono ?_
  rintro e w15 ⟨co9, cc9, eo9, ec9, rfl, hk, hb⟩
  have bn := below_more (Below.refl w15.heap.size w15) (.cells #[.int .i64 I, .int .i64 0, .int .i64 0, .int .i64 0, .int .i64 0, .slice co9 C.length cc9, .int .i64 0, .int .i64 0, .slice eo9 0 ec9, .int .i64 0, .int .i64 0, .int .i64 L, .slice none 0 0, .slice none 0 0] 36)
  have nn : BlockIs (w15.alloc (.cells #[.int .i64 I, .int .i64 0, .int .i64 0, .int .i64 0, .int .i64 0, .slice co9 C.length cc9, .int .i64 0, .int .i64 0, .slice eo9 0 ec9, .int .i64 0, .int .i64 0, .int .i64 L, .slice none 0 0, .slice none 0 0] 36)) w15.heap.size 36 [.int .i64 I, .int .i64 0, .int .i64 0, .int .i64 0, .int .i64 0, .slice co9 C.length cc9, .int .i64 0, .int .i64 0, .slice eo9 0 ec9, .int .i64 0, .int .i64 0, .int .i64 L, .slice none 0 0, .slice none 0 0] := heap_alloc_new w15 _
  obtain ⟨U15, hU15⟩ : ∃ W, w15.alloc (.cells #[.int .i64 0, .int .i64 0, .int .i64 0, .int .i64 0, .int .i64 0, .slice none 0 0, .int .i64 0, .int .i64 0, .slice none 0 0, .int .i64 0, .int .i64 0, .int .i64 0, .slice none 0 0, .slice none 0 0] 36) = W := ⟨_, rfl⟩
  have KZ15 : BlockIs U15 w15.heap.size 36 [.int .i64 0, .int .i64 0, .int .i64 0, .int .i64 0, .int .i64 0, .slice none 0 0, .int .i64 0, .int .i64 0, .slice none 0 0, .int .i64 0, .int .i64 0, .int .i64 0, .slice none 0 0, .slice none 0 0] := by rw [← hU15]; exact heap_alloc_new _ _
  obtain ⟨w16, hw16⟩ : ∃ W, U15.setRow w15.heap.size #[.int .i64 I, .int .i64 0, .int .i64 0, .int .i64 0, .int .i64 0, .slice co9 C.length cc9, .int .i64 0, .int .i64 0, .slice eo9 0 ec9, .int .i64 0, .int .i64 0, .int .i64 L, .slice none 0 0, .slice none 0 0] = W := ⟨_, rfl⟩
  have hov : w15.alloc (.cells #[.int .i64 I, .int .i64 0, .int .i64 0, .int .i64 0, .int .i64 0, .slice co9 C.length cc9, .int .i64 0, .int .i64 0, .slice eo9 0 ec9, .int .i64 0, .int .i64 0, .int .i64 L, .slice none 0 0, .slice none 0 0] 36) = w16 := by rw [← hw16, ← hU15, whole_over]
  rw [hov] at bn nn
  have V16 := hid nn
  have bb := below_via hb bn
  have VC16 := hid (row_ext hk fun g cs h9 => h9.on bn h9.lt)
  have B16 := hid (below_via B14.out bb)
  have Y16 := hid (Y14.out.on bb Y14.out.lt)
  have Z16 := hid (Z14.out.on bb Z14.out.lt)
  have RC16 := hid (row_ext RC14.out fun g cs h9 => h9.on bb h9.lt)
  have MC16 := hid (MC14.out.on bb)
  clear bn nn bb hk hb hov T14 B14 Y14 Z14 RC14 MC14
  have y0_16 := Y16.out.cell (j := 0) rfl
  have y1_16 := Y16.out.cell (j := 1) rfl
  have y2_16 := Y16.out.cell (j := 2) rfl
  have y3_16 := Y16.out.cell (j := 3) rfl
  have y4_16 := Y16.out.cell (j := 4) rfl
  have y5_16 := Y16.out.cell (j := 5) rfl
  have y6_16 := Y16.out.cell (j := 6) rfl
  have y7_16 := Y16.out.cell (j := 7) rfl
  have y8_16 := Y16.out.cell (j := 8) rfl
  have y9_16 := Y16.out.cell (j := 9) rfl
  have y10_16 := Y16.out.cell (j := 10) rfl
  have y11_16 := Y16.out.cell (j := 11) rfl
  have y12_16 := Y16.out.cell (j := 12) rfl
  have y13_16 := Y16.out.cell (j := 13) rfl
  have z0_16 := Z16.out.cell (j := 0) rfl
  have z1_16 := Z16.out.cell (j := 1) rfl
  have z2_16 := Z16.out.cell (j := 2) rfl
  have z3_16 := Z16.out.cell (j := 3) rfl
  have z4_16 := Z16.out.cell (j := 4) rfl
  have z5_16 := Z16.out.cell (j := 5) rfl
  have z6_16 := Z16.out.cell (j := 6) rfl
  have z7_16 := Z16.out.cell (j := 7) rfl
  have z8_16 := Z16.out.cell (j := 8) rfl
  have z9_16 := Z16.out.cell (j := 9) rfl
  have z10_16 := Z16.out.cell (j := 10) rfl
  have z11_16 := Z16.out.cell (j := 11) rfl
  have z12_16 := Z16.out.cell (j := 12) rfl
  have z13_16 := Z16.out.cell (j := 13) rfl
  have v0_16 := V16.out.cell (j := 0) rfl
  have v1_16 := V16.out.cell (j := 1) rfl
  have v2_16 := V16.out.cell (j := 2) rfl
  have v3_16 := V16.out.cell (j := 3) rfl
  have v4_16 := V16.out.cell (j := 4) rfl
  have v5_16 := V16.out.cell (j := 5) rfl
  have v6_16 := V16.out.cell (j := 6) rfl
  have v7_16 := V16.out.cell (j := 7) rfl
  have v8_16 := V16.out.cell (j := 8) rfl
  have v9_16 := V16.out.cell (j := 9) rfl
  have v10_16 := V16.out.cell (j := 10) rfl
  have v11_16 := V16.out.cell (j := 11) rfl
  have v12_16 := V16.out.cell (j := 12) rfl
  have v13_16 := V16.out.cell (j := 13) rfl
  go_wp2_with (first | (refine wpList_store_whole node_size KZ15 rfl rfl _ _ rfl _ rfl rfl rfl (by simp [Value.oneCell']) ?_; rw [hw16]) | fail)
  refine (eqNode_same (newD I C L) ⟨co9, cc9, eo9, ec9, none, 0, none, 0⟩ ⟨co3, cc3, eo3, ec3, none, 0, none, 0⟩ (newD_small hCl) _ (newD_at (ints_row rfl VC16.out)) (newD_at (ints_row rfl RC16.out))).mono ?_
  rintro e w17 ⟨rfl, b17⟩
  have B17 := hid (below_via B16.out b17)
  have Y17 := hid (Y16.out.on b17 Y16.out.lt)
  have Z17 := hid (Z16.out.on b17 Z16.out.lt)
  have MC17 := hid (MC16.out.on b17)
  clear b17 hw16 hU15 KZ15 V16 VC16 RC16 B16 Y16 Z16 MC16 y0_16 y1_16 y2_16 y3_16 y4_16 y5_16 y6_16 y7_16 y8_16 y9_16 y10_16 y11_16 y12_16 y13_16 z0_16 z1_16 z2_16 z3_16 z4_16 z5_16 z6_16 z7_16 z8_16 z9_16 z10_16 z11_16 z12_16 z13_16 v0_16 v1_16 v2_16 v3_16 v4_16 v5_16 v6_16 v7_16 v8_16 v9_16 v10_16 v11_16 v12_16 v13_16
  have y0_17 := Y17.out.cell (j := 0) rfl
  have y1_17 := Y17.out.cell (j := 1) rfl
  have y2_17 := Y17.out.cell (j := 2) rfl
  have y3_17 := Y17.out.cell (j := 3) rfl
  have y4_17 := Y17.out.cell (j := 4) rfl
  have y5_17 := Y17.out.cell (j := 5) rfl
  have y6_17 := Y17.out.cell (j := 6) rfl
  have y7_17 := Y17.out.cell (j := 7) rfl
  have y8_17 := Y17.out.cell (j := 8) rfl
  have y9_17 := Y17.out.cell (j := 9) rfl
  have y10_17 := Y17.out.cell (j := 10) rfl
  have y11_17 := Y17.out.cell (j := 11) rfl
  have y12_17 := Y17.out.cell (j := 12) rfl
  have y13_17 := Y17.out.cell (j := 13) rfl
  have z0_17 := Z17.out.cell (j := 0) rfl
  have z1_17 := Z17.out.cell (j := 1) rfl
  have z2_17 := Z17.out.cell (j := 2) rfl
  have z3_17 := Z17.out.cell (j := 3) rfl
  have z4_17 := Z17.out.cell (j := 4) rfl
  have z5_17 := Z17.out.cell (j := 5) rfl
  have z6_17 := Z17.out.cell (j := 6) rfl
  have z7_17 := Z17.out.cell (j := 7) rfl
  have z8_17 := Z17.out.cell (j := 8) rfl
  have z9_17 := Z17.out.cell (j := 9) rfl
  have z10_17 := Z17.out.cell (j := 10) rfl
  have z11_17 := Z17.out.cell (j := 11) rfl
  have z12_17 := Z17.out.cell (j := 12) rfl
  have z13_17 := Z17.out.cell (j := 13) rfl
  go_wp2_with fail
  refine (HS.out _ MC17.out).mono ?_
  rintro e w18 ⟨rfl, b18⟩
  have B18 := hid (below_via B17.out b18)
  clear b18
  go_wp2
  go_ret
  exact ⟨rfl, B18.out⟩

theorem own : ownKnob Try.prog.godebug = none := by kernel_rfl
theorem laidOut : laidOutB Try.prog = true := by kernel_rfl
theorem rowed : varsRowed Try.prog Rows.fnExactNodeNewSpec.vars = true := by kernel_rfl
set_option maxRecDepth 1000000 in
theorem contract (H : Type) (enc : TypeId × Value → H) (W : World) (base : Nat) (args : Array Value) (ds gs : List (DataW H)) (before : List MemPlace)
    (hval : ∀ (j : Nat) t v, Try.f4.params[j]? = some t → args[j]? = some v → Value.okWide Try.prog W .any base t v)
    (hW : DataW.Whole enc Try.prog Try.f4.params.toList Rows.fnExactNodeNewSpec.vars false W args.toList ds gs before) (_hL : laidMetH Try.prog Rows.fnExactNodeNewRow.laid W) :
    Calls Try.prog 4 args W fun e W' => ∃ v, e = .returned v ∧ Rows.fnExactNodeNewSpec.post enc Try.prog Try.f4 false true false false W args v W' := by
  have hW' := hW
  obtain ⟨p, q, hA0, hV0, rfl, hfz, hnd⟩ := hW
  have hV : DataW.TrodVars enc Try.prog W (fun _ => true) Rows.fnExactNodeNewSpec.vars gs q := hV0
  have hA : DataW.TrodAll enc Try.prog W 0 (fun _ => true) true Try.f4.params.toList args.toList ds p := hA0
  rw [Try.params4] at hA hval
  obtain ⟨v0, vs0, d0, ds0, p0, q0, hargs0, rfl, rfl, h0, r0⟩ := trodAll_cons hA
  obtain ⟨v1, vs1, d1, ds1, p1, q1, hargs1, rfl, rfl, h1, r1⟩ := trodAll_cons r0
  subst hargs1
  obtain ⟨rfl, rfl, rfl⟩ := trodAll_nil r1
  obtain rfl : args = #[v0, v1] := by cases args; simp_all
  obtain ⟨a0, rfl, rfl, rfl, w0⟩ := open_int Try.underlying3 (hval 0 3 v0 rfl rfl) h0
  have k1 := h1
  have lt1 : ∀ x ∈ p1, x.block < W.heap.size := by obtain ⟨m, hm⟩ := k1; exact DataW.trod_lt m _ _ _ hm
  obtain ⟨a1, z1, cap1, rfl, hc1, hm1, hat1, hf1⟩ := open_intS (hval 1 22 v1 rfl rfl) h1
  clear hA0 hV0
  obtain ⟨rfl, rfl⟩ := trodVars_none hV
  refine (walk a0 w0 a1 z1 cap1 (Nat.le_trans hc1 hm1) hf1 W hat1).mono fun e W' ⟨he, bel⟩ => ?_
  subst he
  exact ⟨_, rfl, _, _, _, [], _, [], hW', trodAll_mk1 (shut_bool Try.underlying4 _), trodAll_cons_mk (shut_int Try.underlying3 w0) (trodAll_cons_mk (Below.trod laidOut (by kernel_rfl) (of_decide_eq_true (by kernel_rfl)) k1 bel lt1) (trodAll_mk0)), rfl, bel.frame _, fun h => by cases h⟩

def put (cs : Array Value) : Obj → Obj
  | .cells _ t frozen => .cells cs t frozen
  | o => o

/-- a world for the witness: the tables hold what their initialisers lay -/
def laidWorld (w : World) : World := { w with heap := w.heap }
theorem laid_met (os : Os) : laidMet Try.prog Rows.fnExactNodeNewRow.laid ((laidWorld (World.holding Try.prog os ⟨#[], #[], []⟩)).forCall (fun _ _ => 0) ⟨#[], #[.int .i64 0, .slice none 0 0], []⟩).memory :=
  laidMet_of_run' 8 (by kernel_rfl) (by kernel_rfl)
theorem reads (os : Os) {H : Type} (enc : TypeId × Value → H) : ∃ places, DataW.whole enc Try.prog ((laidWorld (World.holding Try.prog os ⟨#[], #[], []⟩)).forCall (fun _ _ => 0) ⟨#[], #[.int .i64 0, .slice none 0 0], []⟩).memory Try.f4.params.toList Rows.fnExactNodeNewSpec.vars false #[Value.int .i64 0, .slice none 0 0].toList 8 = some ([.lit (.int .i64 0), .nil], [], places) :=
  ⟨[], by kernel_rfl⟩

set_option maxRecDepth 1000000 in
theorem lifted (os : Os) (started : os.Started) (H : Type) (enc : TypeId × Value → H) (F : Stop.Interp) :
    ReturnsInHanded {} Try.checked os 4 .any ((OpenSpec.ofChange Rows.fnExactNodeNewSpec).preRow enc Try.prog Try.f4 Rows.fnExactNodeNewRow.domain false Rows.fnExactNodeNewRow.laid) (((OpenSpec.ofChange Rows.fnExactNodeNewSpec).at F).post enc Try.prog Try.f4 false true false false) := by
  obtain ⟨places, hx⟩ := reads os enc
  refine returnsInHanded_of_row (C := Try.checked) (s := OpenSpec.ofChange Rows.fnExactNodeNewSpec) own started (by kernel_rfl) Try.func4
    (witness_row_at (enc := enc) (C := Try.checked) false (laidWorld (World.holding Try.prog os ⟨#[], #[], []⟩)) #[.int .i64 0, .slice none 0 0] rfl (by kernel_rfl) (by kernel_rfl) (by kernel_rfl)
      (OpenSpec.preRow_of_cond 8 hx (by kernel_rfl) (fun k hk => by cases hk) (by kernel_rfl) (laid_met os))) ?_
  intro W base args ds gs before hval hW _ _ _ hL _ _
  exact contract H enc W base args ds gs before hval hW hL

theorem said : Rows.FnExactNodeNewSaid :=
  OpenClaim.holds_of_cond 4 Try.f4 rfl rfl rfl rfl rfl rfl rfl ⟨rfl, rfl, rfl, rfl, rfl⟩ rfl rfl rfl rfl rfl (by kernel_rfl) Try.func4 (by kernel_rfl)
    (of_decide_eq_true (by kernel_rfl)) (by unfold Func.isWrapper; first | (rw [if_pos (by decide +kernel)]; kernel_rfl) | (rw [if_neg (by decide +kernel)]; exact ⟨rfl, rfl⟩))
    (fun os started H enc _ F => by rw [OpenClaim.pre_eq_preRow]; exact lifted os started H enc F)

end Go.Proofs.Yteceaohhnjlmbaa.fnExactNodeNew
