/-
  The walk of spec.l15Do: what a command does to the items.
  The walk of spec.l01In: whether a number is within bounds.
-/
import Derived.Test.YtoanhjjigbjecaaGreatDoorJoint1
import Derived.Test.YtoanhjjigbjecaaGreatDoorJoint11
import Derived.Test.YtoanhjjigbjecaaGreatDoorJoint3
import Derived.Test.YtoanhjjigbjecaaGreatDoorJoint9
import Derived.Test.YtoanhjjigbjecaaGreatDoorJoint7
import Derived.Maps.AppendAt
import Derived.Laws.Cover1
import Derived.BigQuiet
import Derived.Deep.QuietTactic
import Derived.Deep.LoopGhost
import Derived.OwnWalk
import Derived.WalkKit
import Derived.Test.YtoanhjjigbjecaaGreatDoorRows
namespace Go.Proofs.YtoanhjjigbjecaaGreatDoor
open Go.RowKit

/-- what a command left: the reply, the keep's box, its row -/
def DoKDid (g lo : Nat) (sv : Value) (res : List ItemD × ByteArray) (w : World) (e : Ending) (w' : World) : Prop :=
  e = .returned (.string res.2) ∧ ∃ vb vd, BlockIs w' g 56 [sv, .slice vb res.1.length vd] ∧ w'.ownsRow lo 89 3 (.slice vb res.1.length vd) res.1.length (itemCells res.1) ∧ w.grownBy w' (some g)
theorem doK_same {g lo : Nat} {sv : Value} {bo : Option Addr} {li : List ItemD} {bc : Nat} {w w' : World} {t : ByteArray} (hk : BlockIs w g 56 [sv, .slice bo li.length bc]) (hr : w.ownsRow lo 89 3 (.slice bo li.length bc) li.length (itemCells li)) (hb : Below w.heap.size w w') : DoKDid g lo sv (li, t) w (.returned (.string t)) w' :=
  ⟨rfl, bo, bc, hk.on hb hk.lt, row_onK hr hb, grown_of_below hb (some g)⟩
theorem doK_set {g lo : Nat} {sv u : Value} {l : List ItemD} {vb : Option Addr} {vd : Nat} {w w1 w2 : World} {t : ByteArray} (hk : BlockIs w g 56 [sv, u]) (hb : Below w.heap.size w w1) (hr : w1.ownsRow lo 89 3 (.slice vb l.length vd) l.length (itemCells l)) (h2 : Below (w1.setCell ⟨g, 1, none⟩ (.slice vb l.length vd)).heap.size (w1.setCell ⟨g, 1, none⟩ (.slice vb l.length vd)) w2) : DoKDid g lo sv (l, t) w (.returned (.string t)) w2 := by
  have k1 := hk.on hb hk.lt
  have k2 := k1.set 1 (.slice vb l.length vd)
  have r2 := row_farK (j := 1) hr k1 (by decide) (.slice vb l.length vd)
  exact ⟨rfl, vb, vd, k2.on h2 k2.lt, row_onK r2 h2, ((grown_of_below hb (some g)).trans (grownBy_set w1 g 1 _)).trans (grown_of_below h2 (some g))⟩

set_option maxRecDepth 1000000 in
set_option maxHeartbeats 4000000 in
theorem l15Do_any (g lo : Nat) (sv : Value) (bo : Option Addr) (li : List ItemD) (bc : Nat) (index : Int) (x : CommandD) (hsv : ∃ a n c, sv = .slice a n c) (h0 : 0 ≤ index) (h1 : index ≤ 400000) (hl : li.length ≤ 8) (hfine : ∀ e ∈ li, itemFine e = true) (hop : x.op = 2 ∨ x.op = 3 ∨ x.op = 4 ∨ x.op = 5) (w : World) (hlo : lo ≤ w.heap.size) (hk : BlockIs w g 56 [sv, .slice bo li.length bc]) (hr : w.ownsRow lo 89 3 (.slice bo li.length bc) li.length (itemCells li)) :
    Calls Tryz.prog 86 #[.pointer (some ⟨g, 0, none⟩), .int .i64 index, .agg #[.int .i64 x.op, .int .i64 x.token, .int .i64 x.seq, .string x.key, .string x.val, .int .i64 x.ver]] w fun e w' => DoKDid g lo sv (doD li index x) w e w' := by
  obtain ⟨sa, sn, sc, rfl⟩ := hsv
  have CD : Hid (∀ (n : Int) w, 0 ≤ n → n ≤ 1000000000 → Calls Tryz.prog 59 #[.int .i64 n] w fun e w' => e = .returned (.string (decT n)) ∧ Below w.heap.size w w') := by
    intro n w h0 h1
    obtain ⟨n, rfl⟩ := Int.eq_ofNat_of_zero_le h0
    exact specDecimal_nat n (by omega) w
  have hver : (itemOf li x.key).2 = true → (1 ≤ (itemOf li x.key).1.ver ∧ (itemOf li x.key).1.ver ≤ 1000000000) ∧ (itemOf li x.key).1.val.size ≤ 20 := by
    intro h
    have h2 := hfine _ (itemOf_true h).1
    simp only [itemFine, within, Bool.and_eq_true, decide_eq_true_eq] at h2
    omega
  have HK := hid hk
  have HR := hid hr
  have HI := hid (itemR_at hr)
  have hb0 := below_more (Below.refl w.heap.size w) (.cells #[.int .i64 x.op, .int .i64 x.token, .int .i64 x.seq, .string x.key, .string x.val, .int .i64 x.ver] 94)
  have hx0 : BlockIs (w.alloc (.cells #[.int .i64 x.op, .int .i64 x.token, .int .i64 x.seq, .string x.key, .string x.val, .int .i64 x.ver] 94)) w.heap.size 94 [.int .i64 x.op, .int .i64 x.token, .int .i64 x.seq, .string x.key, .string x.val, .int .i64 x.ver] := heap_alloc_new w _
  have hk0 := hk.on hb0 hk.lt
  obtain ⟨W0, hW0⟩ : ∃ W, w.alloc (.cells #[.int .i64 x.op, .int .i64 x.token, .int .i64 x.seq, .string x.key, .string x.val, .int .i64 x.ver] 94) = W := ⟨_, rfl⟩
  rw [hW0] at hb0 hx0 hk0
  have B0 := hid hb0
  have X0 := hid hx0
  have K0 := hid hk0
  have HI0 := hid (HI.out.on hb0)
  have HDO : Hid (doD li index x = doD li index x) := rfl
  obtain ⟨it, hit⟩ : ∃ it, (itemOf li x.key).1 = it := ⟨_, rfl⟩
  obtain ⟨has, hhas⟩ : ∃ h, (itemOf li x.key).2 = h := ⟨_, rfl⟩
  have CI : Hid (∀ W, ItemsAt W bo li → Calls Tryz.prog 103 #[.agg #[.slice sa sn sc, .slice bo li.length bc], .string x.key] W fun e w' => e = .returned (.tuple #[.agg #[.string it.key, .string it.val, .int .i64 it.ver], .bool has]) ∧ Below W.heap.size W w') := by
    intro W hW
    have := specItemOf_any sa bo sn sc bc li x.key (by omega) W hW
    rw [hit, hhas] at this
    exact this
  rw [hit, hhas] at hver
  have HIT := hid hit
  have HHAS := hid hhas
  have HV := hid hver
  clear hb0 hx0 hk0 hk hr hit hhas hver HDO
  go_enter Tryz.func86, Tryz.ntmps86
  go_wp2
  refine wp_region_each (N := 98) (by kernel_rfl) (by kernel_rfl) rfl (by kernel_rfl) (fun W => Below W0.heap.size W0 W) (fun j v u W => match j with | 0 => v = .pointer (some ⟨g, 0, none⟩) | 1 => v = .pointer (some ⟨g, 0, none⟩) | 2 => v = .agg #[.slice sa sn sc, .slice bo li.length bc] | 3 => v = .pointer (some ⟨w.heap.size, 3, none⟩) | 4 => v = .string x.key | 5 => v = .tuple #[.agg #[.string it.key, .string it.val, .int .i64 it.ver], .bool has] | 6 => v = .tuple #[.agg #[.string it.key, .string it.val, .int .i64 it.ver], .bool has] | 7 => v = .agg #[.string it.key, .string it.val, .int .i64 it.ver] | 8 => v = .bool has | 9 => ∃ q : Nat, v = .pointer (some ⟨q, 0, none⟩) ∧ W0.heap.size ≤ q ∧ BlockIs W q 89 [.string ⟨#[]⟩, .string ⟨#[]⟩, .int .i64 0] | 10 => ∃ q : Nat, u = .pointer (some ⟨q, 0, none⟩) ∧ W0.heap.size ≤ q ∧ BlockIs W q 89 [.string it.key, .string it.val, .int .i64 it.ver] | 11 => v = .bool has | _ => True) (fun i => if i = 10 then 9 else i) (fun j i => decide ((j, i) ∈ ([(9, 10)] : List (Nat × Nat)))) (fun i X9 Y9 => ∀ g ty cs, BlockIs X9 g ty cs → i ≠ 10 → BlockIs Y9 g ty cs) (fun i => if i = 10 then 7 else 0) (by kernel_rfl) (fun i hi => by have : 12 ≤ i := hi; simp; omega) ?_ (below_drewN (Below.refl _ _) 1) ?_ ?_
  · intro i j v u x y hij hdd hwt hxy hg
    match j, hg with
    | 0, hg => exact hg
    | 1, hg => exact hg
    | 2, hg => exact hg
    | 3, hg => exact hg
    | 4, hg => exact hg
    | 5, hg => exact hg
    | 6, hg => exact hg
    | 7, hg => exact hg
    | 8, hg => exact hg
    | 9, hg =>
      obtain ⟨q, e1, e2, e3⟩ := hg
      simp at hdd
      exact ⟨q, e1, e2, hxy _ _ _ e3 hdd⟩
    | 10, hg =>
      obtain ⟨q, e1, e2, e3⟩ := hg
      exact ⟨q, e1, e2, hxy _ _ _ e3 hij⟩
    | 11, hg => exact hg
    | n + 12, _ => exact trivial
  · refine ⟨?_, ?_, ?_, ?_, ?_, ?_, ?_, ?_, ?_, ?_, ?_, ?_, trivial⟩
    · intro A W hC hg hb
      have h0 : A.eval (.tmp 0) = .pointer (some ⟨g, 0, none⟩) := hb 0 (base_of (by kernel_rfl))
      exact does_value (v := .pointer (some ⟨g, 0, none⟩)) (w' := W) (by simp only [execOp, h0]; simp [go_sem]) ⟨rfl, hC, fun _ _ _ h _ => h⟩
    · intro A W hC hg hb
      have h12 : A.eval (.tmp 12) = .pointer (some ⟨g, 0, none⟩) := hg 0 12 (by decide) rfl (by simp [Op.operands]) (by kernel_rfl) rfl
      exact does_value (v := .pointer (some ⟨g, 0, none⟩)) (w' := W) (by simp only [execOp, h12]; simp [go_sem]) ⟨rfl, hC, fun _ _ _ h _ => h⟩
    · intro A W hC hg hb
      have h13 : A.eval (.tmp 13) = .pointer (some ⟨g, 0, none⟩) := hg 1 13 (by decide) rfl (by simp [Op.operands]) (by kernel_rfl) rfl
      have c0 := (K0.out.on hC K0.out.lt).cell (j := 0) rfl
      have c1 := (K0.out.on hC K0.out.lt).cell (j := 1) rfl
      exact does_value (v := .agg #[.slice sa sn sc, .slice bo li.length bc]) (w' := W) (by simp only [execOp, h13]; simp [go_sem, c0, c1]) ⟨rfl, hC, fun _ _ _ h _ => h⟩
    · intro A W hC hg hb
      have h5 : A.eval (.tmp 5) = .pointer (some ⟨w.heap.size, 0, none⟩) := hb 5 (base_of (by kernel_rfl))
      exact does_value (v := .pointer (some ⟨w.heap.size, 3, none⟩)) (w' := W) (by simp only [execOp, h5]; simp [go_sem]) ⟨rfl, hC, fun _ _ _ h _ => h⟩
    · intro A W hC hg hb
      have h15 : A.eval (.tmp 15) = .pointer (some ⟨w.heap.size, 3, none⟩) := hg 3 15 (by decide) rfl (by simp [Op.operands]) (by kernel_rfl) rfl
      have c0 := (X0.out.on hC X0.out.lt).cell (j := 3) rfl
      exact does_value (v := .string x.key) (w' := W) (by simp only [execOp, h15]; simp [go_sem, c0]) ⟨rfl, hC, fun _ _ _ h _ => h⟩
    · intro A W hC hg hb
      have h14 : A.eval (.tmp 14) = .agg #[.slice sa sn sc, .slice bo li.length bc] := hg 2 14 (by decide) rfl (by simp [Op.operands, Call.operands]) (by kernel_rfl) rfl
      have h16 : A.eval (.tmp 16) = .string x.key := hg 4 16 (by decide) rfl (by simp [Op.operands, Call.operands]) (by kernel_rfl) rfl
      simp [go_sem] at h14 h16
      refine does_enter (f := 103) (args := #[.agg #[.slice sa sn sc, .slice bo li.length bc], .string x.key]) (w' := W) (by simp [go_sem, h14, h16]) ?_
      refine Calls.mono (CI.out W (HI0.out.on hC)) ?_
      rintro e W' ⟨rfl, hb'⟩
      exact ⟨_, rfl, rfl, below_via hC hb', fun _ _ _ h _ => h.on hb' h.lt⟩
    · intro A W hC hg hb
      have h17 : A.eval (.tmp 17) = .tuple #[.agg #[.string it.key, .string it.val, .int .i64 it.ver], .bool has] := hg 5 17 (by decide) rfl (by simp [Op.operands]) (by kernel_rfl) rfl
      exact does_value (v := .tuple #[.agg #[.string it.key, .string it.val, .int .i64 it.ver], .bool has]) (w' := W) (by simp only [execOp, h17]; simp [go_sem]) ⟨rfl, hC, fun _ _ _ h _ => h⟩
    · intro A W hC hg hb
      have h11 : A.eval (.tmp 11) = .tuple #[.agg #[.string it.key, .string it.val, .int .i64 it.ver], .bool has] := hg 6 11 (by decide) rfl (by simp [Op.operands]) (by kernel_rfl) rfl
      exact does_value (v := .agg #[.string it.key, .string it.val, .int .i64 it.ver]) (w' := W) (by simp only [execOp, h11]; simp [go_sem]) ⟨rfl, hC, fun _ _ _ h _ => h⟩
    · intro A W hC hg hb
      have h11 : A.eval (.tmp 11) = .tuple #[.agg #[.string it.key, .string it.val, .int .i64 it.ver], .bool has] := hg 6 11 (by decide) rfl (by simp [Op.operands]) (by kernel_rfl) rfl
      exact does_value (v := .bool has) (w' := W) (by simp only [execOp, h11]; simp [go_sem]) ⟨rfl, hC, fun _ _ _ h _ => h⟩
    · intro A W hC hg hb
      have ba := below_more (Below.refl W.heap.size W) (.cells #[.string ⟨#[]⟩, .string ⟨#[]⟩, .int .i64 0] 89)
      exact does_value (v := .pointer (some ⟨W.heap.size, 0, none⟩)) (w' := W.alloc (.cells #[.string ⟨#[]⟩, .string ⟨#[]⟩, .int .i64 0] 89)) (by simp [execOp, go_sem]) ⟨⟨_, rfl, hC.size, heap_alloc_new W _⟩, below_via hC ba, fun _ _ _ h _ => h.on ba h.lt⟩
    · intro A W hC hg hb
      have g9 := hg 9 7 (by decide) rfl (by simp [Op.operands]) (by kernel_rfl) rfl
      have h18 : A.eval (.tmp 18) = .agg #[.string it.key, .string it.val, .int .i64 it.ver] := hg 7 18 (by decide) rfl (by simp [Op.operands]) (by kernel_rfl) rfl
      obtain ⟨q, h7, hq, hX⟩ := g9
      have c0 := hX.cell (j := 0) rfl
      have c1 := hX.cell (j := 1) rfl
      have c2 := hX.cell (j := 2) rfl
      have f0 := hX.thaw 0
      have f1 := hX.thaw 1
      have f2 := hX.thaw 2
      have hX3 := ((hX.set 0 (.string it.key)).set 1 (.string it.val)).set 2 (.int .i64 it.ver)
      exact does_skip (w' := (((W.setCell ⟨q, 0, none⟩ (.string it.key)).setCell ⟨q, 1, none⟩ (.string it.val)).setCell ⟨q, 2, none⟩ (.int .i64 it.ver))) (by simp only [execOp, h7, h18]; simp [go_sem, c0, c1, c2, f0, f1, f2]) ⟨⟨q, h7, hq, hX3⟩, ((hC.setCell hq _).setCell hq _).setCell hq _, fun _ _ _ _ hne => absurd rfl hne⟩
    · intro A W hC hg hb
      have h19 : A.eval (.tmp 19) = .bool has := hg 8 19 (by decide) rfl (by simp [Op.operands]) (by kernel_rfl) rfl
      exact does_value (v := .bool has) (w' := W) (by simp only [execOp, h19]; simp [go_sem]) ⟨rfl, hC, fun _ _ _ h _ => h⟩
  · intro vs wa hC hg
    obtain ⟨Q, e9, hQ, hQX⟩ := hg 10 (by decide) (fun k => by simp)
    have e8 := hg 11 (by decide) (fun k => by simp)
    skip
    clear hg
    change Exit.then _ _ _ (laidBy _ vs _ 12 _) wa
    simp only [laidBy, if_true, dstAt, List.getElem?_toArray, List.getElem?_cons_succ, List.getElem?_cons_zero, Option.bind_some]
    simp only [Act.put, List.setIfInBounds_toArray, List.set_cons_succ, List.set_cons_zero]
    change vs 9 = _ at e9
    change vs 11 = _ at e8
    rw [e9, e8]
    clear e9 e8
    have BA := hid hC
    have QX := hid hQX
    have KA := hid (K0.out.on hC K0.out.lt)
    have XA := hid (X0.out.on hC X0.out.lt)
    have IA := hid (HI0.out.on hC)
    have BW := hid (below_via B0.out hC)
    clear hC hQX hQ CI
    have x0 := XA.out.cell (j := 0) rfl
    have x3 := XA.out.cell (j := 3) rfl
    have x4 := XA.out.cell (j := 4) rfl
    have x5 := XA.out.cell (j := 5) rfl
    have q1 := QX.out.cell (j := 1) rfl
    have q2 := QX.out.cell (j := 2) rfl
    rcases hop with o | o | o | o
    · have o2 : x.op = 2 := by omega
      have o3 : ¬ x.op = 3 := by omega
      have o4 : ¬ x.op = 4 := by omega
      have o5 : ¬ x.op = 5 := by omega
      have HDO : Hid (doD li index x = putD li index x) := by show _ = _; rw [doD, if_pos o2]
      go_wp2_with fail
      refine Calls.mono (l15Put_any g (.slice sa sn sc) bo li bc ⟨x.key, x.val, index⟩ hl _ KA.out IA.out) ?_
      rintro e wb (⟨h8, rfl, bb⟩ | ⟨h8, rfl, vb, vd, wc, bb, rr, rfl⟩)
      · have HD2 : Hid (doD li index x = (li, txt [102, 117, 108, 108])) := by show _ = _; rw [HDO.out, putD, if_pos (by omega)]
        have BE := hid (below_via BW.out bb)
        clear bb
        go_wp2
        go_ret
        rw [HD2.out]
        exact doK_same HK.out HR.out BE.out
      · have HD2 : Hid (doD li index x = (putIn keyLt li ⟨x.key, x.val, index⟩, txt [112, 117, 116, 32] ++ decT index)) := by show _ = _; rw [HDO.out, putD, if_neg (by omega)]
        have BE := hid (below_via BW.out bb)
        have RE := hid (row_down rr (show lo ≤ _ from Nat.le_trans hlo BW.out.size))
        have HDL := hid (decT_len h0 (show index ≤ 1000000000 by omega))
        clear bb rr
        go_wp2_with fail
        refine Calls.mono (CD.out index _ h0 (by omega)) ?_
        rintro e wd ⟨rfl, bd⟩
        have BD := hid bd
        clear bd
        have hsz : 4 + (decT index).size ≤ 9223372036854775807 := by have := HDL.out; omega
        go_wp2
        go_ret
        rw [HD2.out]
        exact doK_set HK.out BE.out RE.out BD.out
    · have o2 : ¬ x.op = 2 := by omega
      have o3 : x.op = 3 := by omega
      have o4 : ¬ x.op = 4 := by omega
      have o5 : ¬ x.op = 5 := by omega
      cases has with
      | false =>
        have HD2 : Hid (doD li index x = (li, txt [110, 111])) := by show _ = _; rw [doD, if_neg o2, if_pos HHAS.out]
        go_wp2
        go_ret
        rw [HD2.out]
        exact doK_same HK.out HR.out BW.out
      | true =>
        obtain ⟨⟨hv1, hv2⟩, hv3⟩ := HV.out rfl
        have HD2 : Hid (doD li index x = (li, txt [105, 115, 32] ++ decT it.ver ++ txt [32] ++ it.val)) := by show _ = _; rw [doD, if_neg o2, HIT.out, HHAS.out, if_neg (by simp), if_pos o3]
        have HDL := hid (decT_len (show 0 ≤ it.ver by omega) hv2)
        go_wp2
        refine wp_region_each (N := 98) (by kernel_rfl) (by kernel_rfl) rfl (by kernel_rfl) (fun W => Below wa.heap.size wa W) (fun j v _ _ => match j with | 0 => v = .pointer (some ⟨Q, 2, none⟩) | 1 => v = .int .i64 it.ver | 2 => v = .string (decT it.ver) | 3 => v = .string (txt [105, 115, 32] ++ decT it.ver) | 4 => v = .string (txt [105, 115, 32] ++ decT it.ver ++ txt [32]) | 5 => v = .pointer (some ⟨Q, 1, none⟩) | 6 => v = .string it.val | 7 => v = .string (txt [105, 115, 32] ++ decT it.ver ++ txt [32] ++ it.val) | 8 => v = .string (txt [105, 115, 32] ++ decT it.ver ++ txt [32] ++ it.val) | _ => True) (fun i => i) (fun _ _ => false) (fun _ _ _ => True) (fun _ => 0) (by kernel_rfl) (fun _ _ => rfl) ?_ (below_drewN (Below.refl _ _) 1) ?_ ?_
        · intro i j v u x y hij hdd hwt hxy hg
          match j, hg with
          | 0, hg => exact hg
          | 1, hg => exact hg
          | 2, hg => exact hg
          | 3, hg => exact hg
          | 4, hg => exact hg
          | 5, hg => exact hg
          | 6, hg => exact hg
          | 7, hg => exact hg
          | 8, hg => exact hg
          | n + 9, _ => exact trivial
        · refine ⟨?_, ?_, ?_, ?_, ?_, ?_, ?_, ?_, ?_, trivial⟩
          · intro A W hC hg hb
            have h7 : A.eval (.tmp 7) = .pointer (some ⟨Q, 0, none⟩) := hb 7 (base_of (by kernel_rfl))
            exact does_value (v := .pointer (some ⟨Q, 2, none⟩)) (w' := W) (by simp only [execOp, h7]; simp [go_sem]) ⟨rfl, hC, trivial⟩
          · intro A W hC hg hb
            have h26 : A.eval (.tmp 26) = .pointer (some ⟨Q, 2, none⟩) := hg 0 26 (by decide) rfl (by simp [Op.operands]) (by kernel_rfl) rfl
            have c0 := (QX.out.on hC QX.out.lt).cell (j := 2) rfl
            exact does_value (v := .int .i64 it.ver) (w' := W) (by simp only [execOp, h26]; simp [go_sem, c0]) ⟨rfl, hC, trivial⟩
          · intro A W hC hg hb
            have h27 : A.eval (.tmp 27) = .int .i64 it.ver := hg 1 27 (by decide) rfl (by simp [Op.operands, Call.operands]) (by kernel_rfl) rfl
            simp [go_sem] at h27
            refine does_enter (f := 59) (args := #[.int .i64 it.ver]) (w' := W) (by simp [go_sem, h27]) ?_
            refine Calls.mono (CD.out it.ver W (by omega) hv2) ?_
            rintro e W' ⟨rfl, hb'⟩
            exact ⟨_, rfl, rfl, below_via hC hb', trivial⟩
          · intro A W hC hg hb
            have h28 : A.eval (.tmp 28) = .string (decT it.ver) := hg 2 28 (by decide) rfl (by simp [Op.operands]) (by kernel_rfl) rfl
            exact does_value (v := .string (txt [105, 115, 32] ++ decT it.ver)) (w' := W) (by simp only [execOp, h28]; simp [go_sem, txt]; have := HDL.out; omega) ⟨rfl, hC, trivial⟩
          · intro A W hC hg hb
            have h29 : A.eval (.tmp 29) = .string (txt [105, 115, 32] ++ decT it.ver) := hg 3 29 (by decide) rfl (by simp [Op.operands]) (by kernel_rfl) rfl
            have hs1 : (txt [105, 115, 32] ++ decT it.ver).size ≤ 40 := by rw [ByteArray.size_append]; have := HDL.out; show 3 + _ ≤ _; omega
            generalize txt [105, 115, 32] ++ decT it.ver = tt at *
            exact does_value (v := .string (tt ++ txt [32])) (w' := W) (by simp only [execOp, h29]; simp [go_sem, txt]; omega) ⟨rfl, hC, trivial⟩
          · intro A W hC hg hb
            have h7 : A.eval (.tmp 7) = .pointer (some ⟨Q, 0, none⟩) := hb 7 (base_of (by kernel_rfl))
            exact does_value (v := .pointer (some ⟨Q, 1, none⟩)) (w' := W) (by simp only [execOp, h7]; simp [go_sem]) ⟨rfl, hC, trivial⟩
          · intro A W hC hg hb
            have h31 : A.eval (.tmp 31) = .pointer (some ⟨Q, 1, none⟩) := hg 5 31 (by decide) rfl (by simp [Op.operands]) (by kernel_rfl) rfl
            have c0 := (QX.out.on hC QX.out.lt).cell (j := 1) rfl
            exact does_value (v := .string it.val) (w' := W) (by simp only [execOp, h31]; simp [go_sem, c0]) ⟨rfl, hC, trivial⟩
          · intro A W hC hg hb
            have h30 : A.eval (.tmp 30) = .string (txt [105, 115, 32] ++ decT it.ver ++ txt [32]) := hg 4 30 (by decide) rfl (by simp [Op.operands]) (by kernel_rfl) rfl
            have h32 : A.eval (.tmp 32) = .string it.val := hg 6 32 (by decide) rfl (by simp [Op.operands]) (by kernel_rfl) rfl
            have hs1 : (txt [105, 115, 32] ++ decT it.ver ++ txt [32]).size ≤ 40 := by rw [ByteArray.size_append, ByteArray.size_append]; have := HDL.out; show 3 + _ + 1 ≤ _; omega
            generalize txt [105, 115, 32] ++ decT it.ver ++ txt [32] = tt at *
            exact does_value (v := .string (tt ++ it.val)) (w' := W) (by simp only [execOp, h30, h32]; simp [go_sem]; omega) ⟨rfl, hC, trivial⟩
          · intro A W hC hg hb
            have h33 : A.eval (.tmp 33) = .string (txt [105, 115, 32] ++ decT it.ver ++ txt [32] ++ it.val) := hg 7 33 (by decide) rfl (by simp [Op.operands]) (by kernel_rfl) rfl
            exact does_value (v := .string (txt [105, 115, 32] ++ decT it.ver ++ txt [32] ++ it.val)) (w' := W) (by simp only [execOp, h33]; simp [go_sem]) ⟨rfl, hC, trivial⟩
        · intro vs wb hC hg
          have e8 := hg 8 (by decide) (fun k => by simp)
          clear hg
          change Exit.then _ _ _ (laidBy _ vs _ 9 _) wb
          simp only [laidBy, if_true, dstAt, List.getElem?_toArray, List.getElem?_cons_succ, List.getElem?_cons_zero, Option.bind_some]
          simp only [Act.put, List.setIfInBounds_toArray, List.set_cons_succ, List.set_cons_zero]
          change vs 8 = _ at e8
          rw [e8]
          clear e8
          have BE := hid (below_via BW.out hC)
          clear hC
          go_wp2
          go_ret
          rw [HD2.out]
          exact doK_same HK.out HR.out BE.out
    · have o2 : ¬ x.op = 2 := by omega
      have o3 : ¬ x.op = 3 := by omega
      have o4 : x.op = 4 := by omega
      have o5 : ¬ x.op = 5 := by omega
      cases has with
      | false =>
        have HD2 : Hid (doD li index x = (li, txt [110, 111])) := by show _ = _; rw [doD, if_neg o2, if_pos HHAS.out]
        go_wp2
        go_ret
        rw [HD2.out]
        exact doK_same HK.out HR.out BW.out
      | true =>
        obtain ⟨⟨hv1, hv2⟩, hv3⟩ := HV.out rfl
        have bn := below_more (Below.refl wa.heap.size wa) (.cells #[] 89)
        have rn := itemR_nil wa wa.heap.size (Nat.le_refl _)
        obtain ⟨V1, hV1⟩ : ∃ W, wa.alloc (.cells #[] 89) = W := ⟨_, rfl⟩
        rw [hV1] at bn rn
        have B1 := hid bn
        have R1 := hid rn
        clear bn rn
        have HD2 : Hid (doD li index x = (rowsOf ([] : List ItemD) (fun e => !(e.key.toList == x.key.toList)) li li.length, txt [100, 114, 111, 112])) := by show _ = _; rw [doD, if_neg o2, HHAS.out, if_neg (by simp), if_neg o3, if_pos o4, rowsOf_all, List.nil_append]
        skip
        go_wp2
        go_loopg [9, 10] li.length (fun g v i wr => ∃ (k : Nat), k + g = li.length ∧ i = .int .i64 k ∧ ∃ va vc, v = .slice va (rowsOf ([] : List ItemD) (fun e => !(e.key.toList == x.key.toList)) li k).length vc ∧ Hid (Below wa.heap.size wa wr) ∧ Hid (wr.ownsRow wa.heap.size 89 3 (.slice va (rowsOf ([] : List ItemD) (fun e => !(e.key.toList == x.key.toList)) li k).length vc) (rowsOf ([] : List ItemD) (fun e => !(e.key.toList == x.key.toList)) li k).length (itemCells (rowsOf ([] : List ItemD) (fun e => !(e.key.toList == x.key.toList)) li k))))
        case atStart => exact ⟨0, by omega, rfl, _, _, by rw [rowsOf_zero] <;> rfl, B1, by rw [rowsOf_zero]; exact R1⟩
        case round =>
          obtain ⟨k, hkg, rfl, va, vc, rfl, BR, RR⟩ := hrel
          clear B1 R1 hV1
          have hol := rowsOf_le ([] : List ItemD) (fun e => !(e.key.toList == x.key.toList)) li k
          have hwz : wa.heap.size ≤ wr.heap.size := BR.out.size
          rw [List.length_nil, Nat.zero_add] at hol
          have k1 := (KA.out.on BR.out KA.out.lt).cell (j := 1) rfl
          have y3 := (XA.out.on BR.out XA.out.lt).cell (j := 3) rfl
          cases gk with
          | zero =>
            have hlt : ¬ (k : Int) < (li.length : Int) := by omega
            obtain rfl : k = li.length := by omega
            obtain ⟨N, hN⟩ : ∃ N, rowsOf ([] : List ItemD) (fun e => !(e.key.toList == x.key.toList)) li li.length = N := ⟨_, rfl⟩
            rw [hN] at RR HD2 hol ⊢
            clear hN
            have f1 := (KA.out.on BR.out KA.out.lt).thaw 1
            have BE := hid (below_via BW.out BR.out)
            have RE := hid (row_down RR.out (show lo ≤ _ from Nat.le_trans hlo BW.out.size))
            clear BR RR
            go_wp2
            go_ret
            rw [HD2.out]
            exact doK_set HK.out BE.out RE.out (Below.refl _ _)
          | succ q =>
            have hlt : k < li.length := by omega
            have hlt' : (k : Int) < (li.length : Int) := by omega
            have hne : li ≠ [] := by intro e; rw [e] at hlt; simp at hlt
            have HST := hid (rowsOf_step ([] : List ItemD) (fun e => !(e.key.toList == x.key.toList)) li k hlt)
            obtain ⟨b, off, rfl, hc⟩ := IA.out.on BR.out hne
            obtain ⟨x0, x1, x2⟩ := hc k hlt
            clear hc
            obtain ⟨L, hL⟩ : ∃ L, rowsOf ([] : List ItemD) (fun e => !(e.key.toList == x.key.toList)) li k = L := ⟨_, rfl⟩
            rw [hL] at RR HST hol ⊢
            clear hL
            cases he : (!(li[k].key.toList == x.key.toList)) with
            | false =>
              rw [he, if_neg (by simp), List.append_nil] at HST
              have hlz : (li[k].key.toList == x.key.toList) = true := by simpa using he
              clear he
              go_wp2
              go_quiet (fail)
              go_wp2
              go_roundg q
              case measure => omega
              case rel => exact ⟨k + 1, by omega, by go_num, va, vc, by rw [HST.out], below_drewN BR.out _, by rw [HST.out]; exact RR⟩
            | true =>
              rw [he, if_pos rfl] at HST
              have hlz : (li[k].key.toList == x.key.toList) = false := by simpa using he
              clear he
              go_wp2
              go_quiet (fail)
              have BQ : Hid (Below wa.heap.size wa (wr.drewN nq)) := below_drewN BR.out _
              have RQ : Hid ((wr.drewN nq).ownsRow wa.heap.size 89 3 (.slice va L.length vc) L.length (itemCells L)) := RR
              generalize wr.drewN nq = wq at BQ RQ ⊢
              clear BR RR hwz x0 x1 x2 k1 y3
              obtain ⟨b', off', e', hc⟩ := IA.out.on BQ.out hne
              cases e'
              obtain ⟨x0, x1, x2⟩ := hc k hlt
              clear hc
              have k1 := (KA.out.on BQ.out KA.out.lt).cell (j := 1) rfl
              have y3 := (XA.out.on BQ.out XA.out.lt).cell (j := 3) rfl
              obtain ⟨i0, hi, hz0, hz1, hz2⟩ := info_parts toItem_info
              have hnew := itemR_new wq li[k]
              have hone := itemR_one li[k]
              have bb := below_more (Below.refl wq.heap.size wq) (.cells #[.string li[k].key, .string li[k].val, .int .i64 li[k].ver] 89)
              have B3 := hid (below_via BQ.out bb)
              have hrow := itemR_below RQ.out bb
              have hbase : wa.heap.size ≤ (wq.alloc (.cells #[.string li[k].key, .string li[k].val, .int .i64 li[k].ver] 89)).heap.size := Nat.le_trans (Nat.le_refl _) B3.out.size
              clear bb BQ RQ
              go_wp2_with (at_builtin; refine wpList_append_own _ rfl (.tmp 59) (.tmp 67) 54 rfl wa.heap.size 89 i0 _ 3 40 Tryz.underlying54 hi hz0 hz1 hz2 rfl (by decide) _ _ _ rfl hrow ⟨wq.heap.size, 0, none⟩ 1 1 (itemEnc li[k]) rfl rfl hnew hone (by unfold maxLen; omega) (by omega) hbase ?_)
              intro v' w4 hown hgrow _
              obtain ⟨va', vc', rfl⟩ := row_shape hown
              rw [← itemR_snoc] at hown
              have B4 := hid (itemR_down B3.out hrow hgrow (Nat.le_refl _) B3.out.size)
              have R4 := hid hown
              have HL2 : Hid ((L ++ [li[k]]).length = L.length + 1) := by show _ = _; simp
              clear hown hgrow hrow hbase B3 hnew hone
              go_wp2
              go_roundg q
              case measure => omega
              case rel =>
                refine ⟨k + 1, by omega, by go_num, va', vc', by rw [HST.out, HL2.out], B4, ?_⟩
                rw [HST.out, HL2.out]
                exact R4
    · have o2 : ¬ x.op = 2 := by omega
      have o3 : ¬ x.op = 3 := by omega
      have o4 : ¬ x.op = 4 := by omega
      have o5 : x.op = 5 := by omega
      cases has with
      | false =>
        have HD2 : Hid (doD li index x = (li, txt [110, 111])) := by show _ = _; rw [doD, if_neg o2, if_pos HHAS.out]
        go_wp2
        go_ret
        rw [HD2.out]
        exact doK_same HK.out HR.out BW.out
      | true =>
        obtain ⟨⟨hv1, hv2⟩, hv3⟩ := HV.out rfl
        by_cases hve : it.ver = x.ver
        · have HDO : Hid (doD li index x = putD li index x) := by show _ = _; rw [doD, if_neg o2, HIT.out, HHAS.out, if_neg (by simp), if_neg o3, if_neg o4, if_pos hve]
          go_wp2_with fail
          refine Calls.mono (l15Put_any g (.slice sa sn sc) bo li bc ⟨x.key, x.val, index⟩ hl _ KA.out IA.out) ?_
          rintro e wb (⟨h8, rfl, bb⟩ | ⟨h8, rfl, vb, vd, wc, bb, rr, rfl⟩)
          · have HD2 : Hid (doD li index x = (li, txt [102, 117, 108, 108])) := by show _ = _; rw [HDO.out, putD, if_pos (by omega)]
            have BE := hid (below_via BW.out bb)
            clear bb
            go_wp2
            go_ret
            rw [HD2.out]
            exact doK_same HK.out HR.out BE.out
          · have HD2 : Hid (doD li index x = (putIn keyLt li ⟨x.key, x.val, index⟩, txt [112, 117, 116, 32] ++ decT index)) := by show _ = _; rw [HDO.out, putD, if_neg (by omega)]
            have BE := hid (below_via BW.out bb)
            have RE := hid (row_down rr (show lo ≤ _ from Nat.le_trans hlo BW.out.size))
            have HDL := hid (decT_len h0 (show index ≤ 1000000000 by omega))
            clear bb rr
            go_wp2_with fail
            refine Calls.mono (CD.out index _ h0 (by omega)) ?_
            rintro e wd ⟨rfl, bd⟩
            have BD := hid bd
            clear bd
            have hsz : 4 + (decT index).size ≤ 9223372036854775807 := by have := HDL.out; omega
            go_wp2
            go_ret
            rw [HD2.out]
            exact doK_set HK.out BE.out RE.out BD.out
        · have HD2 : Hid (doD li index x = (li, txt [110, 111, 116, 32] ++ decT it.ver)) := by show _ = _; rw [doD, if_neg o2, HIT.out, HHAS.out, if_neg (by simp), if_neg o3, if_neg o4, if_neg hve]
          have HDL := hid (decT_len (show 0 ≤ it.ver by omega) hv2)
          go_wp2_with fail
          refine Calls.mono (CD.out it.ver _ (by omega) hv2) ?_
          rintro e wd ⟨rfl, bd⟩
          have BE := hid (below_via BW.out bd)
          clear bd
          have hsz : 4 + (decT it.ver).size ≤ 9223372036854775807 := by have := HDL.out; omega
          go_wp2
          go_ret
          rw [HD2.out]
          exact doK_same HK.out HR.out BE.out
end Go.Proofs.YtoanhjjigbjecaaGreatDoor

namespace Go.Proofs.YtoanhjjigbjecaaGreatDoor
open Go.RowKit

set_option maxRecDepth 1000000 in
theorem l01In_any (x a b : Int) (w : World) :
    Calls Tryz.prog 47 #[.int .i64 x, .int .i64 a, .int .i64 b] w fun e w' => e = .returned (.bool (within x a b)) ∧ w' = w := by
  unfold within
  by_cases h1 : a ≤ x
  · by_cases h2 : x ≤ b
    · go_enter Tryz.func47, Tryz.ntmps47
      go_wp2
      go_ret
      exact ⟨by simp [h1, h2], rfl⟩
    · go_enter Tryz.func47, Tryz.ntmps47
      go_wp2
      go_ret
      exact ⟨by simp; omega, rfl⟩
  · go_enter Tryz.func47, Tryz.ntmps47
    go_wp2
    go_ret
    exact ⟨by simp; omega, rfl⟩
end Go.Proofs.YtoanhjjigbjecaaGreatDoor
