/-
  The walk of impl's shelf.do: what a command does to the items.
-/
import Derived.Test.YtohpkegbmhmjeaaGreatDoorJoint30
import Derived.Test.YtohpkegbmhmjeaaGreatDoorJoint11
import Derived.WalkKit
import Derived.Deep.Cut
namespace Go.Proofs.YtohpkegbmhmjeaaGreatDoor
open Go.RowKit

set_option maxRecDepth 1000000 in
set_option maxHeartbeats 4000000 in
theorem shDo_any (w0 : World) (b c : Nat) (ls : List SessionD) (li : List ItemD) (index : Int) (x : CommandD) (hm : mayDo ls li index x = true) (w : World) (ht : Lib.TabIs Tryz.prog w0 "internal/strconv.uint64pow10" .u64 Lib.pow10Tab) (hb0 : Below w0.heap.size w0 w) (hwbc : w0.heap.size ≤ b ∧ w0.heap.size ≤ c) (h : ShelfAt w b c ls li) (o1 : x.op ≠ 1) :
    Calls Tryz.prog 71 #[.agg #[.map (some b), .map (some c)], .int .i64 index, .agg #[.int .i64 x.op, .int .i64 x.token, .int .i64 x.seq, .string x.key, .string x.val, .int .i64 x.ver]] w fun e w' => ShDid w0 b c ls (doD li index x).1 (doD li index x).2 w e w' := by
  obtain ⟨⟨h0, h1⟩, ⟨⟨ha, hsf, hl3⟩, hai, hif, hl8⟩, hx⟩ := may_facts hm
  have hops := command_ops hx
  have hkv := command_key hx
  have HT := hid ht
  have hbb : Below w.heap.size w ((w.alloc (.cells #[.map (some b), .map (some c)] 65)).alloc (.cells #[.int .i64 x.op, .int .i64 x.token, .int .i64 x.seq, .string x.key, .string x.val, .int .i64 x.ver] 29)) := below_more (below_more (Below.refl w.heap.size w) _) _
  have hy0 : BlockIs ((w.alloc (.cells #[.map (some b), .map (some c)] 65)).alloc (.cells #[.int .i64 x.op, .int .i64 x.token, .int .i64 x.seq, .string x.key, .string x.val, .int .i64 x.ver] 29)) w.heap.size 65 [.map (some b), .map (some c)] := by
    show ((w.heap.push _).push _)[w.heap.size]? = some _
    rw [Array.getElem?_push, if_neg (by simp), Array.getElem?_push, if_pos rfl]
  have hy1 : BlockIs ((w.alloc (.cells #[.map (some b), .map (some c)] 65)).alloc (.cells #[.int .i64 x.op, .int .i64 x.token, .int .i64 x.seq, .string x.key, .string x.val, .int .i64 x.ver] 29)) (w.heap.size + 1) 29 [.int .i64 x.op, .int .i64 x.token, .int .i64 x.seq, .string x.key, .string x.val, .int .i64 x.ver] := by
    show ((w.heap.push _).push _)[w.heap.size + 1]? = some _
    rw [Array.getElem?_push, if_pos (by simp)]
  have hs0 := h.on hbb
  have hw00 := hb0.trans (hbb.mono hb0.size)
  obtain ⟨W, hW⟩ : ∃ W, ((w.alloc (.cells #[.map (some b), .map (some c)] 65)).alloc (.cells #[.int .i64 x.op, .int .i64 x.token, .int .i64 x.seq, .string x.key, .string x.val, .int .i64 x.ver] 29)) = W := ⟨_, rfl⟩
  rw [hW] at hbb hy0 hy1 hs0 hw00
  have BB := hid hbb
  have Y0 := hid hy0
  have Y1 := hid hy1
  have SA := hid hs0
  have B0 := hid hw00
  have y00 := hy0.cell (j := 0) rfl
  have y01 := hy0.cell (j := 1) rfl
  have x0 := hy1.cell (j := 0) rfl
  have x1 := hy1.cell (j := 1) rfl
  have x2 := hy1.cell (j := 2) rfl
  have x3 := hy1.cell (j := 3) rfl
  have x4 := hy1.cell (j := 4) rfl
  have x5 := hy1.cell (j := 5) rfl
  clear hbb hy0 hy1 hs0 hw00 ht
  have hlk := SA.out.lookI (k := x.key) (by unfold maxLen; omega)
  obtain ⟨it, hit⟩ : ∃ it, (itemOf li x.key).1 = it := ⟨_, rfl⟩
  obtain ⟨has, hhas⟩ : ∃ q, (itemOf li x.key).2 = q := ⟨_, rfl⟩
  rw [hit, hhas] at hlk
  have HIT := hid hit
  have HHAS := hid hhas
  clear hit hhas
  have bn := below_more (Below.refl W.heap.size W) (.cells #[.string it.key, .string it.val, .int .i64 it.ver] 41)
  have nn : BlockIs (W.alloc (.cells #[.string it.key, .string it.val, .int .i64 it.ver] 41)) W.heap.size 41 [.string it.key, .string it.val, .int .i64 it.ver] := heap_alloc_new W _
  have sn := SA.out.on bn
  have b0n := B0.out.trans (bn.mono B0.out.size)
  have bbn := below_via BB.out bn
  have z0 := Y0.out.on bn Y0.out.lt
  have z1 := Y1.out.on bn Y1.out.lt
  obtain ⟨V, hV⟩ : ∃ V, W.alloc (.cells #[.string it.key, .string it.val, .int .i64 it.ver] 41) = V := ⟨_, rfl⟩
  rw [hV] at nn sn b0n bbn z0 z1
  have NV := hid nn
  have SV := hid sn
  have BV := hid b0n
  have PV := hid (Past.below bbn)
  have Z0 := hid z0
  have Z1 := hid z1
  have v0 := z1.cell (j := 0) rfl
  have v1 := z1.cell (j := 1) rfl
  have v2 := z1.cell (j := 2) rfl
  have v3 := z1.cell (j := 3) rfl
  have v4 := z1.cell (j := 4) rfl
  have v5 := z1.cell (j := 5) rfl
  have u0 := z0.cell (j := 0) rfl
  have u1 := z0.cell (j := 1) rfl
  clear bn nn sn b0n bbn z0 z1
  have n1 := NV.out.cell (j := 1) rfl
  have n2 := NV.out.cell (j := 2) rfl
  have CP := hid (shPut_any w0 b c ls li index x hm V HT.out BV.out hwbc SV.out)
  have hver : has = true → (1 ≤ it.ver ∧ it.ver ≤ 1000000000) ∧ it.val.size ≤ 20 := by
    intro q
    have q1 := hif _ (itemOf_true (HHAS.out.trans q)).1
    rw [HIT.out] at q1
    have := item_bounds q1
    omega
  obtain ⟨WS, hWS⟩ : ∃ k, W.heap.size = k := ⟨_, rfl⟩
  have HNV : Hid (BlockIs V WS 41 [.string it.key, .string it.val, .int .i64 it.ver]) := by rw [← hWS]; exact NV.out
  go_enter Tryz.func71, Tryz.ntmps71
  go_upto_region 2 with fail
  clear hlk y00 y01 x0 x1 x2 x3 x4 x5
  rw [hWS] at n1 n2
  clear NV
  have NV := HNV
  clear HNV
  by_cases o2 : x.op = 2
  · have HD : Hid (doD li index x = putD li index x) := by show _ = _; rw [doD, if_pos o2]
    rw [o2] at CP
    go_wp2_with fail
    refine Calls.mono CP.out ?_
    rintro e w2 ⟨rfl, s2, p2, b2⟩
    have S2 := hid s2
    have P2 := hid (PV.out.trans p2)
    have B2 := hid b2
    clear s2 p2 b2
    obtain ⟨t2, ht2⟩ : ∃ t, (putD li index x).2 = t := ⟨_, rfl⟩
    rw [ht2]
    have HT2 := hid ht2
    clear ht2
    go_wp2
    go_ret
    rw [HD.out]
    exact ⟨congrArg (fun t => Ending.returned (.string t)) HT2.out.symm, S2.out, P2.out, B2.out⟩
  cases has with
  | false =>
    have HD : Hid (doD li index x = (li, txt [110, 111])) := by show _ = _; rw [doD, if_neg o2, if_pos HHAS.out]
    go_wp2
    go_ret
    rw [HD.out]
    exact ⟨rfl, SV.out, PV.out, BV.out⟩
  | true =>
    obtain ⟨⟨hv1, hv2⟩, hv3⟩ := hver rfl
    by_cases o3 : x.op = 3
    · have HD : Hid (doD li index x = (li, (⟨#[105, 115]⟩ ++ ⟨#[32]⟩ ++ decT it.ver) ++ ⟨#[32]⟩ ++ it.val)) := by show _ = _; rw [doD, if_neg o2, HIT.out, HHAS.out, if_neg (by simp), if_pos o3]; rfl
      have HDL := hid (decT_len (show 0 ≤ it.ver by omega) hv2)
      go_wp2
      refine wp_region_each (N := 60) (by kernel_rfl) (by kernel_rfl) rfl (by kernel_rfl) (fun W => Below V.heap.size V W) (fun j v _ _ => match j with | 0 => v = .pointer (some ⟨WS, 2, none⟩) | 1 => v = .int .i64 it.ver | 2 => v = .string (⟨#[105, 115]⟩ ++ ⟨#[32]⟩ ++ decT it.ver) | 3 => v = .string ((⟨#[105, 115]⟩ ++ ⟨#[32]⟩ ++ decT it.ver) ++ ⟨#[32]⟩) | 4 => v = .pointer (some ⟨WS, 1, none⟩) | 5 => v = .string it.val | 6 => v = .string ((⟨#[105, 115]⟩ ++ ⟨#[32]⟩ ++ decT it.ver) ++ ⟨#[32]⟩ ++ it.val) | 7 => v = .string ((⟨#[105, 115]⟩ ++ ⟨#[32]⟩ ++ decT it.ver) ++ ⟨#[32]⟩ ++ it.val) | _ => True) (fun i => i) (fun _ _ => false) (fun _ _ _ => True) (fun _ => 0) (by kernel_rfl) (fun _ _ => rfl) ?_ (below_drewN (Below.refl _ _) 1) ?_ ?_
      · intro i j v u x y hij hdd hwt hxy hg
        match j, hg with
        | 0, hg => exact hg
        | 1, hg => exact hg
        | 2, hg => exact hg
        | 3, hg => exact hg
        | 4, hg => exact hg
        | 5, hg => exact hg
        | 6, hg => exact hg
        | 7, hg => exact hg
        | n + 8, _ => exact trivial
      · refine ⟨?_, ?_, ?_, ?_, ?_, ?_, ?_, ?_, trivial⟩
        · intro A W hC hg hb
          have h7 : A.eval (.tmp 7) = .pointer (some ⟨WS, 0, none⟩) := hb 7 (base_of (by kernel_rfl))
          exact does_value (v := .pointer (some ⟨WS, 2, none⟩)) (w' := W) (by simp only [execOp, h7]; simp [go_sem]) ⟨rfl, hC, trivial⟩
        · intro A W hC hg hb
          have h32 : A.eval (.tmp 32) = .pointer (some ⟨WS, 2, none⟩) := hg 0 32 (by decide) rfl (by simp [Op.operands]) (by kernel_rfl) rfl
          have c0 := (NV.out.on hC NV.out.lt).cell (j := 2) rfl
          exact does_value (v := .int .i64 it.ver) (w' := W) (by simp only [execOp, h32]; simp [go_sem, c0]) ⟨rfl, hC, trivial⟩
        · intro A W hC hg hb
          have h33 : A.eval (.tmp 33) = .int .i64 it.ver := hg 1 33 (by decide) rfl (by simp [Op.operands, Call.operands]) (by kernel_rfl) rfl
          simp [go_sem] at h33
          refine does_enter (f := 70) (args := #[.string ⟨#[105, 115]⟩, .int .i64 it.ver]) (w' := W) (by simp [go_sem, h33]) ?_
          refine Calls.mono (numberedReply_any ⟨#[105, 115]⟩ it.ver (by decide) (by omega) hv2 W (table_low HT.out (BV.out.trans (hC.mono BV.out.size)))) ?_
          rintro e W' ⟨rfl, hb'⟩
          exact ⟨_, rfl, rfl, below_via hC hb', trivial⟩
        · intro A W hC hg hb
          have h34 : A.eval (.tmp 34) = .string (⟨#[105, 115]⟩ ++ ⟨#[32]⟩ ++ decT it.ver) := hg 2 34 (by decide) rfl (by simp [Op.operands]) (by kernel_rfl) rfl
          have hs1 : (⟨#[105, 115]⟩ ++ ⟨#[32]⟩ ++ decT it.ver).size ≤ 40 := by rw [ByteArray.size_append, ByteArray.size_append]; have := HDL.out; show 2 + 1 + _ ≤ _; omega
          generalize (⟨#[105, 115]⟩ ++ ⟨#[32]⟩ ++ decT it.ver) = tt at *
          exact does_value (v := .string (tt ++ ⟨#[32]⟩)) (w' := W) (by simp only [execOp, h34]; simp [go_sem]; omega) ⟨rfl, hC, trivial⟩
        · intro A W hC hg hb
          have h7 : A.eval (.tmp 7) = .pointer (some ⟨WS, 0, none⟩) := hb 7 (base_of (by kernel_rfl))
          exact does_value (v := .pointer (some ⟨WS, 1, none⟩)) (w' := W) (by simp only [execOp, h7]; simp [go_sem]) ⟨rfl, hC, trivial⟩
        · intro A W hC hg hb
          have h36 : A.eval (.tmp 36) = .pointer (some ⟨WS, 1, none⟩) := hg 4 36 (by decide) rfl (by simp [Op.operands]) (by kernel_rfl) rfl
          have c0 := (NV.out.on hC NV.out.lt).cell (j := 1) rfl
          exact does_value (v := .string it.val) (w' := W) (by simp only [execOp, h36]; simp [go_sem, c0]) ⟨rfl, hC, trivial⟩
        · intro A W hC hg hb
          have h35 : A.eval (.tmp 35) = .string ((⟨#[105, 115]⟩ ++ ⟨#[32]⟩ ++ decT it.ver) ++ ⟨#[32]⟩) := hg 3 35 (by decide) rfl (by simp [Op.operands]) (by kernel_rfl) rfl
          have h37 : A.eval (.tmp 37) = .string it.val := hg 5 37 (by decide) rfl (by simp [Op.operands]) (by kernel_rfl) rfl
          have hs1 : ((⟨#[105, 115]⟩ ++ ⟨#[32]⟩ ++ decT it.ver) ++ ⟨#[32]⟩).size ≤ 40 := by rw [ByteArray.size_append, ByteArray.size_append, ByteArray.size_append]; have := HDL.out; show 2 + 1 + _ + 1 ≤ _; omega
          generalize (⟨#[105, 115]⟩ ++ ⟨#[32]⟩ ++ decT it.ver) ++ ⟨#[32]⟩ = tt at *
          exact does_value (v := .string (tt ++ it.val)) (w' := W) (by simp only [execOp, h35, h37]; simp [go_sem]; omega) ⟨rfl, hC, trivial⟩
        · intro A W hC hg hb
          have h38 : A.eval (.tmp 38) = .string ((⟨#[105, 115]⟩ ++ ⟨#[32]⟩ ++ decT it.ver) ++ ⟨#[32]⟩ ++ it.val) := hg 6 38 (by decide) rfl (by simp [Op.operands]) (by kernel_rfl) rfl
          exact does_value (v := .string ((⟨#[105, 115]⟩ ++ ⟨#[32]⟩ ++ decT it.ver) ++ ⟨#[32]⟩ ++ it.val)) (w' := W) (by simp only [execOp, h38]; simp [go_sem]) ⟨rfl, hC, trivial⟩
      · intro vs wb hC hg
        have e7 := hg 7 (by decide) (fun k => by simp)
        clear hg
        change Exit.then _ _ _ (laidBy _ vs _ 8 _) wb
        simp only [laidBy, if_true, dstAt, List.getElem?_toArray, List.getElem?_cons_succ, List.getElem?_cons_zero, Option.bind_some]
        simp only [Act.put, List.setIfInBounds_toArray, List.set_cons_succ, List.set_cons_zero]
        change vs 7 = _ at e7
        rw [e7]
        clear e7
        have BE := hid hC
        clear hC
        go_wp2
        go_ret
        rw [HD.out]
        exact ⟨rfl, SV.out.on BE.out, PV.out.trans (Past.below BE.out), BV.out.trans (BE.out.mono BV.out.size)⟩
    by_cases o4 : x.op = 4
    · have HD : Hid (doD li index x = (li.filter (fun e => !(e.key.toList == x.key.toList)), txt [100, 114, 111, 112])) := by show _ = _; rw [doD, if_neg o2, HHAS.out, if_neg (by simp), if_neg o3, if_pos o4]
      have hdel := fun ty => SV.out.dropI x.key (by unfold maxLen; omega) ty
      obtain ⟨w1, hrun, s1, p1, t1⟩ := hdel 0
      have S1 := hid s1
      have P1 := hid (PV.out.trans p1)
      have B1 := hid (below_turn BV.out t1 hwbc.2)
      clear hdel s1 p1 t1
      go_wp2
      go_ret
      rw [HD.out]
      exact ⟨rfl, S1.out, P1.out, B1.out⟩
    have o5 : x.op = 5 := by omega
    by_cases hve : it.ver = x.ver
    · have HD : Hid (doD li index x = putD li index x) := by show _ = _; rw [doD, if_neg o2, HIT.out, HHAS.out, if_neg (by simp), if_neg o3, if_neg o4, if_pos hve]
      rw [o5] at CP
      go_wp2_with fail
      refine Calls.mono CP.out ?_
      rintro e w2 ⟨rfl, s2, p2, b2⟩
      have S2 := hid s2
      have P2 := hid (PV.out.trans p2)
      have B2 := hid b2
      clear s2 p2 b2
      obtain ⟨t2, ht2⟩ : ∃ t, (putD li index x).2 = t := ⟨_, rfl⟩
      rw [ht2]
      have HT2 := hid ht2
      clear ht2
      go_wp2
      go_ret
      rw [HD.out]
      exact ⟨congrArg (fun t => Ending.returned (.string t)) HT2.out.symm, S2.out, P2.out, B2.out⟩
    · have HD : Hid (doD li index x = (li, ⟨#[110, 111, 116]⟩ ++ ⟨#[32]⟩ ++ decT it.ver)) := by show _ = _; rw [doD, if_neg o2, HIT.out, HHAS.out, if_neg (by simp), if_neg o3, if_neg o4, if_neg hve]; rfl
      have hve2 : ¬ x.ver = it.ver := fun e => hve e.symm
      have CN := hid (numberedReply_any ⟨#[110, 111, 116]⟩ it.ver (by decide) (by omega) hv2 V (table_low HT.out BV.out))
      go_wp2_with fail
      refine Calls.mono CN.out ?_
      rintro e w2 ⟨rfl, b2⟩
      have BE := hid b2
      clear b2
      go_wp2
      go_ret
      rw [HD.out]
      exact ⟨rfl, SV.out.on BE.out, PV.out.trans (Past.below BE.out), BV.out.trans (BE.out.mono BV.out.size)⟩
end Go.Proofs.YtohpkegbmhmjeaaGreatDoor
