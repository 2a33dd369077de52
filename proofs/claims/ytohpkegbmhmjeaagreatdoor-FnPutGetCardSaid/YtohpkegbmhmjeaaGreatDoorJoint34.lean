/-
  The walks of impl's shelf.ask and shelf.perform.
-/
import Derived.Test.YtohpkegbmhmjeaaGreatDoorJoint31
import Derived.Test.YtohpkegbmhmjeaaGreatDoorJoint32
import Derived.Test.YtohpkegbmhmjeaaGreatDoorJoint33
import Derived.WalkKit
import Derived.Deep.Cut
namespace Go.Proofs.YtohpkegbmhmjeaaGreatDoor
open Go.RowKit

set_option maxRecDepth 1000000 in
set_option maxHeartbeats 4000000 in
theorem shAsk_any (w0 : World) (b c : Nat) (ls : List SessionD) (li : List ItemD) (index : Int) (x : CommandD) (hm : mayDo ls li index x = true) (w : World) (ht : Lib.TabIs Tryz.prog w0 "internal/strconv.uint64pow10" .u64 Lib.pow10Tab) (hb0 : Below w0.heap.size w0 w) (hwbc : w0.heap.size ≤ b ∧ w0.heap.size ≤ c) (h : ShelfAt w b c ls li) (o1 : x.op ≠ 1) :
    Calls Tryz.prog 47 #[.agg #[.map (some b), .map (some c)], .int .i64 index, .agg #[.int .i64 x.op, .int .i64 x.token, .int .i64 x.seq, .string x.key, .string x.val, .int .i64 x.ver]] w fun e w' => ShDid w0 b c (doneD ls li index x).ss (doneD ls li index x).is (doneD ls li index x).reply w e w' := by
  obtain ⟨⟨h0, h1⟩, ⟨⟨ha, hsf, hl3⟩, hai, hif, hl8⟩, hx⟩ := may_facts hm
  have hops := command_ops hx
  have hkv := command_key hx
  have HT := hid ht
  have hbb : Below w.heap.size w ((w.alloc (.cells #[.map (some b), .map (some c)] 65)).alloc (.cells #[.int .i64 x.op, .int .i64 x.token, .int .i64 x.seq, .string x.key, .string x.val, .int .i64 x.ver] 29)) := below_more (below_more (Below.refl w.heap.size w) _) _
  have hy0 : BlockIs ((w.alloc (.cells #[.map (some b), .map (some c)] 65)).alloc (.cells #[.int .i64 x.op, .int .i64 x.token, .int .i64 x.seq, .string x.key, .string x.val, .int .i64 x.ver] 29)) w.heap.size 65 [.map (some b), .map (some c)] := by
    show ((w.heap.push _).push _)[w.heap.size]? = some _
    rw [Array.getElem?_push, if_neg (by simp), Array.getElem?_push, if_pos rfl]
  have hy1 : BlockIs ((w.alloc (.cells #[.map (some b), .map (some c)] 65)).alloc (.cells #[.int .i64 x.op, .int .i64 x.token, .int .i64 x.seq, .string x.key, .string x.val, .int .i64 x.ver] 29)) (w.heap.size + 1) 29 [.int .i64 x.op, .int .i64 x.token, .int .i64 x.seq, .string x.key, .string x.val, .int .i64 x.ver] := by
    show ((w.heap.push _).push _)[w.heap.size + 1]? = some _
    rw [Array.getElem?_push, if_pos (by simp)]
  have hs0 := h.on hbb
  have hw00 := hb0.trans (hbb.mono hb0.size)
  obtain ⟨W, hW⟩ : ∃ W, ((w.alloc (.cells #[.map (some b), .map (some c)] 65)).alloc (.cells #[.int .i64 x.op, .int .i64 x.token, .int .i64 x.seq, .string x.key, .string x.val, .int .i64 x.ver] 29)) = W := ⟨_, rfl⟩
  rw [hW] at hbb hy0 hy1 hs0 hw00
  have BB := hid hbb
  have Y0 := hid hy0
  have Y1 := hid hy1
  have SA := hid hs0
  have B0 := hid hw00
  have y00 := hy0.cell (j := 0) rfl
  have y01 := hy0.cell (j := 1) rfl
  have x0 := hy1.cell (j := 0) rfl
  have x1 := hy1.cell (j := 1) rfl
  have x2 := hy1.cell (j := 2) rfl
  have x3 := hy1.cell (j := 3) rfl
  have x4 := hy1.cell (j := 4) rfl
  have x5 := hy1.cell (j := 5) rfl
  clear hbb hy0 hy1 hs0 hw00 ht
  have hlk := SA.out.lookS (t := x.token) (by omega) (by omega)
  cases hso : sessOf ls x.token with
  | none =>
    have HD : Hid (doneD ls li index x = ⟨ls, li, txt [110, 111, 110, 101], true⟩) := by show _ = _; rw [doneD, if_neg o1, hso]
    have hlk' : (Instr.lookup 62 (.map (some b)) (.int .i64 x.token) true).run Tryz.prog W = .ok (.tuple #[.agg #[.int .i64 0, .int .i64 0, .string ⟨#[]⟩], .bool false]) W := by rw [hlk, hso]; rfl
    clear hlk hso
    have BN := hid (below_more (Below.refl W.heap.size W) (.cells #[.int .i64 0, .int .i64 0, .string ⟨#[]⟩] 36))
    go_enter Tryz.func47, Tryz.ntmps47
    go_wp2
    go_ret
    rw [HD.out]
    exact ⟨rfl, SA.out.on BN.out, Past.below (below_via BB.out BN.out), B0.out.trans (BN.out.mono B0.out.size)⟩
  | some s =>
    have HD : Hid (doneD ls li index x = askD ls li index x s) := by show _ = _; rw [doneD, if_neg o1, hso]
    have hlk' : (Instr.lookup 62 (.map (some b)) (.int .i64 x.token) true).run Tryz.prog W = .ok (.tuple #[.agg #[.int .i64 s.token, .int .i64 s.last, .string s.reply], .bool true]) W := by rw [hlk, hso]; rfl
    obtain ⟨hsm, hst⟩ := sessOf_some hso
    obtain ⟨⟨ht1, ht2⟩, ⟨hla1, hla2⟩, hrs⟩ := session_bounds (hsf _ hsm)
    clear hlk hso hst
    have bn := below_more (Below.refl W.heap.size W) (.cells #[.int .i64 s.token, .int .i64 s.last, .string s.reply] 36)
    have nn : BlockIs (W.alloc (.cells #[.int .i64 s.token, .int .i64 s.last, .string s.reply] 36)) W.heap.size 36 [.int .i64 s.token, .int .i64 s.last, .string s.reply] := heap_alloc_new W _
    have sn := SA.out.on bn
    have b0n := B0.out.trans (bn.mono B0.out.size)
    have bbn := below_via BB.out bn
    have z0 := Y0.out.on bn Y0.out.lt
    have z1 := Y1.out.on bn Y1.out.lt
    obtain ⟨V, hV⟩ : ∃ V, W.alloc (.cells #[.int .i64 s.token, .int .i64 s.last, .string s.reply] 36) = V := ⟨_, rfl⟩
    rw [hV] at nn sn b0n bbn z0 z1
    have NV := hid nn
    have SV := hid sn
    have BV := hid b0n
    have PV := hid (Past.below bbn)
    have Z0 := hid z0
    have Z1 := hid z1
    have v0 := z1.cell (j := 0) rfl
    have v1 := z1.cell (j := 1) rfl
    have v2 := z1.cell (j := 2) rfl
    have v3 := z1.cell (j := 3) rfl
    have v4 := z1.cell (j := 4) rfl
    have v5 := z1.cell (j := 5) rfl
    have u0 := z0.cell (j := 0) rfl
    have u1 := z0.cell (j := 1) rfl
    clear bn nn sn b0n bbn z0 z1
    have n0 := NV.out.cell (j := 0) rfl
    have n1 := NV.out.cell (j := 1) rfl
    have n2 := NV.out.cell (j := 2) rfl
    have CCl := hid (fun W => clone_any s.reply (by omega) W)
    have CD := hid (shDo_any w0 b c ls li index x hm V HT.out BV.out hwbc SV.out o1)
    go_enter Tryz.func47, Tryz.ntmps47
    go_upto_region 4 with fail
    clear hlk' y00 y01 x0 x1 x2 x3 x4 x5
    by_cases q3 : s.last + 1 < x.seq
    · have HD2 : Hid (doneD ls li index x = ⟨ls, li, txt [103, 97, 112], true⟩) := by show _ = _; rw [HD.out, askD, if_neg (by omega), if_neg (by omega), if_pos (by omega)]
      go_wp2
      go_ret
      rw [HD2.out]
      exact ⟨rfl, SV.out, PV.out, BV.out⟩
    by_cases q1 : x.seq < s.last
    · have HD2 : Hid (doneD ls li index x = ⟨ls, li, txt [111, 108, 100], true⟩) := by show _ = _; rw [HD.out, askD, if_pos (Or.inr q1)]
      go_wp2
      go_ret
      rw [HD2.out]
      exact ⟨rfl, SV.out, PV.out, BV.out⟩
    by_cases q0 : x.seq = 0
    · have HD2 : Hid (doneD ls li index x = ⟨ls, li, txt [111, 108, 100], true⟩) := by show _ = _; rw [HD.out, askD, if_pos (Or.inl q0)]
      go_wp2
      go_ret
      rw [HD2.out]
      exact ⟨rfl, SV.out, PV.out, BV.out⟩
    by_cases q2 : x.seq = s.last
    · have HD2 : Hid (doneD ls li index x = ⟨ls, li, s.reply, true⟩) := by show _ = _; rw [HD.out, askD, if_neg (by omega), if_pos q2]
      go_wp2_with fail
      refine Calls.mono (CCl.out _) ?_
      rintro e w2 ⟨rfl, b2⟩
      have BE := hid b2
      clear b2
      go_wp2
      go_ret
      rw [HD2.out]
      exact ⟨rfl, SV.out.on BE.out, PV.out.trans (Past.below BE.out), BV.out.trans (BE.out.mono BV.out.size)⟩
    have HD2 : Hid (doneD ls li index x = ⟨putIn tokenLt ls ⟨x.token, x.seq, (doD li index x).2⟩, (doD li index x).1, (doD li index x).2, true⟩) := by show _ = _; rw [HD.out, askD, if_neg (by omega), if_neg q2, if_neg (by omega)]
    skip
    go_wp2_with fail
    refine Calls.mono CD.out ?_
    rintro e w2 ⟨rfl, s2, p2, b2⟩
    obtain ⟨D1, hD1⟩ : ∃ d, (doD li index x).1 = d := ⟨_, rfl⟩
    obtain ⟨D2, hD2⟩ : ∃ d, (doD li index x).2 = d := ⟨_, rfl⟩
    rw [hD1] at s2
    rw [hD2]
    rw [hD1, hD2] at HD2
    clear hD1 hD2
    obtain ⟨w3, hrun, s3, p3, t3⟩ := s2.putS ha (by omega) ⟨x.token, x.seq, D2⟩ (by show _ ≤ x.token; omega) (by show x.token ≤ _; omega)
    have hrun' : (Instr.mapUpdate 62 (.map (some b)) (.int .i64 x.token) (.agg #[.int .i64 x.token, .int .i64 x.seq, .string D2])).run Tryz.prog w2 = .ok () w3 := hrun
    have a0 := (p2.2 _ _ _ Z0.out).cell (j := 0) rfl
    have a1 := (p2.2 _ _ _ Z1.out).cell (j := 1) rfl
    have a2 := (p2.2 _ _ _ Z1.out).cell (j := 2) rfl
    have S3 := hid s3
    have P3 := hid (PV.out.trans (p2.trans p3))
    have B3 := hid (below_turn b2 t3 hwbc.1)
    clear s2 p2 b2 hrun s3 p3 t3
    go_wp2
    go_ret
    rw [HD2.out]
    exact ⟨rfl, S3.out, P3.out, B3.out⟩
set_option maxRecDepth 1000000 in
set_option maxHeartbeats 4000000 in
theorem shPerform_any (w0 : World) (b c : Nat) (ls : List SessionD) (li : List ItemD) (index : Int) (x : CommandD) (hm : mayDo ls li index x = true) (w : World) (ht : Lib.TabIs Tryz.prog w0 "internal/strconv.uint64pow10" .u64 Lib.pow10Tab) (hb0 : Below w0.heap.size w0 w) (hwbc : w0.heap.size ≤ b ∧ w0.heap.size ≤ c) (h : ShelfAt w b c ls li) :
    Calls Tryz.prog 27 #[.agg #[.map (some b), .map (some c)], .int .i64 index, .agg #[.int .i64 x.op, .int .i64 x.token, .int .i64 x.seq, .string x.key, .string x.val, .int .i64 x.ver]] w fun e w' => ShDid w0 b c (doneD ls li index x).ss (doneD ls li index x).is (doneD ls li index x).reply w e w' := by
  obtain ⟨⟨h0, h1⟩, ⟨⟨ha, hsf, hl3⟩, hai, hif, hl8⟩, hx⟩ := may_facts hm
  have hops := command_ops hx
  have hkv := command_key hx
  have HT := hid ht
  have hbb : Below w.heap.size w ((w.alloc (.cells #[.map (some b), .map (some c)] 65)).alloc (.cells #[.int .i64 x.op, .int .i64 x.token, .int .i64 x.seq, .string x.key, .string x.val, .int .i64 x.ver] 29)) := below_more (below_more (Below.refl w.heap.size w) _) _
  have hy0 : BlockIs ((w.alloc (.cells #[.map (some b), .map (some c)] 65)).alloc (.cells #[.int .i64 x.op, .int .i64 x.token, .int .i64 x.seq, .string x.key, .string x.val, .int .i64 x.ver] 29)) w.heap.size 65 [.map (some b), .map (some c)] := by
    show ((w.heap.push _).push _)[w.heap.size]? = some _
    rw [Array.getElem?_push, if_neg (by simp), Array.getElem?_push, if_pos rfl]
  have hy1 : BlockIs ((w.alloc (.cells #[.map (some b), .map (some c)] 65)).alloc (.cells #[.int .i64 x.op, .int .i64 x.token, .int .i64 x.seq, .string x.key, .string x.val, .int .i64 x.ver] 29)) (w.heap.size + 1) 29 [.int .i64 x.op, .int .i64 x.token, .int .i64 x.seq, .string x.key, .string x.val, .int .i64 x.ver] := by
    show ((w.heap.push _).push _)[w.heap.size + 1]? = some _
    rw [Array.getElem?_push, if_pos (by simp)]
  have hs0 := h.on hbb
  have hw00 := hb0.trans (hbb.mono hb0.size)
  obtain ⟨W, hW⟩ : ∃ W, ((w.alloc (.cells #[.map (some b), .map (some c)] 65)).alloc (.cells #[.int .i64 x.op, .int .i64 x.token, .int .i64 x.seq, .string x.key, .string x.val, .int .i64 x.ver] 29)) = W := ⟨_, rfl⟩
  rw [hW] at hbb hy0 hy1 hs0 hw00
  have BB := hid hbb
  have Y0 := hid hy0
  have Y1 := hid hy1
  have SA := hid hs0
  have B0 := hid hw00
  have y00 := hy0.cell (j := 0) rfl
  have y01 := hy0.cell (j := 1) rfl
  have x0 := hy1.cell (j := 0) rfl
  have x1 := hy1.cell (j := 1) rfl
  have x2 := hy1.cell (j := 2) rfl
  have x3 := hy1.cell (j := 3) rfl
  have x4 := hy1.cell (j := 4) rfl
  have x5 := hy1.cell (j := 5) rfl
  clear hbb hy0 hy1 hs0 hw00 ht
  go_enter Tryz.func27, Tryz.ntmps27
  skip
  by_cases o1 : x.op = 1
  · have HD : Hid (doneD ls li index x = ⟨openedD ls index, li, txt [111, 112, 101, 110] ++ ⟨#[32]⟩ ++ decT index, true⟩) := by show _ = _; rw [doneD, if_pos o1]; rfl
    have CO := hid (shOpen_any w0 b c ls li index x hm W HT.out B0.out hwbc SA.out)
    have O1 := hid o1
    clear o1
    have x0' : W.cell? ⟨w.heap.size + 1, 0, none⟩ = some (.int .i64 1) := by rw [x0, O1.out]
    clear x0
    go_wp2_with fail
    refine Calls.mono CO.out ?_
    rintro e w2 ⟨rfl, s2, p2, b2⟩
    have S2 := hid s2
    have P2 := hid ((Past.below BB.out).trans p2)
    have B2 := hid b2
    clear s2 p2 b2
    go_wp2
    go_ret
    rw [HD.out]
    exact ⟨rfl, S2.out, P2.out, B2.out⟩
  · have CA := hid (shAsk_any w0 b c ls li index x hm W HT.out B0.out hwbc SA.out o1)
    go_wp2_with fail
    refine Calls.mono CA.out ?_
    rintro e w2 ⟨rfl, s2, p2, b2⟩
    have S2 := hid s2
    have P2 := hid ((Past.below BB.out).trans p2)
    have B2 := hid b2
    clear s2 p2 b2
    obtain ⟨t2, ht2⟩ : ∃ t, (doneD ls li index x).reply = t := ⟨_, rfl⟩
    rw [ht2]
    have HT2 := hid ht2
    clear ht2
    go_wp2
    go_ret
    exact ⟨congrArg (fun t => Ending.returned (.string t)) HT2.out.symm, S2.out, P2.out, B2.out⟩
end Go.Proofs.YtohpkegbmhmjeaaGreatDoor
