/-
  The walk of impl's shelf.put: an item is put in.
-/
import Derived.Test.YtohpkegbmhmjeaaGreatDoorJoint29
import Derived.Test.YtohpkegbmhmjeaaGreatDoorJoint1
import Derived.WalkKit
namespace Go.Proofs.YtohpkegbmhmjeaaGreatDoor
open Go.RowKit

/-- what a method of a shelf left -/
def ShDid (w0 : World) (b c : Nat) (ls : List SessionD) (li : List ItemD) (t : ByteArray) (w : World) (e : Ending) (w' : World) : Prop :=
  e = .returned (.string t) ∧ ShelfAt w' b c ls li ∧ Past w w' ∧ Below w0.heap.size w0 w'
theorem table_low {W W' : World} (h : Lib.TabIs Tryz.prog W "internal/strconv.uint64pow10" .u64 Lib.pow10Tab) (hb : Below W.heap.size W W') : Lib.TabIs Tryz.prog W' "internal/strconv.uint64pow10" .u64 Lib.pow10Tab := table_on h hb
set_option maxRecDepth 1000000 in
set_option maxHeartbeats 4000000 in
theorem shPut_any (w0 : World) (b c : Nat) (ls : List SessionD) (li : List ItemD) (index : Int) (x : CommandD) (hm : mayDo ls li index x = true) (w : World) (ht : Lib.TabIs Tryz.prog w0 "internal/strconv.uint64pow10" .u64 Lib.pow10Tab) (hb0 : Below w0.heap.size w0 w) (hwbc : w0.heap.size ≤ b ∧ w0.heap.size ≤ c) (h : ShelfAt w b c ls li) :
    Calls Tryz.prog 89 #[.agg #[.map (some b), .map (some c)], .int .i64 index, .agg #[.int .i64 x.op, .int .i64 x.token, .int .i64 x.seq, .string x.key, .string x.val, .int .i64 x.ver]] w fun e w' => ShDid w0 b c ls (putD li index x).1 (putD li index x).2 w e w' := by
  obtain ⟨⟨h0, h1⟩, ⟨⟨ha, hsf, hl3⟩, hai, hif, hl8⟩, hx⟩ := may_facts hm
  have hops := command_ops hx
  have hkv := command_key hx
  have HT := hid ht
  have hbb : Below w.heap.size w ((w.alloc (.cells #[.map (some b), .map (some c)] 65)).alloc (.cells #[.int .i64 x.op, .int .i64 x.token, .int .i64 x.seq, .string x.key, .string x.val, .int .i64 x.ver] 29)) := below_more (below_more (Below.refl w.heap.size w) _) _
  have hy0 : BlockIs ((w.alloc (.cells #[.map (some b), .map (some c)] 65)).alloc (.cells #[.int .i64 x.op, .int .i64 x.token, .int .i64 x.seq, .string x.key, .string x.val, .int .i64 x.ver] 29)) w.heap.size 65 [.map (some b), .map (some c)] := by
    show ((w.heap.push _).push _)[w.heap.size]? = some _
    rw [Array.getElem?_push, if_neg (by simp), Array.getElem?_push, if_pos rfl]
  have hy1 : BlockIs ((w.alloc (.cells #[.map (some b), .map (some c)] 65)).alloc (.cells #[.int .i64 x.op, .int .i64 x.token, .int .i64 x.seq, .string x.key, .string x.val, .int .i64 x.ver] 29)) (w.heap.size + 1) 29 [.int .i64 x.op, .int .i64 x.token, .int .i64 x.seq, .string x.key, .string x.val, .int .i64 x.ver] := by
    show ((w.heap.push _).push _)[w.heap.size + 1]? = some _
    rw [Array.getElem?_push, if_pos (by simp)]
  have hs0 := h.on hbb
  have hw00 := hb0.trans (hbb.mono hb0.size)
  obtain ⟨W, hW⟩ : ∃ W, ((w.alloc (.cells #[.map (some b), .map (some c)] 65)).alloc (.cells #[.int .i64 x.op, .int .i64 x.token, .int .i64 x.seq, .string x.key, .string x.val, .int .i64 x.ver] 29)) = W := ⟨_, rfl⟩
  rw [hW] at hbb hy0 hy1 hs0 hw00
  have BB := hid hbb
  have Y0 := hid hy0
  have Y1 := hid hy1
  have SA := hid hs0
  have B0 := hid hw00
  have y00 := hy0.cell (j := 0) rfl
  have y01 := hy0.cell (j := 1) rfl
  have x0 := hy1.cell (j := 0) rfl
  have x1 := hy1.cell (j := 1) rfl
  have x2 := hy1.cell (j := 2) rfl
  have x3 := hy1.cell (j := 3) rfl
  have x4 := hy1.cell (j := 4) rfl
  have x5 := hy1.cell (j := 5) rfl
  clear hbb hy0 hy1 hs0 hw00 ht
  have hlk := SA.out.lookI (k := x.key) (by unfold maxLen; omega)
  obtain ⟨it, hit⟩ : ∃ it, (itemOf li x.key).1 = it := ⟨_, rfl⟩
  obtain ⟨has, hhas⟩ : ∃ q, (itemOf li x.key).2 = q := ⟨_, rfl⟩
  rw [hit, hhas] at hlk
  have HIT := hid hit
  have HHAS := hid hhas
  clear hit hhas
  have bn := below_more (Below.refl W.heap.size W) (.cells #[.string it.key, .string it.val, .int .i64 it.ver] 41)
  have nn : BlockIs (W.alloc (.cells #[.string it.key, .string it.val, .int .i64 it.ver] 41)) W.heap.size 41 [.string it.key, .string it.val, .int .i64 it.ver] := heap_alloc_new W _
  have sn := SA.out.on bn
  have b0n := B0.out.trans (bn.mono B0.out.size)
  have bbn := below_via BB.out bn
  have z0 := Y0.out.on bn Y0.out.lt
  have z1 := Y1.out.on bn Y1.out.lt
  obtain ⟨V, hV⟩ : ∃ V, W.alloc (.cells #[.string it.key, .string it.val, .int .i64 it.ver] 41) = V := ⟨_, rfl⟩
  rw [hV] at nn sn b0n bbn z0 z1
  have NV := hid nn
  have SV := hid sn
  have BV := hid b0n
  have PV := hid (Past.below bbn)
  have Z0 := hid z0
  have Z1 := hid z1
  have v0 := z1.cell (j := 0) rfl
  have v1 := z1.cell (j := 1) rfl
  have v2 := z1.cell (j := 2) rfl
  have v3 := z1.cell (j := 3) rfl
  have v4 := z1.cell (j := 4) rfl
  have v5 := z1.cell (j := 5) rfl
  have u0 := z0.cell (j := 0) rfl
  have u1 := z0.cell (j := 1) rfl
  clear bn nn sn b0n bbn z0 z1
  have hln := SV.out.lenI hai
  have HP := hid (show putD li index x = putD li index x from rfl)
  have HPL := hid (putK_len hai ⟨x.key, x.val, index⟩)
  cases has with
  | false =>
    by_cases h8 : li.length = 8
    · have h8' : (li.length : Int) = 8 := by omega
      have HD : Hid (putD li index x = (li, txt [102, 117, 108, 108])) := by show _ = _; rw [putD, if_pos (by rw [HPL.out, if_neg (by simpa using HHAS.out)]; omega)]
      go_enter Tryz.func89, Tryz.ntmps89
      go_wp2
      go_ret
      rw [HD.out]
      exact ⟨rfl, SV.out, PV.out, BV.out⟩
    · have h8' : ¬ (li.length : Int) = 8 := by omega
      have HD : Hid (putD li index x = (putIn keyLt li ⟨x.key, x.val, index⟩, txt [112, 117, 116] ++ ⟨#[32]⟩ ++ decT index)) := by show _ = _; rw [putD, if_neg (by rw [HPL.out, if_neg (by simpa using HHAS.out)]; omega)]; rfl
      obtain ⟨w1, hrun, s1, p1, t1⟩ := SV.out.putI hai hl8 ⟨x.key, x.val, index⟩ (by show x.key.size ≤ _; unfold maxLen; omega)
      have hrun' : (Instr.mapUpdate 63 (.map (some c)) (.string x.key) (.agg #[.string x.key, .string x.val, .int .i64 index])).run Tryz.prog V = .ok () w1 := hrun
      have S1 := hid s1
      have P1 := hid (PV.out.trans p1)
      have B1 := hid (below_turn BV.out t1 hwbc.2)
      have CN := hid (numberedReply_any (txt [112, 117, 116]) index (by decide) h0 (by omega) w1 (table_low HT.out B1.out))
      clear hrun s1 p1 t1
      go_enter Tryz.func89, Tryz.ntmps89
      go_wp2_with fail
      refine Calls.mono CN.out ?_
      rintro e w2 ⟨rfl, b2⟩
      have S2 := hid (S1.out.on b2)
      have P2 := hid (P1.out.trans (Past.below b2))
      have B2 := hid (B1.out.trans (b2.mono B1.out.size))
      clear b2
      go_wp2
      go_ret
      rw [HD.out]
      exact ⟨rfl, S2.out, P2.out, B2.out⟩
  | true =>
    have HD : Hid (putD li index x = (putIn keyLt li ⟨x.key, x.val, index⟩, txt [112, 117, 116] ++ ⟨#[32]⟩ ++ decT index)) := by show _ = _; rw [putD, if_neg (by rw [HPL.out, if_pos (by simpa using HHAS.out)]; omega)]; rfl
    obtain ⟨w1, hrun, s1, p1, t1⟩ := SV.out.putI hai hl8 ⟨x.key, x.val, index⟩ (by show x.key.size ≤ _; unfold maxLen; omega)
    have hrun' : (Instr.mapUpdate 63 (.map (some c)) (.string x.key) (.agg #[.string x.key, .string x.val, .int .i64 index])).run Tryz.prog V = .ok () w1 := hrun
    have S1 := hid s1
    have P1 := hid (PV.out.trans p1)
    have B1 := hid (below_turn BV.out t1 hwbc.2)
    have CN := hid (numberedReply_any (txt [112, 117, 116]) index (by decide) h0 (by omega) w1 (table_low HT.out B1.out))
    clear hrun s1 p1 t1
    go_enter Tryz.func89, Tryz.ntmps89
    go_wp2_with fail
    refine Calls.mono CN.out ?_
    rintro e w2 ⟨rfl, b2⟩
    have S2 := hid (S1.out.on b2)
    have P2 := hid (P1.out.trans (Past.below b2))
    have B2 := hid (B1.out.trans (b2.mono B1.out.size))
    clear b2
    go_wp2
    go_ret
    rw [HD.out]
    exact ⟨rfl, S2.out, P2.out, B2.out⟩
end Go.Proofs.YtohpkegbmhmjeaaGreatDoor
