/-
  For every slice of bytes, laws.FnPutGet returns true: what is put into a drawn keep is got, with the index as its version; swapped with another version it stays; dropped it is gone; all other items stay; nothing that was in memory is written. The library's table that strconv.Itoa reads is tied to the program's text (the card).
-/
import Derived.Test.YtohpkegbmhmjeaaGreatDoorCards
import Derived.Test.YtohpkegbmhmjeaaGreatDoorTie
import Derived.Test.YtohpkegbmhmjeaaGreatDoorJoint25
import Derived.Test.YtohpkegbmhmjeaaGreatDoorJoint46
import Derived.Test.YtohpkegbmhmjeaaGreatDoorJoint45
import Derived.Test.YtohpkegbmhmjeaaGreatDoorJoint47
import Derived.Test.YtohpkegbmhmjeaaGreatDoorJoint1
import Derived.Test.YtohpkegbmhmjeaaGreatDoorJoint48
import Derived.Test.YtohpkegbmhmjeaaGreatDoorJoint24
import Derived.Deep.QuietTactic
import Derived.BigQuiet
import Derived.Deep.LoopGhost
import Derived.Deep.RegionWith
import Derived.WalkSmall
import Derived.WalkKit
import Derived.ProofKit
import Derived.OpenShut
import Derived.OpenVars
import Derived.Deep.DeepHandedRow
import Derived.Lib.LaidTab
import Derived.Stop.LaidErr
namespace Go.Proofs.YtohpkegbmhmjeaaGreatDoor.fnPutGet
open Go.ChangeShapes Go.WideShapes Go.ChangeAt Go.ChangeMaps Go.RowKit

theorem items_small {li : List ItemD} (h : ∀ e ∈ li, itemFine e = true) : ∀ f ∈ li, itemOne f ≤ 1048576 := by
  intro f hf
  have := item_bounds (h f hf)
  unfold itemOne
  omega

set_option maxRecDepth 1000000 in
set_option maxHeartbeats 16000000 in
theorem walk (ao : Option Addr) (len cap : Nat) (hcap : len ≤ cap) (w : World) (hr : Bytes w ao len) (htab : Lib.TabIs Tryz.prog w "internal/strconv.uint64pow10" .u64 Lib.pow10Tab) :
    Calls Tryz.prog 3 #[.slice ao len cap] w fun e w' => e = .returned (.bool true) ∧ Below w.heap.size w w' := by
  have HBY := hid hr
  have HT := hid htab
  clear hr htab
  by_cases hbig : 1048576 < len
  · go_enter Tryz.func3, Tryz.ntmps3
    go_wp2
    go_ret
    exact ⟨rfl, Below.refl _ _⟩
  have hlen : len ≤ 1048576 := by omega
  clear hbig
  have B_0 : Hid (Below w.heap.size w w) := hid (Below.refl w.heap.size w)
  go_enter Tryz.func3, Tryz.ntmps3
  go_wp2_with fail
  refine (big_no ao len cap hlen _).mono ?_
  rintro e w0 ⟨rfl, hw0⟩
  rw [hw0]
  clear hw0 w0
  go_wp2_with fail
  refine Calls.mono (drawTalk_any ao len cap hlen hcap _ HBY.out) ?_
  rintro e w1 ⟨va, vc, vb, vd, ls, li, d, rfl, ⟨hko, hyo⟩, hco, qk, b1⟩
  have B_1 : Hid (Below w.heap.size w w1) := hid (below_via B_0.out b1)
  clear B_0
  clear b1
  have Qk_1 := hid qk
  clear qk
  have hfk := keep_facts hko
  have hl1 : ls.length ≤ 1048576 := by have := hfk.1.2.2; omega
  have hl3 : ls.length ≤ 3 := hfk.1.2.2
  have hl2 : li.length ≤ 1048576 := by have := hfk.2.2.2; omega
  have HSF := hid hfk.1.2.1
  have hsmk := items_small hfk.2.2.1
  clear hfk
  have HKO := hid hko
  have HYO := hid hyo
  clear hko hyo hco
  obtain ⟨g0, hg0⟩ : ∃ g, w1.heap.size = g := ⟨_, rfl⟩
  obtain ⟨U0, hU0⟩ : ∃ V, ((w1.alloc (.cells #[.slice none 0 0, .slice none 0 0] 27)).alloc (.cells #[.int .i64 0, .int .i64 0, .int .i64 0, .string ⟨#[]⟩, .string ⟨#[]⟩, .int .i64 0] 29)) = V := ⟨_, rfl⟩
  have bz0 : Below g0 w1 U0 := by rw [← hg0, ← hU0]; exact below_more (below_more (Below.refl w1.heap.size w1) (.cells #[.slice none 0 0, .slice none 0 0] 27)) (.cells #[.int .i64 0, .int .i64 0, .int .i64 0, .string ⟨#[]⟩, .string ⟨#[]⟩, .int .i64 0] 29)
  have N0_0_0 : BlockIs U0 (g0) 27 [.slice none 0 0, .slice none 0 0] := by rw [← hg0, ← hU0]; show ((w1.heap.push _).push _)[w1.heap.size]? = some _; rw [Array.getElem?_push, if_neg (by simp), Array.getElem?_push, if_pos rfl]
  have N0_1_0 : BlockIs U0 (g0 + 1) 29 [.int .i64 0, .int .i64 0, .int .i64 0, .string ⟨#[]⟩, .string ⟨#[]⟩, .int .i64 0] := by rw [← hg0, ← hU0]; show ((w1.heap.push _).push _)[w1.heap.size + 1]? = some _; rw [Array.getElem?_push, if_pos (by simp)]
  have o0_0 := N0_0_0.cell (j := 0) rfl
  have f0_0 := N0_0_0.thaw 0
  obtain ⟨V0_0, hV0_0⟩ : ∃ V, U0.setCell ⟨g0, 0, none⟩ (.slice va ls.length vc) = V := ⟨_, rfl⟩
  have N0_0_1 : BlockIs V0_0 (g0) 27 [.slice va ls.length vc, .slice none 0 0] := by rw [← hV0_0]; exact N0_0_0.set 0 _
  have N0_1_1 : BlockIs V0_0 (g0 + 1) 29 [.int .i64 0, .int .i64 0, .int .i64 0, .string ⟨#[]⟩, .string ⟨#[]⟩, .int .i64 0] := by rw [← hV0_0]; exact N0_1_0.far (by omega) _
  have bz0 : Below g0 w1 V0_0 := by rw [← hV0_0]; exact bz0.setCell (by show _ ≤ g0; omega) _
  have o0_1 := N0_0_1.cell (j := 1) rfl
  have f0_1 := N0_0_1.thaw 1
  obtain ⟨V0_1, hV0_1⟩ : ∃ V, V0_0.setCell ⟨g0, 1, none⟩ (.slice vb li.length vd) = V := ⟨_, rfl⟩
  have N0_0_2 : BlockIs V0_1 (g0) 27 [.slice va ls.length vc, .slice vb li.length vd] := by rw [← hV0_1]; exact N0_0_1.set 1 _
  have N0_1_2 : BlockIs V0_1 (g0 + 1) 29 [.int .i64 0, .int .i64 0, .int .i64 0, .string ⟨#[]⟩, .string ⟨#[]⟩, .int .i64 0] := by rw [← hV0_1]; exact N0_1_1.far (by omega) _
  have bz0 : Below g0 w1 V0_1 := by rw [← hV0_1]; exact bz0.setCell (by show _ ≤ g0; omega) _
  have o0_2 := N0_1_2.cell (j := 0) rfl
  have f0_2 := N0_1_2.thaw 0
  obtain ⟨V0_2, hV0_2⟩ : ∃ V, V0_1.setCell ⟨g0 + 1, 0, none⟩ (.int .i64 d.op) = V := ⟨_, rfl⟩
  have N0_0_3 : BlockIs V0_2 (g0) 27 [.slice va ls.length vc, .slice vb li.length vd] := by rw [← hV0_2]; exact N0_0_2.far (by omega) _
  have N0_1_3 : BlockIs V0_2 (g0 + 1) 29 [.int .i64 d.op, .int .i64 0, .int .i64 0, .string ⟨#[]⟩, .string ⟨#[]⟩, .int .i64 0] := by rw [← hV0_2]; exact N0_1_2.set 0 _
  have bz0 : Below g0 w1 V0_2 := by rw [← hV0_2]; exact bz0.setCell (by show _ ≤ g0 + 1; omega) _
  have o0_3 := N0_1_3.cell (j := 1) rfl
  have f0_3 := N0_1_3.thaw 1
  obtain ⟨V0_3, hV0_3⟩ : ∃ V, V0_2.setCell ⟨g0 + 1, 1, none⟩ (.int .i64 d.token) = V := ⟨_, rfl⟩
  have N0_0_4 : BlockIs V0_3 (g0) 27 [.slice va ls.length vc, .slice vb li.length vd] := by rw [← hV0_3]; exact N0_0_3.far (by omega) _
  have N0_1_4 : BlockIs V0_3 (g0 + 1) 29 [.int .i64 d.op, .int .i64 d.token, .int .i64 0, .string ⟨#[]⟩, .string ⟨#[]⟩, .int .i64 0] := by rw [← hV0_3]; exact N0_1_3.set 1 _
  have bz0 : Below g0 w1 V0_3 := by rw [← hV0_3]; exact bz0.setCell (by show _ ≤ g0 + 1; omega) _
  have o0_4 := N0_1_4.cell (j := 2) rfl
  have f0_4 := N0_1_4.thaw 2
  obtain ⟨V0_4, hV0_4⟩ : ∃ V, V0_3.setCell ⟨g0 + 1, 2, none⟩ (.int .i64 d.seq) = V := ⟨_, rfl⟩
  have N0_0_5 : BlockIs V0_4 (g0) 27 [.slice va ls.length vc, .slice vb li.length vd] := by rw [← hV0_4]; exact N0_0_4.far (by omega) _
  have N0_1_5 : BlockIs V0_4 (g0 + 1) 29 [.int .i64 d.op, .int .i64 d.token, .int .i64 d.seq, .string ⟨#[]⟩, .string ⟨#[]⟩, .int .i64 0] := by rw [← hV0_4]; exact N0_1_4.set 2 _
  have bz0 : Below g0 w1 V0_4 := by rw [← hV0_4]; exact bz0.setCell (by show _ ≤ g0 + 1; omega) _
  have o0_5 := N0_1_5.cell (j := 3) rfl
  have f0_5 := N0_1_5.thaw 3
  obtain ⟨V0_5, hV0_5⟩ : ∃ V, V0_4.setCell ⟨g0 + 1, 3, none⟩ (.string d.key) = V := ⟨_, rfl⟩
  have N0_0_6 : BlockIs V0_5 (g0) 27 [.slice va ls.length vc, .slice vb li.length vd] := by rw [← hV0_5]; exact N0_0_5.far (by omega) _
  have N0_1_6 : BlockIs V0_5 (g0 + 1) 29 [.int .i64 d.op, .int .i64 d.token, .int .i64 d.seq, .string d.key, .string ⟨#[]⟩, .int .i64 0] := by rw [← hV0_5]; exact N0_1_5.set 3 _
  have bz0 : Below g0 w1 V0_5 := by rw [← hV0_5]; exact bz0.setCell (by show _ ≤ g0 + 1; omega) _
  have o0_6 := N0_1_6.cell (j := 4) rfl
  have f0_6 := N0_1_6.thaw 4
  obtain ⟨V0_6, hV0_6⟩ : ∃ V, V0_5.setCell ⟨g0 + 1, 4, none⟩ (.string d.val) = V := ⟨_, rfl⟩
  have N0_0_7 : BlockIs V0_6 (g0) 27 [.slice va ls.length vc, .slice vb li.length vd] := by rw [← hV0_6]; exact N0_0_6.far (by omega) _
  have N0_1_7 : BlockIs V0_6 (g0 + 1) 29 [.int .i64 d.op, .int .i64 d.token, .int .i64 d.seq, .string d.key, .string d.val, .int .i64 0] := by rw [← hV0_6]; exact N0_1_6.set 4 _
  have bz0 : Below g0 w1 V0_6 := by rw [← hV0_6]; exact bz0.setCell (by show _ ≤ g0 + 1; omega) _
  have o0_7 := N0_1_7.cell (j := 5) rfl
  have f0_7 := N0_1_7.thaw 5
  obtain ⟨V0_7, hV0_7⟩ : ∃ V, V0_6.setCell ⟨g0 + 1, 5, none⟩ (.int .i64 d.ver) = V := ⟨_, rfl⟩
  have N0_0_8 : BlockIs V0_7 (g0) 27 [.slice va ls.length vc, .slice vb li.length vd] := by rw [← hV0_7]; exact N0_0_7.far (by omega) _
  have N0_1_8 : BlockIs V0_7 (g0 + 1) 29 [.int .i64 d.op, .int .i64 d.token, .int .i64 d.seq, .string d.key, .string d.val, .int .i64 d.ver] := by rw [← hV0_7]; exact N0_1_7.set 5 _
  have bz0 : Below g0 w1 V0_7 := by rw [← hV0_7]; exact bz0.setCell (by show _ ≤ g0 + 1; omega) _
  have hN0_0 := hid N0_0_8
  have p0_0_0 := hN0_0.out.cell (j := 0) rfl
  have p0_0_1 := hN0_0.out.cell (j := 1) rfl
  have hN0_1 := hid N0_1_8
  have p0_1_0 := hN0_1.out.cell (j := 0) rfl
  have p0_1_1 := hN0_1.out.cell (j := 1) rfl
  have p0_1_2 := hN0_1.out.cell (j := 2) rfl
  have p0_1_3 := hN0_1.out.cell (j := 3) rfl
  have p0_1_4 := hN0_1.out.cell (j := 4) rfl
  have p0_1_5 := hN0_1.out.cell (j := 5) rfl
  have bzz0 : Below w1.heap.size w1 V0_7 := by have h := bz0; rw [← hg0] at h; exact h
  clear bz0 N0_0_0 N0_0_1 N0_0_2 N0_0_3 N0_0_4 N0_0_5 N0_0_6 N0_0_7 N0_0_8 N0_1_0 N0_1_1 N0_1_2 N0_1_3 N0_1_4 N0_1_5 N0_1_6 N0_1_7 N0_1_8
  have lo0 : w.heap.size ≤ g0 := by rw [← hg0]; exact B_1.out.size
  by_cases hz : (ls.length : Int) = 0
  · have hz0 : ((ls.length : Int) == 0) = true := beq_iff_eq.2 hz
    have HZ := hid hz
    clear hz
    go_wp2_with fail
    clear o0_0 f0_0 o0_1 f0_1 o0_2 f0_2 o0_3 f0_3 o0_4 f0_4 o0_5 f0_5 o0_6 f0_6 o0_7 f0_7 p0_0_0 p0_0_1 p0_1_0 p0_1_1 p0_1_2 p0_1_3 p0_1_4 p0_1_5
    have Qk_2 : Hid (KRows V0_7 (w.heap.size) (.slice va ls.length vc) (.slice vb li.length vd) ls li) := hid (Qk_1.out.on bzz0)
    have B_2 : Hid (Below w.heap.size w V0_7) := hid (below_via B_1.out bzz0)
    clear Qk_1 B_1
    clear bzz0
    have Xk_2 := hN0_0
    have Xx_2 := hN0_1
    have cK' := fun W ao bo ac bc h1 h2 => implKeepOk_any ao bo ls li ac bc hl1 hl2 W h1 h2
    rw [HKO.out] at cK'
    refine Calls.mono (cK' _ _ _ _ _ (sessionR_at Qk_2.out.1) (itemR_at Qk_2.out.2)) ?_
    rintro e w2 ⟨rfl, b_s⟩
    have Xk_3 : Hid (BlockIs w2 (g0) 27 [.slice va ls.length vc, .slice vb li.length vd]) := hid (Xk_2.out.on b_s Xk_2.out.lt)
    have Xx_3 : Hid (BlockIs w2 (g0 + 1) 29 [.int .i64 d.op, .int .i64 d.token, .int .i64 d.seq, .string d.key, .string d.val, .int .i64 d.ver]) := hid (Xx_2.out.on b_s Xx_2.out.lt)
    have Qk_3 : Hid (KRows w2 (w.heap.size) (.slice va ls.length vc) (.slice vb li.length vd) ls li) := hid (Qk_2.out.on b_s)
    have B_3 : Hid (Below w.heap.size w w2) := hid (below_via B_2.out b_s)
    clear Xk_2 Xx_2 Qk_2 B_2
    clear b_s
    go_wp2
    go_ret
    exact ⟨rfl, B_3.out⟩
  have hz0 : ((ls.length : Int) == 0) = false := beq_eq_false_iff_ne.2 hz
  have hpos : 0 < ls.length := by omega
  go_wp2_with fail
  clear o0_0 f0_0 o0_1 f0_1 o0_2 f0_2 o0_3 f0_3 o0_4 f0_4 o0_5 f0_5 o0_6 f0_6 o0_7 f0_7 p0_0_0 p0_0_1 p0_1_0 p0_1_1 p0_1_2 p0_1_3 p0_1_4 p0_1_5
  have Qk_2 : Hid (KRows V0_7 (w.heap.size) (.slice va ls.length vc) (.slice vb li.length vd) ls li) := hid (Qk_1.out.on bzz0)
  have B_2 : Hid (Below w.heap.size w V0_7) := hid (below_via B_1.out bzz0)
  clear Qk_1 B_1
  clear bzz0
  have Xk_2 := hN0_0
  have Xx_2 := hN0_1
  refine (drawPlaces_any ao len cap hlen hcap _ (bytes_on HBY.out B_2.out)).mono ?_
  rintro e w2 ⟨pv, rfl, ⟨gp, pc, rfl, hpc, hpl⟩, b_s⟩
  have Xk_3 : Hid (BlockIs w2 (g0) 27 [.slice va ls.length vc, .slice vb li.length vd]) := hid (Xk_2.out.on b_s Xk_2.out.lt)
  have Xx_3 : Hid (BlockIs w2 (g0 + 1) 29 [.int .i64 d.op, .int .i64 d.token, .int .i64 d.seq, .string d.key, .string d.val, .int .i64 d.ver]) := hid (Xx_2.out.on b_s Xx_2.out.lt)
  have Qk_3 : Hid (KRows w2 (w.heap.size) (.slice va ls.length vc) (.slice vb li.length vd) ls li) := hid (Qk_2.out.on b_s)
  have B_3 : Hid (Below w.heap.size w w2) := hid (below_via B_2.out b_s)
  clear Xk_2 Xx_2 Qk_2 B_2
  clear b_s
  obtain ⟨a0, ha0, x0⟩ := hpl 0 (by decide)
  obtain ⟨a1, ha1, x1⟩ := hpl 1 (by decide)
  clear hpl
  have Cp0_3 : Hid (w2.cell? ⟨gp, 0, none⟩ = some (.int .i64 (a0 : Int))) := hid x0
  have Cp1_3 : Hid (w2.cell? ⟨gp, 1, none⟩ = some (.int .i64 (a1 : Int))) := hid x1
  clear x0 x1
  obtain ⟨p, hp⟩ : ∃ p, a0 % ls.length = p := ⟨_, rfl⟩
  have hpl : p < ls.length := by rw [← hp]; exact Nat.mod_lt _ hpos
  have hrem : (a0 : Int).tmod (ls.length : Int) = (p : Int) := by rw [← hp, Int.ofNat_tmod]
  have hpl' : (p : Int) < (ls.length : Int) := by omega
  obtain ⟨r, hr⟩ : ∃ r, a1 % 4 = r := ⟨_, rfl⟩
  have hr4 : r < 4 := by omega
  have hrem4 : (a1 : Int).tmod 4 = (r : Int) := by rw [← hr]; exact (Int.ofNat_tmod a1 4).symm
  have hr4' : (r : Int) < 4 := by omega
  have hne : ls ≠ [] := by intro e; rw [e] at hpos; simp at hpos
  obtain ⟨bs, offs, hva, hcs⟩ := (sessionR_at Qk_3.out.1) hne
  obtain ⟨s0, s1, s2⟩ := hcs p hpl
  clear hcs hp hr hz
  have hnil : ¬ ls = [] := hne
  clear hne
  subst hva
  have hsb := session_bounds (HSF.out ls[p] (List.getElem_mem hpl))
  have hyb := HYO.out ls[p] (List.getElem_mem hpl)
  obtain ⟨t, ht⟩ : ∃ t, ls[p].token = t := ⟨_, rfl⟩
  obtain ⟨L, hL⟩ : ∃ L, ls[p].last = L := ⟨_, rfl⟩
  obtain ⟨rps, hrps⟩ : ∃ r, ls[p].reply = r := ⟨_, rfl⟩
  rw [ht] at s0
  rw [hL] at s1
  rw [hrps] at s2
  rw [ht, hL] at hsb hyb
  have HTK := hid ht
  have HLA := hid hL
  clear ht hL hrps
  have Cs0_3 : Hid (w2.cell? ⟨bs, offs + p * 3, none⟩ = some (.int .i64 t)) := hid s0
  have Cs1_3 : Hid (w2.cell? ⟨bs, offs + p * 3 + 1, none⟩ = some (.int .i64 L)) := hid s1
  have Cs2_3 : Hid (w2.cell? ⟨bs, offs + p * 3 + 2, none⟩ = some (.string rps)) := hid s2
  clear s0 s1 s2
  go_wp2
  obtain ⟨g1, hg1⟩ : ∃ g, w2.heap.size = g := ⟨_, rfl⟩
  obtain ⟨U1, hU1⟩ : ∃ V, (w2.alloc (.cells #[.int .i64 0, .int .i64 0, .string ⟨#[]⟩] 36)) = V := ⟨_, rfl⟩
  have bz1 : Below g1 w2 U1 := by rw [← hg1, ← hU1]; exact below_more (Below.refl w2.heap.size w2) (.cells #[.int .i64 0, .int .i64 0, .string ⟨#[]⟩] 36)
  have N1_0_0 : BlockIs U1 (g1) 36 [.int .i64 0, .int .i64 0, .string ⟨#[]⟩] := by rw [← hg1, ← hU1]; exact heap_alloc_new _ _
  have o1_0 := N1_0_0.cell (j := 0) rfl
  have f1_0 := N1_0_0.thaw 0
  obtain ⟨V1_0, hV1_0⟩ : ∃ V, U1.drew.setCell ⟨g1, 0, none⟩ (.int .i64 t) = V := ⟨_, rfl⟩
  have N1_0_0 : BlockIs U1.drew (g1) 36 [.int .i64 0, .int .i64 0, .string ⟨#[]⟩] := N1_0_0
  have bz1 : Below g1 w2 U1.drew := below_drewN bz1 1
  have N1_0_1 : BlockIs V1_0 (g1) 36 [.int .i64 t, .int .i64 0, .string ⟨#[]⟩] := by rw [← hV1_0]; exact N1_0_0.set 0 _
  have bz1 : Below g1 w2 V1_0 := by rw [← hV1_0]; exact bz1.setCell (by show _ ≤ g1; omega) _
  have o1_1 := N1_0_1.cell (j := 1) rfl
  have f1_1 := N1_0_1.thaw 1
  obtain ⟨V1_1, hV1_1⟩ : ∃ V, V1_0.setCell ⟨g1, 1, none⟩ (.int .i64 L) = V := ⟨_, rfl⟩
  have N1_0_2 : BlockIs V1_1 (g1) 36 [.int .i64 t, .int .i64 L, .string ⟨#[]⟩] := by rw [← hV1_1]; exact N1_0_1.set 1 _
  have bz1 : Below g1 w2 V1_1 := by rw [← hV1_1]; exact bz1.setCell (by show _ ≤ g1; omega) _
  have o1_2 := N1_0_2.cell (j := 2) rfl
  have f1_2 := N1_0_2.thaw 2
  obtain ⟨V1_2, hV1_2⟩ : ∃ V, V1_1.setCell ⟨g1, 2, none⟩ (.string rps) = V := ⟨_, rfl⟩
  have N1_0_3 : BlockIs V1_2 (g1) 36 [.int .i64 t, .int .i64 L, .string rps] := by rw [← hV1_2]; exact N1_0_2.set 2 _
  have bz1 : Below g1 w2 V1_2 := by rw [← hV1_2]; exact bz1.setCell (by show _ ≤ g1; omega) _
  have hN1_0 := hid N1_0_3
  have p1_0_0 := hN1_0.out.cell (j := 0) rfl
  have p1_0_1 := hN1_0.out.cell (j := 1) rfl
  have p1_0_2 := hN1_0.out.cell (j := 2) rfl
  have bzz1 : Below w2.heap.size w2 V1_2 := by have h := bz1; rw [← hg1] at h; exact h
  clear bz1 N1_0_0 N1_0_1 N1_0_2 N1_0_3
  have ltk_1 : g0 < g1 := by rw [← hg1]; exact Xk_3.out.lt
  have ltx_1 : g0 + 1 < g1 := by rw [← hg1]; exact Xx_3.out.lt
  have lo1 : w.heap.size ≤ g1 := by rw [← hg1]; exact B_3.out.size
  have bu := below_more (Below.refl w2.heap.size w2) (.cells #[.int .i64 0, .int .i64 0, .string ⟨#[]⟩] 36)
  rw [hU1] at bu
  have Zk := Xk_3.out.on bu Xk_3.out.lt
  have zk0 := Zk.cell (j := 0) rfl
  have zk1 := Zk.cell (j := 1) rfl
  clear Zk
  have yp0 := (bu.cell (p := ⟨gp, 0, none⟩) (World.block_lt_of_cell? _ _ Cp0_3.out)).trans Cp0_3.out
  have ys0 := (bu.cell (p := ⟨bs, offs + p * 3, none⟩) (World.block_lt_of_cell? _ _ Cs0_3.out)).trans Cs0_3.out
  have ys1 := (bu.cell (p := ⟨bs, offs + p * 3 + 1, none⟩) (World.block_lt_of_cell? _ _ Cs1_3.out)).trans Cs1_3.out
  have ys2 := (bu.cell (p := ⟨bs, offs + p * 3 + 2, none⟩) (World.block_lt_of_cell? _ _ Cs2_3.out)).trans Cs2_3.out
  clear bu
  have ck0_1 := Xk_3.out.cell (j := 0) rfl
  have ck1_1 := Xk_3.out.cell (j := 1) rfl
  have wp0 := Cp0_3.out
  have ws0 := Cs0_3.out
  have ws1 := Cs1_3.out
  have ws2 := Cs2_3.out
  go_region
  clear yp0 ys0 ys1 ys2 wp0 ws0 ws1 ws2 zk0 zk1 hrem
  clear ck0_1 ck1_1
  clear o1_0 f1_0 o1_1 f1_1 o1_2 f1_2 p1_0_0 p1_0_1 p1_0_2
  have Xk_4 : Hid (BlockIs V1_2 (g0) 27 [.slice (some ⟨bs, offs, none⟩) ls.length vc, .slice vb li.length vd]) := hid (Xk_3.out.on bzz1 Xk_3.out.lt)
  have Xx_4 : Hid (BlockIs V1_2 (g0 + 1) 29 [.int .i64 d.op, .int .i64 d.token, .int .i64 d.seq, .string d.key, .string d.val, .int .i64 d.ver]) := hid (Xx_3.out.on bzz1 Xx_3.out.lt)
  have Qk_4 : Hid (KRows V1_2 (w.heap.size) (.slice (some ⟨bs, offs, none⟩) ls.length vc) (.slice vb li.length vd) ls li) := hid (Qk_3.out.on bzz1)
  have B_4 : Hid (Below w.heap.size w V1_2) := hid (below_via B_3.out bzz1)
  have Cp0_4 : Hid (V1_2.cell? ⟨gp, 0, none⟩ = some (.int .i64 (a0 : Int))) := hid ((bzz1.cell (p := ⟨gp, 0, none⟩) (World.block_lt_of_cell? _ _ Cp0_3.out)).trans Cp0_3.out)
  have Cp1_4 : Hid (V1_2.cell? ⟨gp, 1, none⟩ = some (.int .i64 (a1 : Int))) := hid ((bzz1.cell (p := ⟨gp, 1, none⟩) (World.block_lt_of_cell? _ _ Cp1_3.out)).trans Cp1_3.out)
  have Cs0_4 : Hid (V1_2.cell? ⟨bs, offs + p * 3, none⟩ = some (.int .i64 t)) := hid ((bzz1.cell (p := ⟨bs, offs + p * 3, none⟩) (World.block_lt_of_cell? _ _ Cs0_3.out)).trans Cs0_3.out)
  have Cs1_4 : Hid (V1_2.cell? ⟨bs, offs + p * 3 + 1, none⟩ = some (.int .i64 L)) := hid ((bzz1.cell (p := ⟨bs, offs + p * 3 + 1, none⟩) (World.block_lt_of_cell? _ _ Cs1_3.out)).trans Cs1_3.out)
  have Cs2_4 : Hid (V1_2.cell? ⟨bs, offs + p * 3 + 2, none⟩ = some (.string rps)) := hid ((bzz1.cell (p := ⟨bs, offs + p * 3 + 2, none⟩) (World.block_lt_of_cell? _ _ Cs2_3.out)).trans Cs2_3.out)
  clear Xk_3 Xx_3 Qk_3 B_3 Cp0_3 Cp1_3 Cs0_3 Cs1_3 Cs2_3
  clear bzz1
  have Xs_4 := hN1_0
  obtain ⟨key, hkey, hks⟩ : ∃ key : ByteArray, ([.string ⟨#[97]⟩, .string ⟨#[98]⟩, .string ⟨#[114, 111, 111, 116]⟩, .string ⟨#[110, 101, 119]⟩] : List Value)[r]? = some (.string key) ∧ (1 ≤ key.size ∧ key.size ≤ 8) := by
    match r, hr4 with
    | 0, _ => exact ⟨_, rfl, by decide, by decide⟩
    | 1, _ => exact ⟨_, rfl, by decide, by decide⟩
    | 2, _ => exact ⟨_, rfl, by decide, by decide⟩
    | 3, _ => exact ⟨_, rfl, by decide, by decide⟩
  obtain ⟨g2, hg2⟩ : ∃ g, V1_2.heap.size = g := ⟨_, rfl⟩
  obtain ⟨U2, hU2⟩ : ∃ V, (V1_2.alloc (.cells #[.string ⟨#[97]⟩, .string ⟨#[98]⟩, .string ⟨#[114, 111, 111, 116]⟩, .string ⟨#[110, 101, 119]⟩] 9)) = V := ⟨_, rfl⟩
  have bz2 : Below g2 V1_2 U2 := by rw [← hg2, ← hU2]; exact below_more (Below.refl V1_2.heap.size V1_2) (.cells #[.string ⟨#[97]⟩, .string ⟨#[98]⟩, .string ⟨#[114, 111, 111, 116]⟩, .string ⟨#[110, 101, 119]⟩] 9)
  have N2_0_0 : BlockIs U2 (g2) 9 [.string ⟨#[97]⟩, .string ⟨#[98]⟩, .string ⟨#[114, 111, 111, 116]⟩, .string ⟨#[110, 101, 119]⟩] := by rw [← hg2, ← hU2]; exact heap_alloc_new _ _
  have hN2_0 := hid N2_0_0
  have bzz2 : Below V1_2.heap.size V1_2 U2 := by have h := bz2; rw [← hg2] at h; exact h
  clear bz2 N2_0_0
  have ltk_2 : g0 < g2 := by rw [← hg2]; exact Xk_4.out.lt
  have ltx_2 : g0 + 1 < g2 := by rw [← hg2]; exact Xx_4.out.lt
  have lts_2 : g1 < g2 := by rw [← hg2]; exact Xs_4.out.lt
  have lo2 : w.heap.size ≤ g2 := by rw [← hg2]; exact B_4.out.size
  have hkc := hN2_0.out.cell (j := r) hkey
  clear hkey
  have Zk := Xk_4.out.on bzz2 Xk_4.out.lt
  have zk0 := Zk.cell (j := 0) rfl
  have zk1 := Zk.cell (j := 1) rfl
  clear Zk
  have Zs := Xs_4.out.on bzz2 Xs_4.out.lt
  have zs0 := Zs.cell (j := 0) rfl
  have zs1 := Zs.cell (j := 1) rfl
  have zs2 := Zs.cell (j := 2) rfl
  clear Zs
  have zcp1 := (bzz2.cell (p := ⟨gp, 1, none⟩) (World.block_lt_of_cell? _ _ Cp1_4.out)).trans Cp1_4.out
  have hw1 : IntKind.i64.wrap (L + 1) = L + 1 := by rw [IntKind.wrap_i64]; omega
  have hw2 : IntKind.i64.wrap (L + 2) = L + 2 := by rw [IntKind.wrap_i64]; omega
  have hw3 : IntKind.i64.wrap (L + 3) = L + 3 := by rw [IntKind.wrap_i64]; omega
  have hw4 : IntKind.i64.wrap (L + 4) = L + 4 := by rw [IntKind.wrap_i64]; omega
  have hw5 : IntKind.i64.wrap (L + 5) = L + 5 := by rw [IntKind.wrap_i64]; omega
  have hPG := put_get HKO.out hpl HTK.out HLA.out (by omega) (by omega) hks
  have HPG := hid hPG
  clear hPG
  go_wp2_with fail
  clear hkc hrem4 zk0 zk1 zs0 zs1 zs2 zcp1
  have Xk_5 : Hid (BlockIs U2 (g0) 27 [.slice (some ⟨bs, offs, none⟩) ls.length vc, .slice vb li.length vd]) := hid (Xk_4.out.on bzz2 Xk_4.out.lt)
  have Xx_5 : Hid (BlockIs U2 (g0 + 1) 29 [.int .i64 d.op, .int .i64 d.token, .int .i64 d.seq, .string d.key, .string d.val, .int .i64 d.ver]) := hid (Xx_4.out.on bzz2 Xx_4.out.lt)
  have Xs_5 : Hid (BlockIs U2 (g1) 36 [.int .i64 t, .int .i64 L, .string rps]) := hid (Xs_4.out.on bzz2 Xs_4.out.lt)
  have Qk_5 : Hid (KRows U2 (w.heap.size) (.slice (some ⟨bs, offs, none⟩) ls.length vc) (.slice vb li.length vd) ls li) := hid (Qk_4.out.on bzz2)
  have B_5 : Hid (Below w.heap.size w U2) := hid (below_via B_4.out bzz2)
  have Cp0_5 : Hid (U2.cell? ⟨gp, 0, none⟩ = some (.int .i64 (a0 : Int))) := hid ((bzz2.cell (p := ⟨gp, 0, none⟩) (World.block_lt_of_cell? _ _ Cp0_4.out)).trans Cp0_4.out)
  have Cp1_5 : Hid (U2.cell? ⟨gp, 1, none⟩ = some (.int .i64 (a1 : Int))) := hid ((bzz2.cell (p := ⟨gp, 1, none⟩) (World.block_lt_of_cell? _ _ Cp1_4.out)).trans Cp1_4.out)
  have Cs0_5 : Hid (U2.cell? ⟨bs, offs + p * 3, none⟩ = some (.int .i64 t)) := hid ((bzz2.cell (p := ⟨bs, offs + p * 3, none⟩) (World.block_lt_of_cell? _ _ Cs0_4.out)).trans Cs0_4.out)
  have Cs1_5 : Hid (U2.cell? ⟨bs, offs + p * 3 + 1, none⟩ = some (.int .i64 L)) := hid ((bzz2.cell (p := ⟨bs, offs + p * 3 + 1, none⟩) (World.block_lt_of_cell? _ _ Cs1_4.out)).trans Cs1_4.out)
  have Cs2_5 : Hid (U2.cell? ⟨bs, offs + p * 3 + 2, none⟩ = some (.string rps)) := hid ((bzz2.cell (p := ⟨bs, offs + p * 3 + 2, none⟩) (World.block_lt_of_cell? _ _ Cs2_4.out)).trans Cs2_4.out)
  clear Xk_4 Xx_4 Xs_4 Qk_4 B_4 Cp0_4 Cp1_4 Cs0_4 Cs1_4 Cs2_4
  clear bzz2
  have Xr_5 := hN2_0
  clear Cp0_5 Cp1_5 Cs0_5 Cs1_5 Cs2_5
  have c1' := fun W ao bo ac bc ht ha hi => implPerform_any ao bo ls li ac bc 70 ⟨2, t, L + 1, key, valT, 0⟩ hl1 hl2 W ht ha hi
  rcases HPG.out with ⟨s1, p1, n1, h8, hno⟩ | ⟨s1, i1, s2, s3, s4, i4, s5, i5, p1, p2, p3, p4, p5, ⟨it4, no5, hall⟩, ⟨n1, n2, n3, n4, n5⟩, k1, k4, k5⟩
  · rw [p1] at c1'
    have c1 := hid c1'
    have h8b : ((li.length : Int) == 8) = true := beq_iff_eq.2 (by omega)
    clear c1' p1 n1 h8 HPG
    obtain ⟨⟨ik, iv, ix⟩, hit⟩ : ∃ it, itemOf li key = (it, false) := ⟨(itemOf li key).1, Prod.ext rfl hno⟩
    have cI' := fun W ao bo sl ac bc h => implItemOf_any ao bo sl ac bc li key hl2 hsmk W h
    rw [hit] at cI'
    dsimp only at cI'
    have cI := hid cI'
    clear cI' hit hno
    refine Calls.mono (c1.out _ _ _ _ _ (table_low HT.out B_5.out) (sessionR_at Qk_5.out.1) (itemR_at Qk_5.out.2)) ?_
    rintro e w4 ⟨va1, vc1, vb1, vd1, rfl, q_a, b_a⟩
    dsimp only at q_a ⊢
    have Xk_6 : Hid (BlockIs w4 (g0) 27 [.slice (some ⟨bs, offs, none⟩) ls.length vc, .slice vb li.length vd]) := hid (Xk_5.out.on b_a Xk_5.out.lt)
    have Xx_6 : Hid (BlockIs w4 (g0 + 1) 29 [.int .i64 d.op, .int .i64 d.token, .int .i64 d.seq, .string d.key, .string d.val, .int .i64 d.ver]) := hid (Xx_5.out.on b_a Xx_5.out.lt)
    have Xs_6 : Hid (BlockIs w4 (g1) 36 [.int .i64 t, .int .i64 L, .string rps]) := hid (Xs_5.out.on b_a Xs_5.out.lt)
    have Xr_6 : Hid (BlockIs w4 (g2) 9 [.string ⟨#[97]⟩, .string ⟨#[98]⟩, .string ⟨#[114, 111, 111, 116]⟩, .string ⟨#[110, 101, 119]⟩]) := hid (Xr_5.out.on b_a Xr_5.out.lt)
    have Qk_6 : Hid (KRows w4 (w.heap.size) (.slice (some ⟨bs, offs, none⟩) ls.length vc) (.slice vb li.length vd) ls li) := hid (Qk_5.out.on b_a)
    have B_6 : Hid (Below w.heap.size w w4) := hid (below_via B_5.out b_a)
    clear Xk_5 Xx_5 Xs_5 Xr_5 Qk_5 B_5
    clear b_a
    have Qa_6 : Hid (KRows w4 (U2.heap.size) (.slice va1 s1.length vc1) (.slice vb1 li.length vd1) s1 li) := hid q_a
    clear q_a
    obtain ⟨g3, hg3⟩ : ∃ g, w4.heap.size = g := ⟨_, rfl⟩
    obtain ⟨U3, hU3⟩ : ∃ V, (w4.alloc (.cells #[.slice none 0 0, .slice none 0 0] 27)) = V := ⟨_, rfl⟩
    have bz3 : Below g3 w4 U3 := by rw [← hg3, ← hU3]; exact below_more (Below.refl w4.heap.size w4) (.cells #[.slice none 0 0, .slice none 0 0] 27)
    have N3_0_0 : BlockIs U3 (g3) 27 [.slice none 0 0, .slice none 0 0] := by rw [← hg3, ← hU3]; exact heap_alloc_new _ _
    have o3_0 := N3_0_0.cell (j := 0) rfl
    have f3_0 := N3_0_0.thaw 0
    obtain ⟨V3_0, hV3_0⟩ : ∃ V, U3.setCell ⟨g3, 0, none⟩ (.slice va1 s1.length vc1) = V := ⟨_, rfl⟩
    have N3_0_1 : BlockIs V3_0 (g3) 27 [.slice va1 s1.length vc1, .slice none 0 0] := by rw [← hV3_0]; exact N3_0_0.set 0 _
    have bz3 : Below g3 w4 V3_0 := by rw [← hV3_0]; exact bz3.setCell (by show _ ≤ g3; omega) _
    have o3_1 := N3_0_1.cell (j := 1) rfl
    have f3_1 := N3_0_1.thaw 1
    obtain ⟨V3_1, hV3_1⟩ : ∃ V, V3_0.setCell ⟨g3, 1, none⟩ (.slice vb1 li.length vd1) = V := ⟨_, rfl⟩
    have N3_0_2 : BlockIs V3_1 (g3) 27 [.slice va1 s1.length vc1, .slice vb1 li.length vd1] := by rw [← hV3_1]; exact N3_0_1.set 1 _
    have bz3 : Below g3 w4 V3_1 := by rw [← hV3_1]; exact bz3.setCell (by show _ ≤ g3; omega) _
    have hN3_0 := hid N3_0_2
    have p3_0_0 := hN3_0.out.cell (j := 0) rfl
    have p3_0_1 := hN3_0.out.cell (j := 1) rfl
    have bzz3 : Below w4.heap.size w4 V3_1 := by have h := bz3; rw [← hg3] at h; exact h
    clear bz3 N3_0_0 N3_0_1 N3_0_2
    have ltk_3 : g0 < g3 := by rw [← hg3]; exact Xk_6.out.lt
    have ltx_3 : g0 + 1 < g3 := by rw [← hg3]; exact Xx_6.out.lt
    have lts_3 : g1 < g3 := by rw [← hg3]; exact Xs_6.out.lt
    have ltr_3 : g2 < g3 := by rw [← hg3]; exact Xr_6.out.lt
    have lo3 : w.heap.size ≤ g3 := by rw [← hg3]; exact B_6.out.size
    have Zk := Xk_6.out.on bzz3 Xk_6.out.lt
    have zk0 := Zk.cell (j := 0) rfl
    have zk1 := Zk.cell (j := 1) rfl
    clear Zk
    go_wp2_with fail
    clear zk0 zk1
    clear o3_0 f3_0 o3_1 f3_1 p3_0_0 p3_0_1
    have Xk_7 : Hid (BlockIs V3_1 (g0) 27 [.slice (some ⟨bs, offs, none⟩) ls.length vc, .slice vb li.length vd]) := hid (Xk_6.out.on bzz3 Xk_6.out.lt)
    have Xx_7 : Hid (BlockIs V3_1 (g0 + 1) 29 [.int .i64 d.op, .int .i64 d.token, .int .i64 d.seq, .string d.key, .string d.val, .int .i64 d.ver]) := hid (Xx_6.out.on bzz3 Xx_6.out.lt)
    have Xs_7 : Hid (BlockIs V3_1 (g1) 36 [.int .i64 t, .int .i64 L, .string rps]) := hid (Xs_6.out.on bzz3 Xs_6.out.lt)
    have Xr_7 : Hid (BlockIs V3_1 (g2) 9 [.string ⟨#[97]⟩, .string ⟨#[98]⟩, .string ⟨#[114, 111, 111, 116]⟩, .string ⟨#[110, 101, 119]⟩]) := hid (Xr_6.out.on bzz3 Xr_6.out.lt)
    have Qk_7 : Hid (KRows V3_1 (w.heap.size) (.slice (some ⟨bs, offs, none⟩) ls.length vc) (.slice vb li.length vd) ls li) := hid (Qk_6.out.on bzz3)
    have Qa_7 : Hid (KRows V3_1 (U2.heap.size) (.slice va1 s1.length vc1) (.slice vb1 li.length vd1) s1 li) := hid (Qa_6.out.on bzz3)
    have B_7 : Hid (Below w.heap.size w V3_1) := hid (below_via B_6.out bzz3)
    clear Xk_6 Xx_6 Xs_6 Xr_6 Qk_6 Qa_6 B_6
    clear bzz3
    have Xa_7 := hN3_0
    refine (cI.out _ _ _ _ _ _ (itemR_at Qk_7.out.2)).mono ?_
    rintro e w5 ⟨rfl, b_s⟩
    have Xk_8 : Hid (BlockIs w5 (g0) 27 [.slice (some ⟨bs, offs, none⟩) ls.length vc, .slice vb li.length vd]) := hid (Xk_7.out.on b_s Xk_7.out.lt)
    have Xx_8 : Hid (BlockIs w5 (g0 + 1) 29 [.int .i64 d.op, .int .i64 d.token, .int .i64 d.seq, .string d.key, .string d.val, .int .i64 d.ver]) := hid (Xx_7.out.on b_s Xx_7.out.lt)
    have Xs_8 : Hid (BlockIs w5 (g1) 36 [.int .i64 t, .int .i64 L, .string rps]) := hid (Xs_7.out.on b_s Xs_7.out.lt)
    have Xr_8 : Hid (BlockIs w5 (g2) 9 [.string ⟨#[97]⟩, .string ⟨#[98]⟩, .string ⟨#[114, 111, 111, 116]⟩, .string ⟨#[110, 101, 119]⟩]) := hid (Xr_7.out.on b_s Xr_7.out.lt)
    have Xa_8 : Hid (BlockIs w5 (g3) 27 [.slice va1 s1.length vc1, .slice vb1 li.length vd1]) := hid (Xa_7.out.on b_s Xa_7.out.lt)
    have Qk_8 : Hid (KRows w5 (w.heap.size) (.slice (some ⟨bs, offs, none⟩) ls.length vc) (.slice vb li.length vd) ls li) := hid (Qk_7.out.on b_s)
    have Qa_8 : Hid (KRows w5 (U2.heap.size) (.slice va1 s1.length vc1) (.slice vb1 li.length vd1) s1 li) := hid (Qa_7.out.on b_s)
    have B_8 : Hid (Below w.heap.size w w5) := hid (below_via B_7.out b_s)
    clear Xk_7 Xx_7 Xs_7 Xr_7 Xa_7 Qk_7 Qa_7 B_7
    clear b_s
    obtain ⟨g4, hg4⟩ : ∃ g, w5.heap.size = g := ⟨_, rfl⟩
    obtain ⟨U4, hU4⟩ : ∃ V, (w5.alloc (.cells #[.string ⟨#[]⟩, .string ⟨#[]⟩, .int .i64 0] 41)) = V := ⟨_, rfl⟩
    have bz4 : Below g4 w5 U4 := by rw [← hg4, ← hU4]; exact below_more (Below.refl w5.heap.size w5) (.cells #[.string ⟨#[]⟩, .string ⟨#[]⟩, .int .i64 0] 41)
    have N4_0_0 : BlockIs U4 (g4) 41 [.string ⟨#[]⟩, .string ⟨#[]⟩, .int .i64 0] := by rw [← hg4, ← hU4]; exact heap_alloc_new _ _
    have o4_0 := N4_0_0.cell (j := 0) rfl
    have f4_0 := N4_0_0.thaw 0
    obtain ⟨V4_0, hV4_0⟩ : ∃ V, U4.setCell ⟨g4, 0, none⟩ (.string ik) = V := ⟨_, rfl⟩
    have N4_0_1 : BlockIs V4_0 (g4) 41 [.string ik, .string ⟨#[]⟩, .int .i64 0] := by rw [← hV4_0]; exact N4_0_0.set 0 _
    have bz4 : Below g4 w5 V4_0 := by rw [← hV4_0]; exact bz4.setCell (by show _ ≤ g4; omega) _
    have o4_1 := N4_0_1.cell (j := 1) rfl
    have f4_1 := N4_0_1.thaw 1
    obtain ⟨V4_1, hV4_1⟩ : ∃ V, V4_0.setCell ⟨g4, 1, none⟩ (.string iv) = V := ⟨_, rfl⟩
    have N4_0_2 : BlockIs V4_1 (g4) 41 [.string ik, .string iv, .int .i64 0] := by rw [← hV4_1]; exact N4_0_1.set 1 _
    have bz4 : Below g4 w5 V4_1 := by rw [← hV4_1]; exact bz4.setCell (by show _ ≤ g4; omega) _
    have o4_2 := N4_0_2.cell (j := 2) rfl
    have f4_2 := N4_0_2.thaw 2
    obtain ⟨V4_2, hV4_2⟩ : ∃ V, V4_1.setCell ⟨g4, 2, none⟩ (.int .i64 ix) = V := ⟨_, rfl⟩
    have N4_0_3 : BlockIs V4_2 (g4) 41 [.string ik, .string iv, .int .i64 ix] := by rw [← hV4_2]; exact N4_0_2.set 2 _
    have bz4 : Below g4 w5 V4_2 := by rw [← hV4_2]; exact bz4.setCell (by show _ ≤ g4; omega) _
    have hN4_0 := hid N4_0_3
    have p4_0_0 := hN4_0.out.cell (j := 0) rfl
    have p4_0_1 := hN4_0.out.cell (j := 1) rfl
    have p4_0_2 := hN4_0.out.cell (j := 2) rfl
    have bzz4 : Below w5.heap.size w5 V4_2 := by have h := bz4; rw [← hg4] at h; exact h
    clear bz4 N4_0_0 N4_0_1 N4_0_2 N4_0_3
    have ltk_4 : g0 < g4 := by rw [← hg4]; exact Xk_8.out.lt
    have ltx_4 : g0 + 1 < g4 := by rw [← hg4]; exact Xx_8.out.lt
    have lts_4 : g1 < g4 := by rw [← hg4]; exact Xs_8.out.lt
    have ltr_4 : g2 < g4 := by rw [← hg4]; exact Xr_8.out.lt
    have lta_4 : g3 < g4 := by rw [← hg4]; exact Xa_8.out.lt
    have lo4 : w.heap.size ≤ g4 := by rw [← hg4]; exact B_8.out.size
    have Zk := Xk_8.out.on bzz4 Xk_8.out.lt
    have zk0 := Zk.cell (j := 0) rfl
    have zk1 := Zk.cell (j := 1) rfl
    clear Zk
    go_wp2
    clear o4_0 f4_0 o4_1 f4_1 o4_2 f4_2 p4_0_0 p4_0_1 p4_0_2
    have Xk_9 : Hid (BlockIs V4_2 (g0) 27 [.slice (some ⟨bs, offs, none⟩) ls.length vc, .slice vb li.length vd]) := hid (Xk_8.out.on bzz4 Xk_8.out.lt)
    have Xx_9 : Hid (BlockIs V4_2 (g0 + 1) 29 [.int .i64 d.op, .int .i64 d.token, .int .i64 d.seq, .string d.key, .string d.val, .int .i64 d.ver]) := hid (Xx_8.out.on bzz4 Xx_8.out.lt)
    have Xs_9 : Hid (BlockIs V4_2 (g1) 36 [.int .i64 t, .int .i64 L, .string rps]) := hid (Xs_8.out.on bzz4 Xs_8.out.lt)
    have Xr_9 : Hid (BlockIs V4_2 (g2) 9 [.string ⟨#[97]⟩, .string ⟨#[98]⟩, .string ⟨#[114, 111, 111, 116]⟩, .string ⟨#[110, 101, 119]⟩]) := hid (Xr_8.out.on bzz4 Xr_8.out.lt)
    have Xa_9 : Hid (BlockIs V4_2 (g3) 27 [.slice va1 s1.length vc1, .slice vb1 li.length vd1]) := hid (Xa_8.out.on bzz4 Xa_8.out.lt)
    have Qk_9 : Hid (KRows V4_2 (w.heap.size) (.slice (some ⟨bs, offs, none⟩) ls.length vc) (.slice vb li.length vd) ls li) := hid (Qk_8.out.on bzz4)
    have Qa_9 : Hid (KRows V4_2 (U2.heap.size) (.slice va1 s1.length vc1) (.slice vb1 li.length vd1) s1 li) := hid (Qa_8.out.on bzz4)
    have B_9 : Hid (Below w.heap.size w V4_2) := hid (below_via B_8.out bzz4)
    clear Xk_8 Xx_8 Xs_8 Xr_8 Xa_8 Qk_8 Qa_8 B_8
    clear bzz4
    have Xi_9 := hN4_0
    go_ret
    exact ⟨rfl, B_9.out⟩
  · rw [p1] at c1'
    have c1 := hid c1'
    clear c1' p1 HPG
    have hb1 : s1.length ≤ 1048576 := by omega
    have hb2 : s2.length ≤ 1048576 := by omega
    have hb3 : s3.length ≤ 1048576 := by omega
    have hb4 : s4.length ≤ 1048576 := by omega
    have hb5 : s5.length ≤ 1048576 := by omega
    have kf1 := keep_facts k1
    have kf4 := keep_facts k4
    have kf5 := keep_facts k5
    have hi1 : i1.length ≤ 1048576 := by have := kf1.2.2.2; omega
    have hi4 : i4.length ≤ 1048576 := by have := kf4.2.2.2; omega
    have hi5 : i5.length ≤ 1048576 := by have := kf5.2.2.2; omega
    have hm4 := items_small kf4.2.2.1
    have hm5 := items_small kf5.2.2.1
    clear kf1 kf4 kf5 k1 k4 k5 n1 n2 n3 n4 n5
    have c2' := fun W ao bo ac bc ht ha hi => implPerform_any ao bo s1 i1 ac bc 71 ⟨3, t, L + 2, key, ⟨#[]⟩, 0⟩ hb1 hi1 W ht ha hi
    rw [p2] at c2'
    have c2 := hid c2'
    clear c2' p2
    have c3' := fun W ao bo ac bc ht ha hi => implPerform_any ao bo s2 i1 ac bc 72 ⟨5, t, L + 3, key, xT, 69⟩ hb2 hi1 W ht ha hi
    rw [p3] at c3'
    have c3 := hid c3'
    clear c3' p3
    have c4' := fun W ao bo ac bc ht ha hi => implPerform_any ao bo s3 i1 ac bc 73 ⟨5, t, L + 4, key, yT, 70⟩ hb3 hi1 W ht ha hi
    rw [p4] at c4'
    have c4 := hid c4'
    clear c4' p4
    have c5' := fun W ao bo ac bc ht ha hi => implPerform_any ao bo s4 i4 ac bc 74 ⟨4, t, L + 5, key, ⟨#[]⟩, 0⟩ hb4 hi4 W ht ha hi
    rw [p5] at c5'
    have c5 := hid c5'
    clear c5' p5
    have HALL := hid hall
    have hy : yT = ⟨#[121]⟩ := rfl
    have cD' := fun W ao bo sl ac bc h => implItemOf_any ao bo sl ac bc i4 key hi4 hm4 W h
    rw [it4, hy] at cD'
    dsimp only at cD'
    have cD := hid cD'
    obtain ⟨⟨ik, iv, ix⟩, hit⟩ : ∃ it, itemOf i5 key = (it, false) := ⟨(itemOf i5 key).1, Prod.ext rfl no5⟩
    have cE' := fun W ao bo sl ac bc h => implItemOf_any ao bo sl ac bc i5 key hi5 hm5 W h
    rw [hit] at cE'
    dsimp only at cE'
    have cE := hid cE'
    have cF := hid (fun W ao bo sl ac bc ky h => implItemOf_any ao bo sl ac bc i5 ky hi5 hm5 W h)
    clear cD' cE' hit no5 it4 hall hy
    refine Calls.mono (c1.out _ _ _ _ _ (table_low HT.out B_5.out) (sessionR_at Qk_5.out.1) (itemR_at Qk_5.out.2)) ?_
    rintro e w4 ⟨va1, vc1, vb1, vd1, rfl, q_a, b_a⟩
    dsimp only at q_a ⊢
    have Xk_6 : Hid (BlockIs w4 (g0) 27 [.slice (some ⟨bs, offs, none⟩) ls.length vc, .slice vb li.length vd]) := hid (Xk_5.out.on b_a Xk_5.out.lt)
    have Xx_6 : Hid (BlockIs w4 (g0 + 1) 29 [.int .i64 d.op, .int .i64 d.token, .int .i64 d.seq, .string d.key, .string d.val, .int .i64 d.ver]) := hid (Xx_5.out.on b_a Xx_5.out.lt)
    have Xs_6 : Hid (BlockIs w4 (g1) 36 [.int .i64 t, .int .i64 L, .string rps]) := hid (Xs_5.out.on b_a Xs_5.out.lt)
    have Xr_6 : Hid (BlockIs w4 (g2) 9 [.string ⟨#[97]⟩, .string ⟨#[98]⟩, .string ⟨#[114, 111, 111, 116]⟩, .string ⟨#[110, 101, 119]⟩]) := hid (Xr_5.out.on b_a Xr_5.out.lt)
    have Qk_6 : Hid (KRows w4 (w.heap.size) (.slice (some ⟨bs, offs, none⟩) ls.length vc) (.slice vb li.length vd) ls li) := hid (Qk_5.out.on b_a)
    have B_6 : Hid (Below w.heap.size w w4) := hid (below_via B_5.out b_a)
    clear Xk_5 Xx_5 Xs_5 Xr_5 Qk_5 B_5
    clear b_a
    have Qa_6 : Hid (KRows w4 (U2.heap.size) (.slice va1 s1.length vc1) (.slice vb1 i1.length vd1) s1 i1) := hid q_a
    clear q_a
    obtain ⟨g5, hg5⟩ : ∃ g, w4.heap.size = g := ⟨_, rfl⟩
    obtain ⟨U5, hU5⟩ : ∃ V, (w4.alloc (.cells #[.slice none 0 0, .slice none 0 0] 27)) = V := ⟨_, rfl⟩
    have bz5 : Below g5 w4 U5 := by rw [← hg5, ← hU5]; exact below_more (Below.refl w4.heap.size w4) (.cells #[.slice none 0 0, .slice none 0 0] 27)
    have N5_0_0 : BlockIs U5 (g5) 27 [.slice none 0 0, .slice none 0 0] := by rw [← hg5, ← hU5]; exact heap_alloc_new _ _
    have o5_0 := N5_0_0.cell (j := 0) rfl
    have f5_0 := N5_0_0.thaw 0
    obtain ⟨V5_0, hV5_0⟩ : ∃ V, U5.setCell ⟨g5, 0, none⟩ (.slice va1 s1.length vc1) = V := ⟨_, rfl⟩
    have N5_0_1 : BlockIs V5_0 (g5) 27 [.slice va1 s1.length vc1, .slice none 0 0] := by rw [← hV5_0]; exact N5_0_0.set 0 _
    have bz5 : Below g5 w4 V5_0 := by rw [← hV5_0]; exact bz5.setCell (by show _ ≤ g5; omega) _
    have o5_1 := N5_0_1.cell (j := 1) rfl
    have f5_1 := N5_0_1.thaw 1
    obtain ⟨V5_1, hV5_1⟩ : ∃ V, V5_0.setCell ⟨g5, 1, none⟩ (.slice vb1 i1.length vd1) = V := ⟨_, rfl⟩
    have N5_0_2 : BlockIs V5_1 (g5) 27 [.slice va1 s1.length vc1, .slice vb1 i1.length vd1] := by rw [← hV5_1]; exact N5_0_1.set 1 _
    have bz5 : Below g5 w4 V5_1 := by rw [← hV5_1]; exact bz5.setCell (by show _ ≤ g5; omega) _
    have hN5_0 := hid N5_0_2
    have p5_0_0 := hN5_0.out.cell (j := 0) rfl
    have p5_0_1 := hN5_0.out.cell (j := 1) rfl
    have bzz5 : Below w4.heap.size w4 V5_1 := by have h := bz5; rw [← hg5] at h; exact h
    clear bz5 N5_0_0 N5_0_1 N5_0_2
    have ltk_5 : g0 < g5 := by rw [← hg5]; exact Xk_6.out.lt
    have ltx_5 : g0 + 1 < g5 := by rw [← hg5]; exact Xx_6.out.lt
    have lts_5 : g1 < g5 := by rw [← hg5]; exact Xs_6.out.lt
    have ltr_5 : g2 < g5 := by rw [← hg5]; exact Xr_6.out.lt
    have lo5 : w.heap.size ≤ g5 := by rw [← hg5]; exact B_6.out.size
    have Zs := Xs_6.out.on bzz5 Xs_6.out.lt
    have zs0 := Zs.cell (j := 0) rfl
    have zs1 := Zs.cell (j := 1) rfl
    have zs2 := Zs.cell (j := 2) rfl
    clear Zs
    go_wp2_with fail
    clear zs0 zs1 zs2
    clear o5_0 f5_0 o5_1 f5_1 p5_0_0 p5_0_1
    have Xk_7 : Hid (BlockIs V5_1 (g0) 27 [.slice (some ⟨bs, offs, none⟩) ls.length vc, .slice vb li.length vd]) := hid (Xk_6.out.on bzz5 Xk_6.out.lt)
    have Xx_7 : Hid (BlockIs V5_1 (g0 + 1) 29 [.int .i64 d.op, .int .i64 d.token, .int .i64 d.seq, .string d.key, .string d.val, .int .i64 d.ver]) := hid (Xx_6.out.on bzz5 Xx_6.out.lt)
    have Xs_7 : Hid (BlockIs V5_1 (g1) 36 [.int .i64 t, .int .i64 L, .string rps]) := hid (Xs_6.out.on bzz5 Xs_6.out.lt)
    have Xr_7 : Hid (BlockIs V5_1 (g2) 9 [.string ⟨#[97]⟩, .string ⟨#[98]⟩, .string ⟨#[114, 111, 111, 116]⟩, .string ⟨#[110, 101, 119]⟩]) := hid (Xr_6.out.on bzz5 Xr_6.out.lt)
    have Qk_7 : Hid (KRows V5_1 (w.heap.size) (.slice (some ⟨bs, offs, none⟩) ls.length vc) (.slice vb li.length vd) ls li) := hid (Qk_6.out.on bzz5)
    have Qa_7 : Hid (KRows V5_1 (U2.heap.size) (.slice va1 s1.length vc1) (.slice vb1 i1.length vd1) s1 i1) := hid (Qa_6.out.on bzz5)
    have B_7 : Hid (Below w.heap.size w V5_1) := hid (below_via B_6.out bzz5)
    clear Xk_6 Xx_6 Xs_6 Xr_6 Qk_6 Qa_6 B_6
    clear bzz5
    have Xa_7 := hN5_0
    refine Calls.mono (c2.out _ _ _ _ _ (table_low HT.out B_7.out) (sessionR_at Qa_7.out.1) (itemR_at Qa_7.out.2)) ?_
    rintro e w5 ⟨va2, vc2, vb2, vd2, rfl, q_b, b_b⟩
    dsimp only at q_b ⊢
    have Xk_8 : Hid (BlockIs w5 (g0) 27 [.slice (some ⟨bs, offs, none⟩) ls.length vc, .slice vb li.length vd]) := hid (Xk_7.out.on b_b Xk_7.out.lt)
    have Xx_8 : Hid (BlockIs w5 (g0 + 1) 29 [.int .i64 d.op, .int .i64 d.token, .int .i64 d.seq, .string d.key, .string d.val, .int .i64 d.ver]) := hid (Xx_7.out.on b_b Xx_7.out.lt)
    have Xs_8 : Hid (BlockIs w5 (g1) 36 [.int .i64 t, .int .i64 L, .string rps]) := hid (Xs_7.out.on b_b Xs_7.out.lt)
    have Xr_8 : Hid (BlockIs w5 (g2) 9 [.string ⟨#[97]⟩, .string ⟨#[98]⟩, .string ⟨#[114, 111, 111, 116]⟩, .string ⟨#[110, 101, 119]⟩]) := hid (Xr_7.out.on b_b Xr_7.out.lt)
    have Xa_8 : Hid (BlockIs w5 (g5) 27 [.slice va1 s1.length vc1, .slice vb1 i1.length vd1]) := hid (Xa_7.out.on b_b Xa_7.out.lt)
    have Qk_8 : Hid (KRows w5 (w.heap.size) (.slice (some ⟨bs, offs, none⟩) ls.length vc) (.slice vb li.length vd) ls li) := hid (Qk_7.out.on b_b)
    have Qa_8 : Hid (KRows w5 (U2.heap.size) (.slice va1 s1.length vc1) (.slice vb1 i1.length vd1) s1 i1) := hid (Qa_7.out.on b_b)
    have B_8 : Hid (Below w.heap.size w w5) := hid (below_via B_7.out b_b)
    clear Xk_7 Xx_7 Xs_7 Xr_7 Xa_7 Qk_7 Qa_7 B_7
    clear b_b
    have Qb_8 : Hid (KRows w5 (V5_1.heap.size) (.slice va2 s2.length vc2) (.slice vb2 i1.length vd2) s2 i1) := hid q_b
    clear q_b
    clear c2 hw1
    obtain ⟨g6, hg6⟩ : ∃ g, w5.heap.size = g := ⟨_, rfl⟩
    obtain ⟨U6, hU6⟩ : ∃ V, (w5.alloc (.cells #[.slice none 0 0, .slice none 0 0] 27)) = V := ⟨_, rfl⟩
    have bz6 : Below g6 w5 U6 := by rw [← hg6, ← hU6]; exact below_more (Below.refl w5.heap.size w5) (.cells #[.slice none 0 0, .slice none 0 0] 27)
    have N6_0_0 : BlockIs U6 (g6) 27 [.slice none 0 0, .slice none 0 0] := by rw [← hg6, ← hU6]; exact heap_alloc_new _ _
    have o6_0 := N6_0_0.cell (j := 0) rfl
    have f6_0 := N6_0_0.thaw 0
    obtain ⟨V6_0, hV6_0⟩ : ∃ V, U6.setCell ⟨g6, 0, none⟩ (.slice va2 s2.length vc2) = V := ⟨_, rfl⟩
    have N6_0_1 : BlockIs V6_0 (g6) 27 [.slice va2 s2.length vc2, .slice none 0 0] := by rw [← hV6_0]; exact N6_0_0.set 0 _
    have bz6 : Below g6 w5 V6_0 := by rw [← hV6_0]; exact bz6.setCell (by show _ ≤ g6; omega) _
    have o6_1 := N6_0_1.cell (j := 1) rfl
    have f6_1 := N6_0_1.thaw 1
    obtain ⟨V6_1, hV6_1⟩ : ∃ V, V6_0.setCell ⟨g6, 1, none⟩ (.slice vb2 i1.length vd2) = V := ⟨_, rfl⟩
    have N6_0_2 : BlockIs V6_1 (g6) 27 [.slice va2 s2.length vc2, .slice vb2 i1.length vd2] := by rw [← hV6_1]; exact N6_0_1.set 1 _
    have bz6 : Below g6 w5 V6_1 := by rw [← hV6_1]; exact bz6.setCell (by show _ ≤ g6; omega) _
    have hN6_0 := hid N6_0_2
    have p6_0_0 := hN6_0.out.cell (j := 0) rfl
    have p6_0_1 := hN6_0.out.cell (j := 1) rfl
    have bzz6 : Below w5.heap.size w5 V6_1 := by have h := bz6; rw [← hg6] at h; exact h
    clear bz6 N6_0_0 N6_0_1 N6_0_2
    have ltk_6 : g0 < g6 := by rw [← hg6]; exact Xk_8.out.lt
    have ltx_6 : g0 + 1 < g6 := by rw [← hg6]; exact Xx_8.out.lt
    have lts_6 : g1 < g6 := by rw [← hg6]; exact Xs_8.out.lt
    have ltr_6 : g2 < g6 := by rw [← hg6]; exact Xr_8.out.lt
    have lta_6 : g5 < g6 := by rw [← hg6]; exact Xa_8.out.lt
    have lo6 : w.heap.size ≤ g6 := by rw [← hg6]; exact B_8.out.size
    have Zs := Xs_8.out.on bzz6 Xs_8.out.lt
    have zs0 := Zs.cell (j := 0) rfl
    have zs1 := Zs.cell (j := 1) rfl
    have zs2 := Zs.cell (j := 2) rfl
    clear Zs
    go_wp2_with fail
    clear zs0 zs1 zs2
    clear o6_0 f6_0 o6_1 f6_1 p6_0_0 p6_0_1
    have Xk_9 : Hid (BlockIs V6_1 (g0) 27 [.slice (some ⟨bs, offs, none⟩) ls.length vc, .slice vb li.length vd]) := hid (Xk_8.out.on bzz6 Xk_8.out.lt)
    have Xx_9 : Hid (BlockIs V6_1 (g0 + 1) 29 [.int .i64 d.op, .int .i64 d.token, .int .i64 d.seq, .string d.key, .string d.val, .int .i64 d.ver]) := hid (Xx_8.out.on bzz6 Xx_8.out.lt)
    have Xs_9 : Hid (BlockIs V6_1 (g1) 36 [.int .i64 t, .int .i64 L, .string rps]) := hid (Xs_8.out.on bzz6 Xs_8.out.lt)
    have Xr_9 : Hid (BlockIs V6_1 (g2) 9 [.string ⟨#[97]⟩, .string ⟨#[98]⟩, .string ⟨#[114, 111, 111, 116]⟩, .string ⟨#[110, 101, 119]⟩]) := hid (Xr_8.out.on bzz6 Xr_8.out.lt)
    have Xa_9 : Hid (BlockIs V6_1 (g5) 27 [.slice va1 s1.length vc1, .slice vb1 i1.length vd1]) := hid (Xa_8.out.on bzz6 Xa_8.out.lt)
    have Qk_9 : Hid (KRows V6_1 (w.heap.size) (.slice (some ⟨bs, offs, none⟩) ls.length vc) (.slice vb li.length vd) ls li) := hid (Qk_8.out.on bzz6)
    have Qa_9 : Hid (KRows V6_1 (U2.heap.size) (.slice va1 s1.length vc1) (.slice vb1 i1.length vd1) s1 i1) := hid (Qa_8.out.on bzz6)
    have Qb_9 : Hid (KRows V6_1 (V5_1.heap.size) (.slice va2 s2.length vc2) (.slice vb2 i1.length vd2) s2 i1) := hid (Qb_8.out.on bzz6)
    have B_9 : Hid (Below w.heap.size w V6_1) := hid (below_via B_8.out bzz6)
    clear Xk_8 Xx_8 Xs_8 Xr_8 Xa_8 Qk_8 Qa_8 Qb_8 B_8
    clear bzz6
    have Xb_9 := hN6_0
    refine Calls.mono (c3.out _ _ _ _ _ (table_low HT.out B_9.out) (sessionR_at Qb_9.out.1) (itemR_at Qb_9.out.2)) ?_
    rintro e w6 ⟨va3, vc3, vb3, vd3, rfl, q_c, b_c⟩
    dsimp only at q_c ⊢
    have Xk_10 : Hid (BlockIs w6 (g0) 27 [.slice (some ⟨bs, offs, none⟩) ls.length vc, .slice vb li.length vd]) := hid (Xk_9.out.on b_c Xk_9.out.lt)
    have Xx_10 : Hid (BlockIs w6 (g0 + 1) 29 [.int .i64 d.op, .int .i64 d.token, .int .i64 d.seq, .string d.key, .string d.val, .int .i64 d.ver]) := hid (Xx_9.out.on b_c Xx_9.out.lt)
    have Xs_10 : Hid (BlockIs w6 (g1) 36 [.int .i64 t, .int .i64 L, .string rps]) := hid (Xs_9.out.on b_c Xs_9.out.lt)
    have Xr_10 : Hid (BlockIs w6 (g2) 9 [.string ⟨#[97]⟩, .string ⟨#[98]⟩, .string ⟨#[114, 111, 111, 116]⟩, .string ⟨#[110, 101, 119]⟩]) := hid (Xr_9.out.on b_c Xr_9.out.lt)
    have Xa_10 : Hid (BlockIs w6 (g5) 27 [.slice va1 s1.length vc1, .slice vb1 i1.length vd1]) := hid (Xa_9.out.on b_c Xa_9.out.lt)
    have Xb_10 : Hid (BlockIs w6 (g6) 27 [.slice va2 s2.length vc2, .slice vb2 i1.length vd2]) := hid (Xb_9.out.on b_c Xb_9.out.lt)
    have Qk_10 : Hid (KRows w6 (w.heap.size) (.slice (some ⟨bs, offs, none⟩) ls.length vc) (.slice vb li.length vd) ls li) := hid (Qk_9.out.on b_c)
    have Qa_10 : Hid (KRows w6 (U2.heap.size) (.slice va1 s1.length vc1) (.slice vb1 i1.length vd1) s1 i1) := hid (Qa_9.out.on b_c)
    have Qb_10 : Hid (KRows w6 (V5_1.heap.size) (.slice va2 s2.length vc2) (.slice vb2 i1.length vd2) s2 i1) := hid (Qb_9.out.on b_c)
    have B_10 : Hid (Below w.heap.size w w6) := hid (below_via B_9.out b_c)
    clear Xk_9 Xx_9 Xs_9 Xr_9 Xa_9 Xb_9 Qk_9 Qa_9 Qb_9 B_9
    clear b_c
    have Qc_10 : Hid (KRows w6 (V6_1.heap.size) (.slice va3 s3.length vc3) (.slice vb3 i1.length vd3) s3 i1) := hid q_c
    clear q_c
    clear c3 hw2
    obtain ⟨g7, hg7⟩ : ∃ g, w6.heap.size = g := ⟨_, rfl⟩
    obtain ⟨U7, hU7⟩ : ∃ V, (w6.alloc (.cells #[.slice none 0 0, .slice none 0 0] 27)) = V := ⟨_, rfl⟩
    have bz7 : Below g7 w6 U7 := by rw [← hg7, ← hU7]; exact below_more (Below.refl w6.heap.size w6) (.cells #[.slice none 0 0, .slice none 0 0] 27)
    have N7_0_0 : BlockIs U7 (g7) 27 [.slice none 0 0, .slice none 0 0] := by rw [← hg7, ← hU7]; exact heap_alloc_new _ _
    have o7_0 := N7_0_0.cell (j := 0) rfl
    have f7_0 := N7_0_0.thaw 0
    obtain ⟨V7_0, hV7_0⟩ : ∃ V, U7.setCell ⟨g7, 0, none⟩ (.slice va3 s3.length vc3) = V := ⟨_, rfl⟩
    have N7_0_1 : BlockIs V7_0 (g7) 27 [.slice va3 s3.length vc3, .slice none 0 0] := by rw [← hV7_0]; exact N7_0_0.set 0 _
    have bz7 : Below g7 w6 V7_0 := by rw [← hV7_0]; exact bz7.setCell (by show _ ≤ g7; omega) _
    have o7_1 := N7_0_1.cell (j := 1) rfl
    have f7_1 := N7_0_1.thaw 1
    obtain ⟨V7_1, hV7_1⟩ : ∃ V, V7_0.setCell ⟨g7, 1, none⟩ (.slice vb3 i1.length vd3) = V := ⟨_, rfl⟩
    have N7_0_2 : BlockIs V7_1 (g7) 27 [.slice va3 s3.length vc3, .slice vb3 i1.length vd3] := by rw [← hV7_1]; exact N7_0_1.set 1 _
    have bz7 : Below g7 w6 V7_1 := by rw [← hV7_1]; exact bz7.setCell (by show _ ≤ g7; omega) _
    have hN7_0 := hid N7_0_2
    have p7_0_0 := hN7_0.out.cell (j := 0) rfl
    have p7_0_1 := hN7_0.out.cell (j := 1) rfl
    have bzz7 : Below w6.heap.size w6 V7_1 := by have h := bz7; rw [← hg7] at h; exact h
    clear bz7 N7_0_0 N7_0_1 N7_0_2
    have ltk_7 : g0 < g7 := by rw [← hg7]; exact Xk_10.out.lt
    have ltx_7 : g0 + 1 < g7 := by rw [← hg7]; exact Xx_10.out.lt
    have lts_7 : g1 < g7 := by rw [← hg7]; exact Xs_10.out.lt
    have ltr_7 : g2 < g7 := by rw [← hg7]; exact Xr_10.out.lt
    have lta_7 : g5 < g7 := by rw [← hg7]; exact Xa_10.out.lt
    have ltb_7 : g6 < g7 := by rw [← hg7]; exact Xb_10.out.lt
    have lo7 : w.heap.size ≤ g7 := by rw [← hg7]; exact B_10.out.size
    have Zs := Xs_10.out.on bzz7 Xs_10.out.lt
    have zs0 := Zs.cell (j := 0) rfl
    have zs1 := Zs.cell (j := 1) rfl
    have zs2 := Zs.cell (j := 2) rfl
    clear Zs
    go_wp2_with fail
    clear zs0 zs1 zs2
    clear o7_0 f7_0 o7_1 f7_1 p7_0_0 p7_0_1
    have Xk_11 : Hid (BlockIs V7_1 (g0) 27 [.slice (some ⟨bs, offs, none⟩) ls.length vc, .slice vb li.length vd]) := hid (Xk_10.out.on bzz7 Xk_10.out.lt)
    have Xx_11 : Hid (BlockIs V7_1 (g0 + 1) 29 [.int .i64 d.op, .int .i64 d.token, .int .i64 d.seq, .string d.key, .string d.val, .int .i64 d.ver]) := hid (Xx_10.out.on bzz7 Xx_10.out.lt)
    have Xs_11 : Hid (BlockIs V7_1 (g1) 36 [.int .i64 t, .int .i64 L, .string rps]) := hid (Xs_10.out.on bzz7 Xs_10.out.lt)
    have Xr_11 : Hid (BlockIs V7_1 (g2) 9 [.string ⟨#[97]⟩, .string ⟨#[98]⟩, .string ⟨#[114, 111, 111, 116]⟩, .string ⟨#[110, 101, 119]⟩]) := hid (Xr_10.out.on bzz7 Xr_10.out.lt)
    have Xa_11 : Hid (BlockIs V7_1 (g5) 27 [.slice va1 s1.length vc1, .slice vb1 i1.length vd1]) := hid (Xa_10.out.on bzz7 Xa_10.out.lt)
    have Xb_11 : Hid (BlockIs V7_1 (g6) 27 [.slice va2 s2.length vc2, .slice vb2 i1.length vd2]) := hid (Xb_10.out.on bzz7 Xb_10.out.lt)
    have Qk_11 : Hid (KRows V7_1 (w.heap.size) (.slice (some ⟨bs, offs, none⟩) ls.length vc) (.slice vb li.length vd) ls li) := hid (Qk_10.out.on bzz7)
    have Qa_11 : Hid (KRows V7_1 (U2.heap.size) (.slice va1 s1.length vc1) (.slice vb1 i1.length vd1) s1 i1) := hid (Qa_10.out.on bzz7)
    have Qb_11 : Hid (KRows V7_1 (V5_1.heap.size) (.slice va2 s2.length vc2) (.slice vb2 i1.length vd2) s2 i1) := hid (Qb_10.out.on bzz7)
    have Qc_11 : Hid (KRows V7_1 (V6_1.heap.size) (.slice va3 s3.length vc3) (.slice vb3 i1.length vd3) s3 i1) := hid (Qc_10.out.on bzz7)
    have B_11 : Hid (Below w.heap.size w V7_1) := hid (below_via B_10.out bzz7)
    clear Xk_10 Xx_10 Xs_10 Xr_10 Xa_10 Xb_10 Qk_10 Qa_10 Qb_10 Qc_10 B_10
    clear bzz7
    have Xc_11 := hN7_0
    refine Calls.mono (c4.out _ _ _ _ _ (table_low HT.out B_11.out) (sessionR_at Qc_11.out.1) (itemR_at Qc_11.out.2)) ?_
    rintro e w7 ⟨va4, vc4, vb4, vd4, rfl, q_d, b_d⟩
    dsimp only at q_d ⊢
    have Xk_12 : Hid (BlockIs w7 (g0) 27 [.slice (some ⟨bs, offs, none⟩) ls.length vc, .slice vb li.length vd]) := hid (Xk_11.out.on b_d Xk_11.out.lt)
    have Xx_12 : Hid (BlockIs w7 (g0 + 1) 29 [.int .i64 d.op, .int .i64 d.token, .int .i64 d.seq, .string d.key, .string d.val, .int .i64 d.ver]) := hid (Xx_11.out.on b_d Xx_11.out.lt)
    have Xs_12 : Hid (BlockIs w7 (g1) 36 [.int .i64 t, .int .i64 L, .string rps]) := hid (Xs_11.out.on b_d Xs_11.out.lt)
    have Xr_12 : Hid (BlockIs w7 (g2) 9 [.string ⟨#[97]⟩, .string ⟨#[98]⟩, .string ⟨#[114, 111, 111, 116]⟩, .string ⟨#[110, 101, 119]⟩]) := hid (Xr_11.out.on b_d Xr_11.out.lt)
    have Xa_12 : Hid (BlockIs w7 (g5) 27 [.slice va1 s1.length vc1, .slice vb1 i1.length vd1]) := hid (Xa_11.out.on b_d Xa_11.out.lt)
    have Xb_12 : Hid (BlockIs w7 (g6) 27 [.slice va2 s2.length vc2, .slice vb2 i1.length vd2]) := hid (Xb_11.out.on b_d Xb_11.out.lt)
    have Xc_12 : Hid (BlockIs w7 (g7) 27 [.slice va3 s3.length vc3, .slice vb3 i1.length vd3]) := hid (Xc_11.out.on b_d Xc_11.out.lt)
    have Qk_12 : Hid (KRows w7 (w.heap.size) (.slice (some ⟨bs, offs, none⟩) ls.length vc) (.slice vb li.length vd) ls li) := hid (Qk_11.out.on b_d)
    have Qa_12 : Hid (KRows w7 (U2.heap.size) (.slice va1 s1.length vc1) (.slice vb1 i1.length vd1) s1 i1) := hid (Qa_11.out.on b_d)
    have Qb_12 : Hid (KRows w7 (V5_1.heap.size) (.slice va2 s2.length vc2) (.slice vb2 i1.length vd2) s2 i1) := hid (Qb_11.out.on b_d)
    have Qc_12 : Hid (KRows w7 (V6_1.heap.size) (.slice va3 s3.length vc3) (.slice vb3 i1.length vd3) s3 i1) := hid (Qc_11.out.on b_d)
    have B_12 : Hid (Below w.heap.size w w7) := hid (below_via B_11.out b_d)
    clear Xk_11 Xx_11 Xs_11 Xr_11 Xa_11 Xb_11 Xc_11 Qk_11 Qa_11 Qb_11 Qc_11 B_11
    clear b_d
    have Qd_12 : Hid (KRows w7 (V7_1.heap.size) (.slice va4 s4.length vc4) (.slice vb4 i4.length vd4) s4 i4) := hid q_d
    clear q_d
    clear c4 hw3
    obtain ⟨g8, hg8⟩ : ∃ g, w7.heap.size = g := ⟨_, rfl⟩
    obtain ⟨U8, hU8⟩ : ∃ V, (w7.alloc (.cells #[.slice none 0 0, .slice none 0 0] 27)) = V := ⟨_, rfl⟩
    have bz8 : Below g8 w7 U8 := by rw [← hg8, ← hU8]; exact below_more (Below.refl w7.heap.size w7) (.cells #[.slice none 0 0, .slice none 0 0] 27)
    have N8_0_0 : BlockIs U8 (g8) 27 [.slice none 0 0, .slice none 0 0] := by rw [← hg8, ← hU8]; exact heap_alloc_new _ _
    have o8_0 := N8_0_0.cell (j := 0) rfl
    have f8_0 := N8_0_0.thaw 0
    obtain ⟨V8_0, hV8_0⟩ : ∃ V, U8.setCell ⟨g8, 0, none⟩ (.slice va4 s4.length vc4) = V := ⟨_, rfl⟩
    have N8_0_1 : BlockIs V8_0 (g8) 27 [.slice va4 s4.length vc4, .slice none 0 0] := by rw [← hV8_0]; exact N8_0_0.set 0 _
    have bz8 : Below g8 w7 V8_0 := by rw [← hV8_0]; exact bz8.setCell (by show _ ≤ g8; omega) _
    have o8_1 := N8_0_1.cell (j := 1) rfl
    have f8_1 := N8_0_1.thaw 1
    obtain ⟨V8_1, hV8_1⟩ : ∃ V, V8_0.setCell ⟨g8, 1, none⟩ (.slice vb4 i4.length vd4) = V := ⟨_, rfl⟩
    have N8_0_2 : BlockIs V8_1 (g8) 27 [.slice va4 s4.length vc4, .slice vb4 i4.length vd4] := by rw [← hV8_1]; exact N8_0_1.set 1 _
    have bz8 : Below g8 w7 V8_1 := by rw [← hV8_1]; exact bz8.setCell (by show _ ≤ g8; omega) _
    have hN8_0 := hid N8_0_2
    have p8_0_0 := hN8_0.out.cell (j := 0) rfl
    have p8_0_1 := hN8_0.out.cell (j := 1) rfl
    have bzz8 : Below w7.heap.size w7 V8_1 := by have h := bz8; rw [← hg8] at h; exact h
    clear bz8 N8_0_0 N8_0_1 N8_0_2
    have ltk_8 : g0 < g8 := by rw [← hg8]; exact Xk_12.out.lt
    have ltx_8 : g0 + 1 < g8 := by rw [← hg8]; exact Xx_12.out.lt
    have lts_8 : g1 < g8 := by rw [← hg8]; exact Xs_12.out.lt
    have ltr_8 : g2 < g8 := by rw [← hg8]; exact Xr_12.out.lt
    have lta_8 : g5 < g8 := by rw [← hg8]; exact Xa_12.out.lt
    have ltb_8 : g6 < g8 := by rw [← hg8]; exact Xb_12.out.lt
    have ltc_8 : g7 < g8 := by rw [← hg8]; exact Xc_12.out.lt
    have lo8 : w.heap.size ≤ g8 := by rw [← hg8]; exact B_12.out.size
    have Zs := Xs_12.out.on bzz8 Xs_12.out.lt
    have zs0 := Zs.cell (j := 0) rfl
    have zs1 := Zs.cell (j := 1) rfl
    have zs2 := Zs.cell (j := 2) rfl
    clear Zs
    go_wp2_with fail
    clear zs0 zs1 zs2
    clear o8_0 f8_0 o8_1 f8_1 p8_0_0 p8_0_1
    have Xk_13 : Hid (BlockIs V8_1 (g0) 27 [.slice (some ⟨bs, offs, none⟩) ls.length vc, .slice vb li.length vd]) := hid (Xk_12.out.on bzz8 Xk_12.out.lt)
    have Xx_13 : Hid (BlockIs V8_1 (g0 + 1) 29 [.int .i64 d.op, .int .i64 d.token, .int .i64 d.seq, .string d.key, .string d.val, .int .i64 d.ver]) := hid (Xx_12.out.on bzz8 Xx_12.out.lt)
    have Xs_13 : Hid (BlockIs V8_1 (g1) 36 [.int .i64 t, .int .i64 L, .string rps]) := hid (Xs_12.out.on bzz8 Xs_12.out.lt)
    have Xr_13 : Hid (BlockIs V8_1 (g2) 9 [.string ⟨#[97]⟩, .string ⟨#[98]⟩, .string ⟨#[114, 111, 111, 116]⟩, .string ⟨#[110, 101, 119]⟩]) := hid (Xr_12.out.on bzz8 Xr_12.out.lt)
    have Xa_13 : Hid (BlockIs V8_1 (g5) 27 [.slice va1 s1.length vc1, .slice vb1 i1.length vd1]) := hid (Xa_12.out.on bzz8 Xa_12.out.lt)
    have Xb_13 : Hid (BlockIs V8_1 (g6) 27 [.slice va2 s2.length vc2, .slice vb2 i1.length vd2]) := hid (Xb_12.out.on bzz8 Xb_12.out.lt)
    have Xc_13 : Hid (BlockIs V8_1 (g7) 27 [.slice va3 s3.length vc3, .slice vb3 i1.length vd3]) := hid (Xc_12.out.on bzz8 Xc_12.out.lt)
    have Qk_13 : Hid (KRows V8_1 (w.heap.size) (.slice (some ⟨bs, offs, none⟩) ls.length vc) (.slice vb li.length vd) ls li) := hid (Qk_12.out.on bzz8)
    have Qa_13 : Hid (KRows V8_1 (U2.heap.size) (.slice va1 s1.length vc1) (.slice vb1 i1.length vd1) s1 i1) := hid (Qa_12.out.on bzz8)
    have Qb_13 : Hid (KRows V8_1 (V5_1.heap.size) (.slice va2 s2.length vc2) (.slice vb2 i1.length vd2) s2 i1) := hid (Qb_12.out.on bzz8)
    have Qc_13 : Hid (KRows V8_1 (V6_1.heap.size) (.slice va3 s3.length vc3) (.slice vb3 i1.length vd3) s3 i1) := hid (Qc_12.out.on bzz8)
    have Qd_13 : Hid (KRows V8_1 (V7_1.heap.size) (.slice va4 s4.length vc4) (.slice vb4 i4.length vd4) s4 i4) := hid (Qd_12.out.on bzz8)
    have B_13 : Hid (Below w.heap.size w V8_1) := hid (below_via B_12.out bzz8)
    clear Xk_12 Xx_12 Xs_12 Xr_12 Xa_12 Xb_12 Xc_12 Qk_12 Qa_12 Qb_12 Qc_12 Qd_12 B_12
    clear bzz8
    have Xd_13 := hN8_0
    refine Calls.mono (c5.out _ _ _ _ _ (table_low HT.out B_13.out) (sessionR_at Qd_13.out.1) (itemR_at Qd_13.out.2)) ?_
    rintro e w8 ⟨va5, vc5, vb5, vd5, rfl, q_e, b_e⟩
    dsimp only at q_e ⊢
    have Xk_14 : Hid (BlockIs w8 (g0) 27 [.slice (some ⟨bs, offs, none⟩) ls.length vc, .slice vb li.length vd]) := hid (Xk_13.out.on b_e Xk_13.out.lt)
    have Xx_14 : Hid (BlockIs w8 (g0 + 1) 29 [.int .i64 d.op, .int .i64 d.token, .int .i64 d.seq, .string d.key, .string d.val, .int .i64 d.ver]) := hid (Xx_13.out.on b_e Xx_13.out.lt)
    have Xs_14 : Hid (BlockIs w8 (g1) 36 [.int .i64 t, .int .i64 L, .string rps]) := hid (Xs_13.out.on b_e Xs_13.out.lt)
    have Xr_14 : Hid (BlockIs w8 (g2) 9 [.string ⟨#[97]⟩, .string ⟨#[98]⟩, .string ⟨#[114, 111, 111, 116]⟩, .string ⟨#[110, 101, 119]⟩]) := hid (Xr_13.out.on b_e Xr_13.out.lt)
    have Xa_14 : Hid (BlockIs w8 (g5) 27 [.slice va1 s1.length vc1, .slice vb1 i1.length vd1]) := hid (Xa_13.out.on b_e Xa_13.out.lt)
    have Xb_14 : Hid (BlockIs w8 (g6) 27 [.slice va2 s2.length vc2, .slice vb2 i1.length vd2]) := hid (Xb_13.out.on b_e Xb_13.out.lt)
    have Xc_14 : Hid (BlockIs w8 (g7) 27 [.slice va3 s3.length vc3, .slice vb3 i1.length vd3]) := hid (Xc_13.out.on b_e Xc_13.out.lt)
    have Xd_14 : Hid (BlockIs w8 (g8) 27 [.slice va4 s4.length vc4, .slice vb4 i4.length vd4]) := hid (Xd_13.out.on b_e Xd_13.out.lt)
    have Qk_14 : Hid (KRows w8 (w.heap.size) (.slice (some ⟨bs, offs, none⟩) ls.length vc) (.slice vb li.length vd) ls li) := hid (Qk_13.out.on b_e)
    have Qa_14 : Hid (KRows w8 (U2.heap.size) (.slice va1 s1.length vc1) (.slice vb1 i1.length vd1) s1 i1) := hid (Qa_13.out.on b_e)
    have Qb_14 : Hid (KRows w8 (V5_1.heap.size) (.slice va2 s2.length vc2) (.slice vb2 i1.length vd2) s2 i1) := hid (Qb_13.out.on b_e)
    have Qc_14 : Hid (KRows w8 (V6_1.heap.size) (.slice va3 s3.length vc3) (.slice vb3 i1.length vd3) s3 i1) := hid (Qc_13.out.on b_e)
    have Qd_14 : Hid (KRows w8 (V7_1.heap.size) (.slice va4 s4.length vc4) (.slice vb4 i4.length vd4) s4 i4) := hid (Qd_13.out.on b_e)
    have B_14 : Hid (Below w.heap.size w w8) := hid (below_via B_13.out b_e)
    clear Xk_13 Xx_13 Xs_13 Xr_13 Xa_13 Xb_13 Xc_13 Xd_13 Qk_13 Qa_13 Qb_13 Qc_13 Qd_13 B_13
    clear b_e
    have Qe_14 : Hid (KRows w8 (V8_1.heap.size) (.slice va5 s5.length vc5) (.slice vb5 i5.length vd5) s5 i5) := hid q_e
    clear q_e
    clear c5 hw4
    obtain ⟨g9, hg9⟩ : ∃ g, w8.heap.size = g := ⟨_, rfl⟩
    obtain ⟨U9, hU9⟩ : ∃ V, (w8.alloc (.cells #[.slice none 0 0, .slice none 0 0] 27)) = V := ⟨_, rfl⟩
    have bz9 : Below g9 w8 U9 := by rw [← hg9, ← hU9]; exact below_more (Below.refl w8.heap.size w8) (.cells #[.slice none 0 0, .slice none 0 0] 27)
    have N9_0_0 : BlockIs U9 (g9) 27 [.slice none 0 0, .slice none 0 0] := by rw [← hg9, ← hU9]; exact heap_alloc_new _ _
    have o9_0 := N9_0_0.cell (j := 0) rfl
    have f9_0 := N9_0_0.thaw 0
    obtain ⟨V9_0, hV9_0⟩ : ∃ V, U9.setCell ⟨g9, 0, none⟩ (.slice va5 s5.length vc5) = V := ⟨_, rfl⟩
    have N9_0_1 : BlockIs V9_0 (g9) 27 [.slice va5 s5.length vc5, .slice none 0 0] := by rw [← hV9_0]; exact N9_0_0.set 0 _
    have bz9 : Below g9 w8 V9_0 := by rw [← hV9_0]; exact bz9.setCell (by show _ ≤ g9; omega) _
    have o9_1 := N9_0_1.cell (j := 1) rfl
    have f9_1 := N9_0_1.thaw 1
    obtain ⟨V9_1, hV9_1⟩ : ∃ V, V9_0.setCell ⟨g9, 1, none⟩ (.slice vb5 i5.length vd5) = V := ⟨_, rfl⟩
    have N9_0_2 : BlockIs V9_1 (g9) 27 [.slice va5 s5.length vc5, .slice vb5 i5.length vd5] := by rw [← hV9_1]; exact N9_0_1.set 1 _
    have bz9 : Below g9 w8 V9_1 := by rw [← hV9_1]; exact bz9.setCell (by show _ ≤ g9; omega) _
    have hN9_0 := hid N9_0_2
    have p9_0_0 := hN9_0.out.cell (j := 0) rfl
    have p9_0_1 := hN9_0.out.cell (j := 1) rfl
    have bzz9 : Below w8.heap.size w8 V9_1 := by have h := bz9; rw [← hg9] at h; exact h
    clear bz9 N9_0_0 N9_0_1 N9_0_2
    have ltk_9 : g0 < g9 := by rw [← hg9]; exact Xk_14.out.lt
    have ltx_9 : g0 + 1 < g9 := by rw [← hg9]; exact Xx_14.out.lt
    have lts_9 : g1 < g9 := by rw [← hg9]; exact Xs_14.out.lt
    have ltr_9 : g2 < g9 := by rw [← hg9]; exact Xr_14.out.lt
    have lta_9 : g5 < g9 := by rw [← hg9]; exact Xa_14.out.lt
    have ltb_9 : g6 < g9 := by rw [← hg9]; exact Xb_14.out.lt
    have ltc_9 : g7 < g9 := by rw [← hg9]; exact Xc_14.out.lt
    have ltd_9 : g8 < g9 := by rw [← hg9]; exact Xd_14.out.lt
    have lo9 : w.heap.size ≤ g9 := by rw [← hg9]; exact B_14.out.size
    go_wp2
    clear o9_0 f9_0 o9_1 f9_1 p9_0_0 p9_0_1
    have Xk_15 : Hid (BlockIs V9_1 (g0) 27 [.slice (some ⟨bs, offs, none⟩) ls.length vc, .slice vb li.length vd]) := hid (Xk_14.out.on bzz9 Xk_14.out.lt)
    have Xx_15 : Hid (BlockIs V9_1 (g0 + 1) 29 [.int .i64 d.op, .int .i64 d.token, .int .i64 d.seq, .string d.key, .string d.val, .int .i64 d.ver]) := hid (Xx_14.out.on bzz9 Xx_14.out.lt)
    have Xs_15 : Hid (BlockIs V9_1 (g1) 36 [.int .i64 t, .int .i64 L, .string rps]) := hid (Xs_14.out.on bzz9 Xs_14.out.lt)
    have Xr_15 : Hid (BlockIs V9_1 (g2) 9 [.string ⟨#[97]⟩, .string ⟨#[98]⟩, .string ⟨#[114, 111, 111, 116]⟩, .string ⟨#[110, 101, 119]⟩]) := hid (Xr_14.out.on bzz9 Xr_14.out.lt)
    have Xa_15 : Hid (BlockIs V9_1 (g5) 27 [.slice va1 s1.length vc1, .slice vb1 i1.length vd1]) := hid (Xa_14.out.on bzz9 Xa_14.out.lt)
    have Xb_15 : Hid (BlockIs V9_1 (g6) 27 [.slice va2 s2.length vc2, .slice vb2 i1.length vd2]) := hid (Xb_14.out.on bzz9 Xb_14.out.lt)
    have Xc_15 : Hid (BlockIs V9_1 (g7) 27 [.slice va3 s3.length vc3, .slice vb3 i1.length vd3]) := hid (Xc_14.out.on bzz9 Xc_14.out.lt)
    have Xd_15 : Hid (BlockIs V9_1 (g8) 27 [.slice va4 s4.length vc4, .slice vb4 i4.length vd4]) := hid (Xd_14.out.on bzz9 Xd_14.out.lt)
    have Qk_15 : Hid (KRows V9_1 (w.heap.size) (.slice (some ⟨bs, offs, none⟩) ls.length vc) (.slice vb li.length vd) ls li) := hid (Qk_14.out.on bzz9)
    have Qa_15 : Hid (KRows V9_1 (U2.heap.size) (.slice va1 s1.length vc1) (.slice vb1 i1.length vd1) s1 i1) := hid (Qa_14.out.on bzz9)
    have Qb_15 : Hid (KRows V9_1 (V5_1.heap.size) (.slice va2 s2.length vc2) (.slice vb2 i1.length vd2) s2 i1) := hid (Qb_14.out.on bzz9)
    have Qc_15 : Hid (KRows V9_1 (V6_1.heap.size) (.slice va3 s3.length vc3) (.slice vb3 i1.length vd3) s3 i1) := hid (Qc_14.out.on bzz9)
    have Qd_15 : Hid (KRows V9_1 (V7_1.heap.size) (.slice va4 s4.length vc4) (.slice vb4 i4.length vd4) s4 i4) := hid (Qd_14.out.on bzz9)
    have Qe_15 : Hid (KRows V9_1 (V8_1.heap.size) (.slice va5 s5.length vc5) (.slice vb5 i5.length vd5) s5 i5) := hid (Qe_14.out.on bzz9)
    have B_15 : Hid (Below w.heap.size w V9_1) := hid (below_via B_14.out bzz9)
    clear Xk_14 Xx_14 Xs_14 Xr_14 Xa_14 Xb_14 Xc_14 Xd_14 Qk_14 Qa_14 Qb_14 Qc_14 Qd_14 Qe_14 B_14
    clear bzz9
    have Xe_15 := hN9_0
    go_loopg [25, 27] li.length (fun g i _ wr => ∃ (k : Nat), k + g = li.length ∧ i = .int .i64 k ∧ Hid (Below V9_1.heap.size V9_1 wr))
    case atStart => exact ⟨0, by omega, rfl, (show Below _ _ _ from Below.refl _ _)⟩
    case round =>
      obtain ⟨k, hkg, rfl, BR⟩ := hrel
      have Rk := Xk_15.out.on BR.out Xk_15.out.lt
      have rk1 := Rk.cell (j := 1) rfl
      have HRk := hid Rk
      clear Rk
      cases gk with
      | succ q =>
        have h1 : k < li.length := by omega
        have h1' : (k : Int) < (li.length : Int) := by omega
        have hne : li ≠ [] := by intro e; rw [e] at h1; simp at h1
        obtain ⟨bi, offi, hvb, hci⟩ := (itemR_at Qk_15.out.2).on BR.out hne
        obtain ⟨x0, x1, x2⟩ := hci k h1
        clear hci hne
        have HVB := hid hvb
        have hcase : li[k].key = key ∨ (li[k].key ≠ key ∧ itemOf i5 li[k].key = (li[k], true)) := by
          by_cases h : li[k].key = key
          · exact Or.inl h
          · exact Or.inr ⟨h, HALL.out _ (List.getElem_mem h1) h⟩
        obtain ⟨it, hit⟩ : ∃ it, li[k] = it := ⟨_, rfl⟩
        rw [hit] at hcase x0 x1 x2
        obtain ⟨jk, jv, jx⟩ := it
        dsimp only at hcase x0 x1 x2
        clear hit
        obtain ⟨⟨⟨rk, rv, rx⟩, rb⟩, hri⟩ : ∃ r, itemOf i5 jk = r := ⟨_, rfl⟩
        rw [hri] at hcase
        have cG' := fun W ao bo sl ac bc h => cF.out W ao bo sl ac bc jk h
        rw [hri] at cG'
        dsimp only at cG'
        have cG := hid cG'
        clear cG' hri
        rw [hvb] at rk1
        clear hvb
        have rk1 := rk1
        obtain ⟨gI, hgI⟩ : ∃ g, wr.heap.size = g := ⟨_, rfl⟩
        obtain ⟨UI, hUI⟩ : ∃ V, wr.alloc (.cells #[.string ⟨#[]⟩, .string ⟨#[]⟩, .int .i64 0] 41) = V := ⟨_, rfl⟩
        have bu : Below wr.heap.size wr UI := by rw [← hUI]; exact below_more (Below.refl _ _) _
        have NI0 : BlockIs UI gI 41 [.string ⟨#[]⟩, .string ⟨#[]⟩, .int .i64 0] := by rw [← hgI, ← hUI]; exact heap_alloc_new _ _
        have NI := hid NI0
        clear NI0
        have bd : Below wr.heap.size wr UI.drew := below_drewN bu 1
        have lI : wr.heap.size ≤ gI := Nat.le_of_eq hgI
        have Ree := Xe_15.out.on BR.out Xe_15.out.lt
        have re0 := Ree.cell (j := 0) rfl
        have re1 := Ree.cell (j := 1) rfl
        have ue0 := (bu.cell (World.block_lt_of_cell? _ _ re0)).trans re0
        have ue1 := (bu.cell (World.block_lt_of_cell? _ _ re1)).trans re1
        clear Ree
        have HIE := hid ((itemR_at Qe_15.out.2).on (below_via BR.out bd))
        have ux0 := (bu.cell (p := ⟨bi, offi + k * 3, none⟩) (World.block_lt_of_cell? _ _ x0)).trans x0
        have uk1 := (bu.cell (World.block_lt_of_cell? _ _ rk1)).trans rk1
        have HX0 := hid x0
        have HX1 := hid x1
        have HX2 := hid x2
        have HRK := hid rk1
        clear x1 x2 bu
        go_upto_region 22 with fail
        go_cut [26, 27] (fun pI fI WI => ∃ gI, pI = .pointer (some ⟨gI, 0, none⟩) ∧ fI = .bool rb ∧ Hid (Below wr.heap.size wr WI) ∧ Hid (BlockIs WI gI 41 [.string rk, .string rv, .int .i64 rx]))
        case first =>
          have bd2 : Below wr.heap.size wr wr.drew := below_drewN (Below.refl _ _) 1
          have HIE2 := hid ((itemR_at Qe_15.out.2).on (below_via BR.out bd2))
          go_region_with (go_at_call 10; first | (refine (cG.out _ _ _ _ _ _ HIE.out).mono ?_; rintro e w9 ⟨rfl, b9⟩; have bX := below_via bd b9; have n9 := (show BlockIs UI.drew gI 41 [.string ⟨#[]⟩, .string ⟨#[]⟩, .int .i64 0] from NI.out).on b9 NI.out.lt; have m0 := n9.cell (j := 0) rfl; have m1 := n9.cell (j := 1) rfl; have m2 := n9.cell (j := 2) rfl; have t0 := n9.thaw 0; have t1 := n9.thaw 1; have t2 := n9.thaw 2) | (refine (cG.out _ _ _ _ _ _ HIE2.out).mono ?_; rintro e w8 ⟨rfl, b8⟩; have lI : wr.heap.size ≤ w8.heap.size := (below_via bd2 b8).size; obtain ⟨gI, hgI⟩ : ∃ g, w8.heap.size = g := ⟨_, rfl⟩; rw [hgI] at lI; obtain ⟨w9, h9⟩ : ∃ V, w8.alloc (.cells #[.string ⟨#[]⟩, .string ⟨#[]⟩, .int .i64 0] 41) = V := ⟨_, rfl⟩; have b9 : Below w8.heap.size w8 w9 := (by rw [← h9]; exact below_more (Below.refl _ _) _); have bX := below_via (below_via bd2 b8) b9; have n9 : BlockIs w9 gI 41 [.string ⟨#[]⟩, .string ⟨#[]⟩, .int .i64 0] := (by rw [← hgI, ← h9]; exact heap_alloc_new _ _); have m0 := n9.cell (j := 0) rfl; have m1 := n9.cell (j := 1) rfl; have m2 := n9.cell (j := 2) rfl; have t0 := n9.thaw 0; have t1 := n9.thaw 1; have t2 := n9.thaw 2))
          all_goals
            have b1A : Hid (Below wr.heap.size wr (((w9.setCell ⟨gI, 0, none⟩ (.string rk)).setCell ⟨gI, 1, none⟩ (.string rv)).setCell ⟨gI, 2, none⟩ (.int .i64 rx))) := ((bX.setCell (by exact lI) _).setCell (by exact lI) _).setCell (by exact lI) _
            have hx := hid (((n9.set 0 (.string rk)).set 1 (.string rv)).set 2 (.int .i64 rx))
            clear bX b9
            go_wp2_with fail
            go_meet
            exact ⟨gI, rfl, rfl, b1A, hx⟩
        case rest =>
        rename World => WI
        obtain ⟨gJ, rfl, rfl, HBW, HNI⟩ := hcut
        have b1A := HBW.out
        have BN := hid (below_via BR.out b1A)
        have z0 := (b1A.cell (p := ⟨bi, offi + k * 3, none⟩) (World.block_lt_of_cell? _ _ HX0.out)).trans HX0.out
        have z1 := (b1A.cell (p := ⟨bi, offi + k * 3 + 1, none⟩) (World.block_lt_of_cell? _ _ HX1.out)).trans HX1.out
        have z2 := (b1A.cell (p := ⟨bi, offi + k * 3 + 2, none⟩) (World.block_lt_of_cell? _ _ HX2.out)).trans HX2.out
        have zk1 := (b1A.cell (World.block_lt_of_cell? _ _ HRK.out)).trans HRK.out
        have y0 := HNI.out.cell (j := 0) rfl
        have y1 := HNI.out.cell (j := 1) rfl
        have y2 := HNI.out.cell (j := 2) rfl
        clear b1A bd x0 rk1 ux0 uk1 re0 re1 ue0 ue1 hUI NI HIE
        rcases hcase with hk | ⟨hk, hv⟩
        · have hkb : (jk.toList == key.toList) = true := by rw [hk]; simp
          have hkc : (!(jk.toList == key.toList)) = false := by rw [hk]; simp
          clear hk
          go_wp2
          go_quiet (fail)
          go_wp2
          go_roundg q
          case measure => omega
          case rel => exact ⟨k + 1, by omega, by go_num, below_drewN BN.out _⟩
        · have hkb : (jk.toList == key.toList) = false := beq_eq_false_iff_ne.2 (fun h => hk (text_ext h))
          have hkc : (!(jk.toList == key.toList)) = true := by rw [hkb]; rfl
          injection hv with hv1 hv2
          injection hv1 with e1 e2 e3
          subst e1 e2 e3 hv2
          clear hk
          have hne := fun w => neq_Item rk rv rx rk rv rx w
          have hgd := fun a b w => guard_Item a b #[.string rk, .string rv, .int .i64 rx] #[.string rk, .string rv, .int .i64 rx] w
          rw [itemEq_iff.2 rfl, Bool.not_true] at hne
          go_wp2
          go_quiet (fail)
          go_wp2
          go_roundg q
          case measure => omega
          case rel => exact ⟨k + 1, by omega, by go_num, below_drewN BN.out _⟩
      | zero =>
        have h1 : ¬ (k : Int) < (li.length : Int) := by omega
        have b_l := BR.out
        have Xk_16 : Hid (BlockIs wr (g0) 27 [.slice (some ⟨bs, offs, none⟩) ls.length vc, .slice vb li.length vd]) := hid (Xk_15.out.on b_l Xk_15.out.lt)
        have Xx_16 : Hid (BlockIs wr (g0 + 1) 29 [.int .i64 d.op, .int .i64 d.token, .int .i64 d.seq, .string d.key, .string d.val, .int .i64 d.ver]) := hid (Xx_15.out.on b_l Xx_15.out.lt)
        have Xs_16 : Hid (BlockIs wr (g1) 36 [.int .i64 t, .int .i64 L, .string rps]) := hid (Xs_15.out.on b_l Xs_15.out.lt)
        have Xr_16 : Hid (BlockIs wr (g2) 9 [.string ⟨#[97]⟩, .string ⟨#[98]⟩, .string ⟨#[114, 111, 111, 116]⟩, .string ⟨#[110, 101, 119]⟩]) := hid (Xr_15.out.on b_l Xr_15.out.lt)
        have Xa_16 : Hid (BlockIs wr (g5) 27 [.slice va1 s1.length vc1, .slice vb1 i1.length vd1]) := hid (Xa_15.out.on b_l Xa_15.out.lt)
        have Xb_16 : Hid (BlockIs wr (g6) 27 [.slice va2 s2.length vc2, .slice vb2 i1.length vd2]) := hid (Xb_15.out.on b_l Xb_15.out.lt)
        have Xc_16 : Hid (BlockIs wr (g7) 27 [.slice va3 s3.length vc3, .slice vb3 i1.length vd3]) := hid (Xc_15.out.on b_l Xc_15.out.lt)
        have Xd_16 : Hid (BlockIs wr (g8) 27 [.slice va4 s4.length vc4, .slice vb4 i4.length vd4]) := hid (Xd_15.out.on b_l Xd_15.out.lt)
        have Xe_16 : Hid (BlockIs wr (g9) 27 [.slice va5 s5.length vc5, .slice vb5 i5.length vd5]) := hid (Xe_15.out.on b_l Xe_15.out.lt)
        have Qk_16 : Hid (KRows wr (w.heap.size) (.slice (some ⟨bs, offs, none⟩) ls.length vc) (.slice vb li.length vd) ls li) := hid (Qk_15.out.on b_l)
        have Qa_16 : Hid (KRows wr (U2.heap.size) (.slice va1 s1.length vc1) (.slice vb1 i1.length vd1) s1 i1) := hid (Qa_15.out.on b_l)
        have Qb_16 : Hid (KRows wr (V5_1.heap.size) (.slice va2 s2.length vc2) (.slice vb2 i1.length vd2) s2 i1) := hid (Qb_15.out.on b_l)
        have Qc_16 : Hid (KRows wr (V6_1.heap.size) (.slice va3 s3.length vc3) (.slice vb3 i1.length vd3) s3 i1) := hid (Qc_15.out.on b_l)
        have Qd_16 : Hid (KRows wr (V7_1.heap.size) (.slice va4 s4.length vc4) (.slice vb4 i4.length vd4) s4 i4) := hid (Qd_15.out.on b_l)
        have Qe_16 : Hid (KRows wr (V8_1.heap.size) (.slice va5 s5.length vc5) (.slice vb5 i5.length vd5) s5 i5) := hid (Qe_15.out.on b_l)
        have B_16 : Hid (Below w.heap.size w wr) := hid (below_via B_15.out b_l)
        clear Xk_15 Xx_15 Xs_15 Xr_15 Xa_15 Xb_15 Xc_15 Xd_15 Xe_15 Qk_15 Qa_15 Qb_15 Qc_15 Qd_15 Qe_15 B_15
        clear b_l
        have cd0_2 := Xd_16.out.cell (j := 0) rfl
        have cd1_2 := Xd_16.out.cell (j := 1) rfl
        have ck0_2 := Xk_16.out.cell (j := 0) rfl
        have ck1_2 := Xk_16.out.cell (j := 1) rfl
        go_wp2_with fail
        refine (cD.out _ _ _ _ _ _ (itemR_at Qd_16.out.2)).mono ?_
        rintro e w25 ⟨rfl, b_s⟩
        clear rk1 HRk BR
        have Xk_17 : Hid (BlockIs w25 (g0) 27 [.slice (some ⟨bs, offs, none⟩) ls.length vc, .slice vb li.length vd]) := hid (Xk_16.out.on b_s Xk_16.out.lt)
        have Xx_17 : Hid (BlockIs w25 (g0 + 1) 29 [.int .i64 d.op, .int .i64 d.token, .int .i64 d.seq, .string d.key, .string d.val, .int .i64 d.ver]) := hid (Xx_16.out.on b_s Xx_16.out.lt)
        have Xs_17 : Hid (BlockIs w25 (g1) 36 [.int .i64 t, .int .i64 L, .string rps]) := hid (Xs_16.out.on b_s Xs_16.out.lt)
        have Xr_17 : Hid (BlockIs w25 (g2) 9 [.string ⟨#[97]⟩, .string ⟨#[98]⟩, .string ⟨#[114, 111, 111, 116]⟩, .string ⟨#[110, 101, 119]⟩]) := hid (Xr_16.out.on b_s Xr_16.out.lt)
        have Xa_17 : Hid (BlockIs w25 (g5) 27 [.slice va1 s1.length vc1, .slice vb1 i1.length vd1]) := hid (Xa_16.out.on b_s Xa_16.out.lt)
        have Xb_17 : Hid (BlockIs w25 (g6) 27 [.slice va2 s2.length vc2, .slice vb2 i1.length vd2]) := hid (Xb_16.out.on b_s Xb_16.out.lt)
        have Xc_17 : Hid (BlockIs w25 (g7) 27 [.slice va3 s3.length vc3, .slice vb3 i1.length vd3]) := hid (Xc_16.out.on b_s Xc_16.out.lt)
        have Xd_17 : Hid (BlockIs w25 (g8) 27 [.slice va4 s4.length vc4, .slice vb4 i4.length vd4]) := hid (Xd_16.out.on b_s Xd_16.out.lt)
        have Xe_17 : Hid (BlockIs w25 (g9) 27 [.slice va5 s5.length vc5, .slice vb5 i5.length vd5]) := hid (Xe_16.out.on b_s Xe_16.out.lt)
        have Qk_17 : Hid (KRows w25 (w.heap.size) (.slice (some ⟨bs, offs, none⟩) ls.length vc) (.slice vb li.length vd) ls li) := hid (Qk_16.out.on b_s)
        have Qa_17 : Hid (KRows w25 (U2.heap.size) (.slice va1 s1.length vc1) (.slice vb1 i1.length vd1) s1 i1) := hid (Qa_16.out.on b_s)
        have Qb_17 : Hid (KRows w25 (V5_1.heap.size) (.slice va2 s2.length vc2) (.slice vb2 i1.length vd2) s2 i1) := hid (Qb_16.out.on b_s)
        have Qc_17 : Hid (KRows w25 (V6_1.heap.size) (.slice va3 s3.length vc3) (.slice vb3 i1.length vd3) s3 i1) := hid (Qc_16.out.on b_s)
        have Qd_17 : Hid (KRows w25 (V7_1.heap.size) (.slice va4 s4.length vc4) (.slice vb4 i4.length vd4) s4 i4) := hid (Qd_16.out.on b_s)
        have Qe_17 : Hid (KRows w25 (V8_1.heap.size) (.slice va5 s5.length vc5) (.slice vb5 i5.length vd5) s5 i5) := hid (Qe_16.out.on b_s)
        have B_17 : Hid (Below w.heap.size w w25) := hid (below_via B_16.out b_s)
        clear cd0_2 cd1_2 ck0_2 ck1_2
        clear Xk_16 Xx_16 Xs_16 Xr_16 Xa_16 Xb_16 Xc_16 Xd_16 Xe_16 Qk_16 Qa_16 Qb_16 Qc_16 Qd_16 Qe_16 B_16
        clear b_s
        obtain ⟨g10, hg10⟩ : ∃ g, w25.heap.size = g := ⟨_, rfl⟩
        obtain ⟨U10, hU10⟩ : ∃ V, (w25.alloc (.cells #[.string ⟨#[]⟩, .string ⟨#[]⟩, .int .i64 0] 41)) = V := ⟨_, rfl⟩
        have bz10 : Below g10 w25 U10 := by rw [← hg10, ← hU10]; exact below_more (Below.refl w25.heap.size w25) (.cells #[.string ⟨#[]⟩, .string ⟨#[]⟩, .int .i64 0] 41)
        have N10_0_0 : BlockIs U10 (g10) 41 [.string ⟨#[]⟩, .string ⟨#[]⟩, .int .i64 0] := by rw [← hg10, ← hU10]; exact heap_alloc_new _ _
        have o10_0 := N10_0_0.cell (j := 0) rfl
        have f10_0 := N10_0_0.thaw 0
        obtain ⟨V10_0, hV10_0⟩ : ∃ V, U10.setCell ⟨g10, 0, none⟩ (.string key) = V := ⟨_, rfl⟩
        have N10_0_1 : BlockIs V10_0 (g10) 41 [.string key, .string ⟨#[]⟩, .int .i64 0] := by rw [← hV10_0]; exact N10_0_0.set 0 _
        have bz10 : Below g10 w25 V10_0 := by rw [← hV10_0]; exact bz10.setCell (by show _ ≤ g10; omega) _
        have o10_1 := N10_0_1.cell (j := 1) rfl
        have f10_1 := N10_0_1.thaw 1
        obtain ⟨V10_1, hV10_1⟩ : ∃ V, V10_0.setCell ⟨g10, 1, none⟩ (.string ⟨#[121]⟩) = V := ⟨_, rfl⟩
        have N10_0_2 : BlockIs V10_1 (g10) 41 [.string key, .string ⟨#[121]⟩, .int .i64 0] := by rw [← hV10_1]; exact N10_0_1.set 1 _
        have bz10 : Below g10 w25 V10_1 := by rw [← hV10_1]; exact bz10.setCell (by show _ ≤ g10; omega) _
        have o10_2 := N10_0_2.cell (j := 2) rfl
        have f10_2 := N10_0_2.thaw 2
        obtain ⟨V10_2, hV10_2⟩ : ∃ V, V10_1.setCell ⟨g10, 2, none⟩ (.int .i64 73) = V := ⟨_, rfl⟩
        have N10_0_3 : BlockIs V10_2 (g10) 41 [.string key, .string ⟨#[121]⟩, .int .i64 73] := by rw [← hV10_2]; exact N10_0_2.set 2 _
        have bz10 : Below g10 w25 V10_2 := by rw [← hV10_2]; exact bz10.setCell (by show _ ≤ g10; omega) _
        have hN10_0 := hid N10_0_3
        have p10_0_0 := hN10_0.out.cell (j := 0) rfl
        have p10_0_1 := hN10_0.out.cell (j := 1) rfl
        have p10_0_2 := hN10_0.out.cell (j := 2) rfl
        have bzz10 : Below w25.heap.size w25 V10_2 := by have h := bz10; rw [← hg10] at h; exact h
        clear bz10 N10_0_0 N10_0_1 N10_0_2 N10_0_3
        have ltk_10 : g0 < g10 := by rw [← hg10]; exact Xk_17.out.lt
        have ltx_10 : g0 + 1 < g10 := by rw [← hg10]; exact Xx_17.out.lt
        have lts_10 : g1 < g10 := by rw [← hg10]; exact Xs_17.out.lt
        have ltr_10 : g2 < g10 := by rw [← hg10]; exact Xr_17.out.lt
        have lta_10 : g5 < g10 := by rw [← hg10]; exact Xa_17.out.lt
        have ltb_10 : g6 < g10 := by rw [← hg10]; exact Xb_17.out.lt
        have ltc_10 : g7 < g10 := by rw [← hg10]; exact Xc_17.out.lt
        have ltd_10 : g8 < g10 := by rw [← hg10]; exact Xd_17.out.lt
        have lte_10 : g9 < g10 := by rw [← hg10]; exact Xe_17.out.lt
        have lo10 : w.heap.size ≤ g10 := by rw [← hg10]; exact B_17.out.size
        have Ze := Xe_17.out.on bzz10 Xe_17.out.lt
        have ze0 := Ze.cell (j := 0) rfl
        have ze1 := Ze.cell (j := 1) rfl
        clear Ze
        go_wp2_with fail
        clear ze0 ze1
        clear o10_0 f10_0 o10_1 f10_1 o10_2 f10_2 p10_0_0 p10_0_1 p10_0_2
        have Xk_18 : Hid (BlockIs V10_2 (g0) 27 [.slice (some ⟨bs, offs, none⟩) ls.length vc, .slice vb li.length vd]) := hid (Xk_17.out.on bzz10 Xk_17.out.lt)
        have Xx_18 : Hid (BlockIs V10_2 (g0 + 1) 29 [.int .i64 d.op, .int .i64 d.token, .int .i64 d.seq, .string d.key, .string d.val, .int .i64 d.ver]) := hid (Xx_17.out.on bzz10 Xx_17.out.lt)
        have Xs_18 : Hid (BlockIs V10_2 (g1) 36 [.int .i64 t, .int .i64 L, .string rps]) := hid (Xs_17.out.on bzz10 Xs_17.out.lt)
        have Xr_18 : Hid (BlockIs V10_2 (g2) 9 [.string ⟨#[97]⟩, .string ⟨#[98]⟩, .string ⟨#[114, 111, 111, 116]⟩, .string ⟨#[110, 101, 119]⟩]) := hid (Xr_17.out.on bzz10 Xr_17.out.lt)
        have Xa_18 : Hid (BlockIs V10_2 (g5) 27 [.slice va1 s1.length vc1, .slice vb1 i1.length vd1]) := hid (Xa_17.out.on bzz10 Xa_17.out.lt)
        have Xb_18 : Hid (BlockIs V10_2 (g6) 27 [.slice va2 s2.length vc2, .slice vb2 i1.length vd2]) := hid (Xb_17.out.on bzz10 Xb_17.out.lt)
        have Xc_18 : Hid (BlockIs V10_2 (g7) 27 [.slice va3 s3.length vc3, .slice vb3 i1.length vd3]) := hid (Xc_17.out.on bzz10 Xc_17.out.lt)
        have Xd_18 : Hid (BlockIs V10_2 (g8) 27 [.slice va4 s4.length vc4, .slice vb4 i4.length vd4]) := hid (Xd_17.out.on bzz10 Xd_17.out.lt)
        have Xe_18 : Hid (BlockIs V10_2 (g9) 27 [.slice va5 s5.length vc5, .slice vb5 i5.length vd5]) := hid (Xe_17.out.on bzz10 Xe_17.out.lt)
        have Qk_18 : Hid (KRows V10_2 (w.heap.size) (.slice (some ⟨bs, offs, none⟩) ls.length vc) (.slice vb li.length vd) ls li) := hid (Qk_17.out.on bzz10)
        have Qa_18 : Hid (KRows V10_2 (U2.heap.size) (.slice va1 s1.length vc1) (.slice vb1 i1.length vd1) s1 i1) := hid (Qa_17.out.on bzz10)
        have Qb_18 : Hid (KRows V10_2 (V5_1.heap.size) (.slice va2 s2.length vc2) (.slice vb2 i1.length vd2) s2 i1) := hid (Qb_17.out.on bzz10)
        have Qc_18 : Hid (KRows V10_2 (V6_1.heap.size) (.slice va3 s3.length vc3) (.slice vb3 i1.length vd3) s3 i1) := hid (Qc_17.out.on bzz10)
        have Qd_18 : Hid (KRows V10_2 (V7_1.heap.size) (.slice va4 s4.length vc4) (.slice vb4 i4.length vd4) s4 i4) := hid (Qd_17.out.on bzz10)
        have Qe_18 : Hid (KRows V10_2 (V8_1.heap.size) (.slice va5 s5.length vc5) (.slice vb5 i5.length vd5) s5 i5) := hid (Qe_17.out.on bzz10)
        have B_18 : Hid (Below w.heap.size w V10_2) := hid (below_via B_17.out bzz10)
        clear Xk_17 Xx_17 Xs_17 Xr_17 Xa_17 Xb_17 Xc_17 Xd_17 Xe_17 Qk_17 Qa_17 Qb_17 Qc_17 Qd_17 Qe_17 B_17
        clear bzz10
        have Xu_18 := hN10_0
        refine (cE.out _ _ _ _ _ _ (itemR_at Qe_18.out.2)).mono ?_
        rintro e w26 ⟨rfl, b_s⟩
        have Xk_19 : Hid (BlockIs w26 (g0) 27 [.slice (some ⟨bs, offs, none⟩) ls.length vc, .slice vb li.length vd]) := hid (Xk_18.out.on b_s Xk_18.out.lt)
        have Xx_19 : Hid (BlockIs w26 (g0 + 1) 29 [.int .i64 d.op, .int .i64 d.token, .int .i64 d.seq, .string d.key, .string d.val, .int .i64 d.ver]) := hid (Xx_18.out.on b_s Xx_18.out.lt)
        have Xs_19 : Hid (BlockIs w26 (g1) 36 [.int .i64 t, .int .i64 L, .string rps]) := hid (Xs_18.out.on b_s Xs_18.out.lt)
        have Xr_19 : Hid (BlockIs w26 (g2) 9 [.string ⟨#[97]⟩, .string ⟨#[98]⟩, .string ⟨#[114, 111, 111, 116]⟩, .string ⟨#[110, 101, 119]⟩]) := hid (Xr_18.out.on b_s Xr_18.out.lt)
        have Xa_19 : Hid (BlockIs w26 (g5) 27 [.slice va1 s1.length vc1, .slice vb1 i1.length vd1]) := hid (Xa_18.out.on b_s Xa_18.out.lt)
        have Xb_19 : Hid (BlockIs w26 (g6) 27 [.slice va2 s2.length vc2, .slice vb2 i1.length vd2]) := hid (Xb_18.out.on b_s Xb_18.out.lt)
        have Xc_19 : Hid (BlockIs w26 (g7) 27 [.slice va3 s3.length vc3, .slice vb3 i1.length vd3]) := hid (Xc_18.out.on b_s Xc_18.out.lt)
        have Xd_19 : Hid (BlockIs w26 (g8) 27 [.slice va4 s4.length vc4, .slice vb4 i4.length vd4]) := hid (Xd_18.out.on b_s Xd_18.out.lt)
        have Xe_19 : Hid (BlockIs w26 (g9) 27 [.slice va5 s5.length vc5, .slice vb5 i5.length vd5]) := hid (Xe_18.out.on b_s Xe_18.out.lt)
        have Xu_19 : Hid (BlockIs w26 (g10) 41 [.string key, .string ⟨#[121]⟩, .int .i64 73]) := hid (Xu_18.out.on b_s Xu_18.out.lt)
        have Qk_19 : Hid (KRows w26 (w.heap.size) (.slice (some ⟨bs, offs, none⟩) ls.length vc) (.slice vb li.length vd) ls li) := hid (Qk_18.out.on b_s)
        have Qa_19 : Hid (KRows w26 (U2.heap.size) (.slice va1 s1.length vc1) (.slice vb1 i1.length vd1) s1 i1) := hid (Qa_18.out.on b_s)
        have Qb_19 : Hid (KRows w26 (V5_1.heap.size) (.slice va2 s2.length vc2) (.slice vb2 i1.length vd2) s2 i1) := hid (Qb_18.out.on b_s)
        have Qc_19 : Hid (KRows w26 (V6_1.heap.size) (.slice va3 s3.length vc3) (.slice vb3 i1.length vd3) s3 i1) := hid (Qc_18.out.on b_s)
        have Qd_19 : Hid (KRows w26 (V7_1.heap.size) (.slice va4 s4.length vc4) (.slice vb4 i4.length vd4) s4 i4) := hid (Qd_18.out.on b_s)
        have Qe_19 : Hid (KRows w26 (V8_1.heap.size) (.slice va5 s5.length vc5) (.slice vb5 i5.length vd5) s5 i5) := hid (Qe_18.out.on b_s)
        have B_19 : Hid (Below w.heap.size w w26) := hid (below_via B_18.out b_s)
        clear Xk_18 Xx_18 Xs_18 Xr_18 Xa_18 Xb_18 Xc_18 Xd_18 Xe_18 Xu_18 Qk_18 Qa_18 Qb_18 Qc_18 Qd_18 Qe_18 B_18
        clear b_s
        obtain ⟨g11, hg11⟩ : ∃ g, w26.heap.size = g := ⟨_, rfl⟩
        obtain ⟨U11, hU11⟩ : ∃ V, (w26.alloc (.cells #[.string ⟨#[]⟩, .string ⟨#[]⟩, .int .i64 0] 41)) = V := ⟨_, rfl⟩
        have bz11 : Below g11 w26 U11 := by rw [← hg11, ← hU11]; exact below_more (Below.refl w26.heap.size w26) (.cells #[.string ⟨#[]⟩, .string ⟨#[]⟩, .int .i64 0] 41)
        have N11_0_0 : BlockIs U11 (g11) 41 [.string ⟨#[]⟩, .string ⟨#[]⟩, .int .i64 0] := by rw [← hg11, ← hU11]; exact heap_alloc_new _ _
        have o11_0 := N11_0_0.cell (j := 0) rfl
        have f11_0 := N11_0_0.thaw 0
        obtain ⟨V11_0, hV11_0⟩ : ∃ V, U11.setCell ⟨g11, 0, none⟩ (.string ik) = V := ⟨_, rfl⟩
        have N11_0_1 : BlockIs V11_0 (g11) 41 [.string ik, .string ⟨#[]⟩, .int .i64 0] := by rw [← hV11_0]; exact N11_0_0.set 0 _
        have bz11 : Below g11 w26 V11_0 := by rw [← hV11_0]; exact bz11.setCell (by show _ ≤ g11; omega) _
        have o11_1 := N11_0_1.cell (j := 1) rfl
        have f11_1 := N11_0_1.thaw 1
        obtain ⟨V11_1, hV11_1⟩ : ∃ V, V11_0.setCell ⟨g11, 1, none⟩ (.string iv) = V := ⟨_, rfl⟩
        have N11_0_2 : BlockIs V11_1 (g11) 41 [.string ik, .string iv, .int .i64 0] := by rw [← hV11_1]; exact N11_0_1.set 1 _
        have bz11 : Below g11 w26 V11_1 := by rw [← hV11_1]; exact bz11.setCell (by show _ ≤ g11; omega) _
        have o11_2 := N11_0_2.cell (j := 2) rfl
        have f11_2 := N11_0_2.thaw 2
        obtain ⟨V11_2, hV11_2⟩ : ∃ V, V11_1.setCell ⟨g11, 2, none⟩ (.int .i64 ix) = V := ⟨_, rfl⟩
        have N11_0_3 : BlockIs V11_2 (g11) 41 [.string ik, .string iv, .int .i64 ix] := by rw [← hV11_2]; exact N11_0_2.set 2 _
        have bz11 : Below g11 w26 V11_2 := by rw [← hV11_2]; exact bz11.setCell (by show _ ≤ g11; omega) _
        have hN11_0 := hid N11_0_3
        have p11_0_0 := hN11_0.out.cell (j := 0) rfl
        have p11_0_1 := hN11_0.out.cell (j := 1) rfl
        have p11_0_2 := hN11_0.out.cell (j := 2) rfl
        have bzz11 : Below w26.heap.size w26 V11_2 := by have h := bz11; rw [← hg11] at h; exact h
        clear bz11 N11_0_0 N11_0_1 N11_0_2 N11_0_3
        have ltk_11 : g0 < g11 := by rw [← hg11]; exact Xk_19.out.lt
        have ltx_11 : g0 + 1 < g11 := by rw [← hg11]; exact Xx_19.out.lt
        have lts_11 : g1 < g11 := by rw [← hg11]; exact Xs_19.out.lt
        have ltr_11 : g2 < g11 := by rw [← hg11]; exact Xr_19.out.lt
        have lta_11 : g5 < g11 := by rw [← hg11]; exact Xa_19.out.lt
        have ltb_11 : g6 < g11 := by rw [← hg11]; exact Xb_19.out.lt
        have ltc_11 : g7 < g11 := by rw [← hg11]; exact Xc_19.out.lt
        have ltd_11 : g8 < g11 := by rw [← hg11]; exact Xd_19.out.lt
        have lte_11 : g9 < g11 := by rw [← hg11]; exact Xe_19.out.lt
        have ltu_11 : g10 < g11 := by rw [← hg11]; exact Xu_19.out.lt
        have lo11 : w.heap.size ≤ g11 := by rw [← hg11]; exact B_19.out.size
        go_wp2_with fail
        clear o11_0 f11_0 o11_1 f11_1 o11_2 f11_2 p11_0_0 p11_0_1 p11_0_2
        have Xk_20 : Hid (BlockIs V11_2 (g0) 27 [.slice (some ⟨bs, offs, none⟩) ls.length vc, .slice vb li.length vd]) := hid (Xk_19.out.on bzz11 Xk_19.out.lt)
        have Xx_20 : Hid (BlockIs V11_2 (g0 + 1) 29 [.int .i64 d.op, .int .i64 d.token, .int .i64 d.seq, .string d.key, .string d.val, .int .i64 d.ver]) := hid (Xx_19.out.on bzz11 Xx_19.out.lt)
        have Xs_20 : Hid (BlockIs V11_2 (g1) 36 [.int .i64 t, .int .i64 L, .string rps]) := hid (Xs_19.out.on bzz11 Xs_19.out.lt)
        have Xr_20 : Hid (BlockIs V11_2 (g2) 9 [.string ⟨#[97]⟩, .string ⟨#[98]⟩, .string ⟨#[114, 111, 111, 116]⟩, .string ⟨#[110, 101, 119]⟩]) := hid (Xr_19.out.on bzz11 Xr_19.out.lt)
        have Xa_20 : Hid (BlockIs V11_2 (g5) 27 [.slice va1 s1.length vc1, .slice vb1 i1.length vd1]) := hid (Xa_19.out.on bzz11 Xa_19.out.lt)
        have Xb_20 : Hid (BlockIs V11_2 (g6) 27 [.slice va2 s2.length vc2, .slice vb2 i1.length vd2]) := hid (Xb_19.out.on bzz11 Xb_19.out.lt)
        have Xc_20 : Hid (BlockIs V11_2 (g7) 27 [.slice va3 s3.length vc3, .slice vb3 i1.length vd3]) := hid (Xc_19.out.on bzz11 Xc_19.out.lt)
        have Xd_20 : Hid (BlockIs V11_2 (g8) 27 [.slice va4 s4.length vc4, .slice vb4 i4.length vd4]) := hid (Xd_19.out.on bzz11 Xd_19.out.lt)
        have Xe_20 : Hid (BlockIs V11_2 (g9) 27 [.slice va5 s5.length vc5, .slice vb5 i5.length vd5]) := hid (Xe_19.out.on bzz11 Xe_19.out.lt)
        have Xu_20 : Hid (BlockIs V11_2 (g10) 41 [.string key, .string ⟨#[121]⟩, .int .i64 73]) := hid (Xu_19.out.on bzz11 Xu_19.out.lt)
        have Qk_20 : Hid (KRows V11_2 (w.heap.size) (.slice (some ⟨bs, offs, none⟩) ls.length vc) (.slice vb li.length vd) ls li) := hid (Qk_19.out.on bzz11)
        have Qa_20 : Hid (KRows V11_2 (U2.heap.size) (.slice va1 s1.length vc1) (.slice vb1 i1.length vd1) s1 i1) := hid (Qa_19.out.on bzz11)
        have Qb_20 : Hid (KRows V11_2 (V5_1.heap.size) (.slice va2 s2.length vc2) (.slice vb2 i1.length vd2) s2 i1) := hid (Qb_19.out.on bzz11)
        have Qc_20 : Hid (KRows V11_2 (V6_1.heap.size) (.slice va3 s3.length vc3) (.slice vb3 i1.length vd3) s3 i1) := hid (Qc_19.out.on bzz11)
        have Qd_20 : Hid (KRows V11_2 (V7_1.heap.size) (.slice va4 s4.length vc4) (.slice vb4 i4.length vd4) s4 i4) := hid (Qd_19.out.on bzz11)
        have Qe_20 : Hid (KRows V11_2 (V8_1.heap.size) (.slice va5 s5.length vc5) (.slice vb5 i5.length vd5) s5 i5) := hid (Qe_19.out.on bzz11)
        have B_20 : Hid (Below w.heap.size w V11_2) := hid (below_via B_19.out bzz11)
        clear Xk_19 Xx_19 Xs_19 Xr_19 Xa_19 Xb_19 Xc_19 Xd_19 Xe_19 Xu_19 Qk_19 Qa_19 Qb_19 Qc_19 Qd_19 Qe_19 B_19
        clear bzz11
        have Xv_20 := hN11_0
        refine (implKeepNew_any _).mono ?_
        rintro e w27 ⟨gn, rfl, _, _, b_s⟩
        have Xk_21 : Hid (BlockIs w27 (g0) 27 [.slice (some ⟨bs, offs, none⟩) ls.length vc, .slice vb li.length vd]) := hid (Xk_20.out.on b_s Xk_20.out.lt)
        have Xx_21 : Hid (BlockIs w27 (g0 + 1) 29 [.int .i64 d.op, .int .i64 d.token, .int .i64 d.seq, .string d.key, .string d.val, .int .i64 d.ver]) := hid (Xx_20.out.on b_s Xx_20.out.lt)
        have Xs_21 : Hid (BlockIs w27 (g1) 36 [.int .i64 t, .int .i64 L, .string rps]) := hid (Xs_20.out.on b_s Xs_20.out.lt)
        have Xr_21 : Hid (BlockIs w27 (g2) 9 [.string ⟨#[97]⟩, .string ⟨#[98]⟩, .string ⟨#[114, 111, 111, 116]⟩, .string ⟨#[110, 101, 119]⟩]) := hid (Xr_20.out.on b_s Xr_20.out.lt)
        have Xa_21 : Hid (BlockIs w27 (g5) 27 [.slice va1 s1.length vc1, .slice vb1 i1.length vd1]) := hid (Xa_20.out.on b_s Xa_20.out.lt)
        have Xb_21 : Hid (BlockIs w27 (g6) 27 [.slice va2 s2.length vc2, .slice vb2 i1.length vd2]) := hid (Xb_20.out.on b_s Xb_20.out.lt)
        have Xc_21 : Hid (BlockIs w27 (g7) 27 [.slice va3 s3.length vc3, .slice vb3 i1.length vd3]) := hid (Xc_20.out.on b_s Xc_20.out.lt)
        have Xd_21 : Hid (BlockIs w27 (g8) 27 [.slice va4 s4.length vc4, .slice vb4 i4.length vd4]) := hid (Xd_20.out.on b_s Xd_20.out.lt)
        have Xe_21 : Hid (BlockIs w27 (g9) 27 [.slice va5 s5.length vc5, .slice vb5 i5.length vd5]) := hid (Xe_20.out.on b_s Xe_20.out.lt)
        have Xu_21 : Hid (BlockIs w27 (g10) 41 [.string key, .string ⟨#[121]⟩, .int .i64 73]) := hid (Xu_20.out.on b_s Xu_20.out.lt)
        have Xv_21 : Hid (BlockIs w27 (g11) 41 [.string ik, .string iv, .int .i64 ix]) := hid (Xv_20.out.on b_s Xv_20.out.lt)
        have Qk_21 : Hid (KRows w27 (w.heap.size) (.slice (some ⟨bs, offs, none⟩) ls.length vc) (.slice vb li.length vd) ls li) := hid (Qk_20.out.on b_s)
        have Qa_21 : Hid (KRows w27 (U2.heap.size) (.slice va1 s1.length vc1) (.slice vb1 i1.length vd1) s1 i1) := hid (Qa_20.out.on b_s)
        have Qb_21 : Hid (KRows w27 (V5_1.heap.size) (.slice va2 s2.length vc2) (.slice vb2 i1.length vd2) s2 i1) := hid (Qb_20.out.on b_s)
        have Qc_21 : Hid (KRows w27 (V6_1.heap.size) (.slice va3 s3.length vc3) (.slice vb3 i1.length vd3) s3 i1) := hid (Qc_20.out.on b_s)
        have Qd_21 : Hid (KRows w27 (V7_1.heap.size) (.slice va4 s4.length vc4) (.slice vb4 i4.length vd4) s4 i4) := hid (Qd_20.out.on b_s)
        have Qe_21 : Hid (KRows w27 (V8_1.heap.size) (.slice va5 s5.length vc5) (.slice vb5 i5.length vd5) s5 i5) := hid (Qe_20.out.on b_s)
        have B_21 : Hid (Below w.heap.size w w27) := hid (below_via B_20.out b_s)
        clear Xk_20 Xx_20 Xs_20 Xr_20 Xa_20 Xb_20 Xc_20 Xd_20 Xe_20 Xu_20 Xv_20 Qk_20 Qa_20 Qb_20 Qc_20 Qd_20 Qe_20 B_20
        clear b_s
        obtain ⟨g12, hg12⟩ : ∃ g, w27.heap.size = g := ⟨_, rfl⟩
        obtain ⟨U12, hU12⟩ : ∃ V, (w27.alloc (.cells #[.slice none 0 0, .slice none 0 0] 27)) = V := ⟨_, rfl⟩
        have bz12 : Below g12 w27 U12 := by rw [← hg12, ← hU12]; exact below_more (Below.refl w27.heap.size w27) (.cells #[.slice none 0 0, .slice none 0 0] 27)
        have N12_0_0 : BlockIs U12 (g12) 27 [.slice none 0 0, .slice none 0 0] := by rw [← hg12, ← hU12]; exact heap_alloc_new _ _
        have o12_0 := N12_0_0.cell (j := 0) rfl
        have f12_0 := N12_0_0.thaw 0
        obtain ⟨V12_0, hV12_0⟩ : ∃ V, U12.setCell ⟨g12, 0, none⟩ (.slice none 0 0) = V := ⟨_, rfl⟩
        have N12_0_1 : BlockIs V12_0 (g12) 27 [.slice none 0 0, .slice none 0 0] := by rw [← hV12_0]; exact N12_0_0.set 0 _
        have bz12 : Below g12 w27 V12_0 := by rw [← hV12_0]; exact bz12.setCell (by show _ ≤ g12; omega) _
        have o12_1 := N12_0_1.cell (j := 1) rfl
        have f12_1 := N12_0_1.thaw 1
        obtain ⟨V12_1, hV12_1⟩ : ∃ V, V12_0.setCell ⟨g12, 1, none⟩ (.slice (some ⟨gn, 0, none⟩) 1 1) = V := ⟨_, rfl⟩
        have N12_0_2 : BlockIs V12_1 (g12) 27 [.slice none 0 0, .slice (some ⟨gn, 0, none⟩) 1 1] := by rw [← hV12_1]; exact N12_0_1.set 1 _
        have bz12 : Below g12 w27 V12_1 := by rw [← hV12_1]; exact bz12.setCell (by show _ ≤ g12; omega) _
        have hN12_0 := hid N12_0_2
        have p12_0_0 := hN12_0.out.cell (j := 0) rfl
        have p12_0_1 := hN12_0.out.cell (j := 1) rfl
        have bzz12 : Below w27.heap.size w27 V12_1 := by have h := bz12; rw [← hg12] at h; exact h
        clear bz12 N12_0_0 N12_0_1 N12_0_2
        have ltk_12 : g0 < g12 := by rw [← hg12]; exact Xk_21.out.lt
        have ltx_12 : g0 + 1 < g12 := by rw [← hg12]; exact Xx_21.out.lt
        have lts_12 : g1 < g12 := by rw [← hg12]; exact Xs_21.out.lt
        have ltr_12 : g2 < g12 := by rw [← hg12]; exact Xr_21.out.lt
        have lta_12 : g5 < g12 := by rw [← hg12]; exact Xa_21.out.lt
        have ltb_12 : g6 < g12 := by rw [← hg12]; exact Xb_21.out.lt
        have ltc_12 : g7 < g12 := by rw [← hg12]; exact Xc_21.out.lt
        have ltd_12 : g8 < g12 := by rw [← hg12]; exact Xd_21.out.lt
        have lte_12 : g9 < g12 := by rw [← hg12]; exact Xe_21.out.lt
        have ltu_12 : g10 < g12 := by rw [← hg12]; exact Xu_21.out.lt
        have ltv_12 : g11 < g12 := by rw [← hg12]; exact Xv_21.out.lt
        have lo12 : w.heap.size ≤ g12 := by rw [← hg12]; exact B_21.out.size
        have Zu := Xu_21.out.on bzz12 Xu_21.out.lt
        have zu0 := Zu.cell (j := 0) rfl
        have zu1 := Zu.cell (j := 1) rfl
        have zu2 := Zu.cell (j := 2) rfl
        clear Zu
        go_wp2
        clear zu0 zu1 zu2
        clear o12_0 f12_0 o12_1 f12_1 p12_0_0 p12_0_1
        have Xk_22 : Hid (BlockIs V12_1 (g0) 27 [.slice (some ⟨bs, offs, none⟩) ls.length vc, .slice vb li.length vd]) := hid (Xk_21.out.on bzz12 Xk_21.out.lt)
        have Xx_22 : Hid (BlockIs V12_1 (g0 + 1) 29 [.int .i64 d.op, .int .i64 d.token, .int .i64 d.seq, .string d.key, .string d.val, .int .i64 d.ver]) := hid (Xx_21.out.on bzz12 Xx_21.out.lt)
        have Xs_22 : Hid (BlockIs V12_1 (g1) 36 [.int .i64 t, .int .i64 L, .string rps]) := hid (Xs_21.out.on bzz12 Xs_21.out.lt)
        have Xr_22 : Hid (BlockIs V12_1 (g2) 9 [.string ⟨#[97]⟩, .string ⟨#[98]⟩, .string ⟨#[114, 111, 111, 116]⟩, .string ⟨#[110, 101, 119]⟩]) := hid (Xr_21.out.on bzz12 Xr_21.out.lt)
        have Xa_22 : Hid (BlockIs V12_1 (g5) 27 [.slice va1 s1.length vc1, .slice vb1 i1.length vd1]) := hid (Xa_21.out.on bzz12 Xa_21.out.lt)
        have Xb_22 : Hid (BlockIs V12_1 (g6) 27 [.slice va2 s2.length vc2, .slice vb2 i1.length vd2]) := hid (Xb_21.out.on bzz12 Xb_21.out.lt)
        have Xc_22 : Hid (BlockIs V12_1 (g7) 27 [.slice va3 s3.length vc3, .slice vb3 i1.length vd3]) := hid (Xc_21.out.on bzz12 Xc_21.out.lt)
        have Xd_22 : Hid (BlockIs V12_1 (g8) 27 [.slice va4 s4.length vc4, .slice vb4 i4.length vd4]) := hid (Xd_21.out.on bzz12 Xd_21.out.lt)
        have Xe_22 : Hid (BlockIs V12_1 (g9) 27 [.slice va5 s5.length vc5, .slice vb5 i5.length vd5]) := hid (Xe_21.out.on bzz12 Xe_21.out.lt)
        have Xu_22 : Hid (BlockIs V12_1 (g10) 41 [.string key, .string ⟨#[121]⟩, .int .i64 73]) := hid (Xu_21.out.on bzz12 Xu_21.out.lt)
        have Xv_22 : Hid (BlockIs V12_1 (g11) 41 [.string ik, .string iv, .int .i64 ix]) := hid (Xv_21.out.on bzz12 Xv_21.out.lt)
        have Qk_22 : Hid (KRows V12_1 (w.heap.size) (.slice (some ⟨bs, offs, none⟩) ls.length vc) (.slice vb li.length vd) ls li) := hid (Qk_21.out.on bzz12)
        have Qa_22 : Hid (KRows V12_1 (U2.heap.size) (.slice va1 s1.length vc1) (.slice vb1 i1.length vd1) s1 i1) := hid (Qa_21.out.on bzz12)
        have Qb_22 : Hid (KRows V12_1 (V5_1.heap.size) (.slice va2 s2.length vc2) (.slice vb2 i1.length vd2) s2 i1) := hid (Qb_21.out.on bzz12)
        have Qc_22 : Hid (KRows V12_1 (V6_1.heap.size) (.slice va3 s3.length vc3) (.slice vb3 i1.length vd3) s3 i1) := hid (Qc_21.out.on bzz12)
        have Qd_22 : Hid (KRows V12_1 (V7_1.heap.size) (.slice va4 s4.length vc4) (.slice vb4 i4.length vd4) s4 i4) := hid (Qd_21.out.on bzz12)
        have Qe_22 : Hid (KRows V12_1 (V8_1.heap.size) (.slice va5 s5.length vc5) (.slice vb5 i5.length vd5) s5 i5) := hid (Qe_21.out.on bzz12)
        have B_22 : Hid (Below w.heap.size w V12_1) := hid (below_via B_21.out bzz12)
        clear Xk_21 Xx_21 Xs_21 Xr_21 Xa_21 Xb_21 Xc_21 Xd_21 Xe_21 Xu_21 Xv_21 Qk_21 Qa_21 Qb_21 Qc_21 Qd_21 Qe_21 B_21
        clear bzz12
        have Xn_22 := hN12_0
        go_ret
        exact ⟨rfl, B_22.out⟩

theorem own : ownKnob Tryz.prog.godebug = none := by kernel_rfl
theorem laidOut : laidOutB Tryz.prog = true := by kernel_rfl
theorem rowed : varsRowed Tryz.prog Rows.fnPutGetSpec.vars = true := by kernel_rfl
/-- what the row's list gives: what internal/strconv.uint64pow10 holds -/
theorem table0 {W : World} (h : laidMetH Tryz.prog Rows.fnPutGetRow.laid W) : Lib.TabIs Tryz.prog W "internal/strconv.uint64pow10" .u64 Lib.pow10Tab := by
  have h1 : laidMet Tryz.prog Rows.fnPutGetRow.laid W := h
  unfold Rows.fnPutGetRow at h1
  have h2 := h1.tail.tail
  rw [show (Rows.laid_internal_strconv_uint64pow10 : DataW Unit) = Lib.tabData .u64 Lib.pow10Tab by kernel_rfl] at h2
  exact Lib.tabIs_of_head (show Tryz.prog.globalNamed "internal/strconv.uint64pow10" = some 0 by kernel_rfl) (show (Tryz.prog.globals[0]?).map (·.type) = some 177 by kernel_rfl) Tryz.underlying177 Tryz.underlying152 (show Tryz.prog.cellsOf 152 = 1 by kernel_rfl) (show Tryz.prog.cellsOf 177 = 20 by kernel_rfl) h2
set_option maxRecDepth 1000000 in
theorem contract (H : Type) (enc : TypeId × Value → H) (W : World) (base : Nat) (args : Array Value) (ds gs : List (DataW H)) (before : List MemPlace)
    (hval : ∀ (j : Nat) t v, Tryz.f3.params[j]? = some t → args[j]? = some v → Value.okWide Tryz.prog W .any base t v)
    (hW : DataW.Whole enc Tryz.prog Tryz.f3.params.toList Rows.fnPutGetSpec.vars false W args.toList ds gs before) (hL : laidMetH Tryz.prog Rows.fnPutGetRow.laid W) :
    Calls Tryz.prog 3 args W fun e W' => ∃ v, e = .returned v ∧ Rows.fnPutGetSpec.post enc Tryz.prog Tryz.f3 false true false false W args v W' := by
  have hW' := hW
  obtain ⟨p, q, hA0, hV0, rfl, hfz, hnd⟩ := hW
  have hV : DataW.TrodVars enc Tryz.prog W (fun _ => true) Rows.fnPutGetSpec.vars gs q := hV0
  have hA : DataW.TrodAll enc Tryz.prog W 0 (fun _ => true) true Tryz.f3.params.toList args.toList ds p := hA0
  rw [Tryz.params3] at hA hval
  obtain ⟨v0, vs0, d0, ds0, p0, q0, hargs0, rfl, rfl, h0, r0⟩ := trodAll_cons hA
  obtain ⟨rfl, rfl, rfl⟩ := trodAll_nil r0
  obtain rfl : args = #[v0] := by cases args; simp_all
  obtain ⟨a0, len0, cap0, rfl⟩ := okWide_slice Tryz.underlying22 (hval 0 22 v0 rfl rfl)
  have k0 := h0
  have lt0 : ∀ x ∈ p0, x.block < W.heap.size := by obtain ⟨m, hm⟩ := k0; exact DataW.trod_lt m _ _ _ hm
  have hb0 : len0 ≤ cap0 ∧ Bytes W a0 len0 := by
    obtain ⟨fuel, hf⟩ := h0
    rcases open_ints Tryz.underlying22 Tryz.underlying5 (by kernel_rfl) hf with ⟨hcs, _⟩ | ⟨x, l, c, zs, hcs, _, hl, hm, hz, _, hcell, hwz⟩
    · simp [Value.cells] at hcs
      obtain ⟨rfl, rfl, rfl⟩ := hcs
      exact ⟨Nat.le_refl _, fun h => by omega⟩
    · simp [Value.cells] at hcs
      obtain ⟨rfl, rfl, rfl⟩ := hcs
      refine ⟨hl, fun hp => ?_⟩
      have hzl : zs.length = cap0 := by simpa using hz
      obtain ⟨b, off, rfl, hc⟩ := ints_at hcell (by omega)
      refine ⟨b, off, rfl, fun j hj => ?_⟩
      have hjz : j < zs.length := by omega
      have hb8 := bounds_u8 (hwz (zs.getD j 0) (by simp [List.getD, hjz]))
      exact ⟨zs.getD j 0, hb8.1, hb8.2, hc j hjz⟩
  clear hA0 hV0
  obtain ⟨rfl, rfl⟩ := trodVars_none hV
  refine (walk a0 len0 cap0 hb0.1 W hb0.2 (table0 hL)).mono fun e W' ⟨he, bel⟩ => ?_
  subst he
  exact ⟨_, rfl, _, _, _, [], _, [], hW', trodAll_mk1 (shut_bool Tryz.underlying4 _), trodAll_cons_mk (Below.trod laidOut (by kernel_rfl) (of_decide_eq_true (by kernel_rfl)) k0 bel lt0) (trodAll_mk0), rfl, bel.frame _, fun h => by cases h⟩

def put (cs : Array Value) : Obj → Obj
  | .cells _ t frozen => .cells cs t frozen
  | o => o

/-- a world for the witness: the tables hold what their initialisers lay -/
def laidWorld (w : World) : World := { w with heap := (((w.heap.modify 1 (put (([0, 1, 28, 2, 29, 14, 24, 3, 30, 22, 20, 15, 25, 17, 4, 8, 31, 27, 13, 23, 21, 19, 16, 7, 26, 12, 18, 6, 11, 5, 10, 9] : List Int).map (Value.int .u8)).toArray)).modify 2 (put (([0, 1, 56, 2, 57, 49, 28, 3, 61, 58, 42, 50, 38, 29, 17, 4, 62, 47, 59, 36, 45, 43, 51, 22, 53, 39, 33, 30, 24, 18, 12, 5, 63, 55, 48, 27, 60, 41, 37, 16, 46, 35, 44, 21, 52, 32, 23, 11, 54, 26, 40, 15, 34, 20, 31, 10, 25, 14, 19, 9, 13, 8, 7, 6] : List Int).map (Value.int .u8)).toArray)).modify 0 (put (([1, 10, 100, 1000, 10000, 100000, 1000000, 10000000, 100000000, 1000000000, 10000000000, 100000000000, 1000000000000, 10000000000000, 100000000000000, 1000000000000000, 10000000000000000, 100000000000000000, 1000000000000000000, 10000000000000000000] : List Int).map (Value.int .u64)).toArray)) }
theorem laid_met (os : Os) : laidMet Tryz.prog Rows.fnPutGetRow.laid ((laidWorld (World.holding Tryz.prog os ⟨#[], #[], []⟩)).forCall (fun _ _ => 0) ⟨#[], #[.slice none 0 0], []⟩).memory :=
  laidMet_of_run' 8 (by kernel_rfl) (by kernel_rfl)
theorem reads (os : Os) {H : Type} (enc : TypeId × Value → H) : ∃ places, DataW.whole enc Tryz.prog ((laidWorld (World.holding Tryz.prog os ⟨#[], #[], []⟩)).forCall (fun _ _ => 0) ⟨#[], #[.slice none 0 0], []⟩).memory Tryz.f3.params.toList Rows.fnPutGetSpec.vars false #[Value.slice none 0 0].toList 8 = some ([.nil], [], places) :=
  ⟨[], by kernel_rfl⟩

set_option maxRecDepth 1000000 in
theorem lifted (os : Os) (started : os.Started) (H : Type) (enc : TypeId × Value → H) (F : Stop.Interp) :
    ReturnsInHanded {} Tryz.checked os 3 .any ((OpenSpec.ofChange Rows.fnPutGetSpec).preRow enc Tryz.prog Tryz.f3 Rows.fnPutGetRow.domain false Rows.fnPutGetRow.laid) (((OpenSpec.ofChange Rows.fnPutGetSpec).at F).post enc Tryz.prog Tryz.f3 false true false false) := by
  obtain ⟨places, hx⟩ := reads os enc
  refine returnsInHanded_of_row (C := Tryz.checked) (s := OpenSpec.ofChange Rows.fnPutGetSpec) own started (by kernel_rfl) Tryz.func3
    (witness_row_at (enc := enc) (C := Tryz.checked) false (laidWorld (World.holding Tryz.prog os ⟨#[], #[], []⟩)) #[.slice none 0 0] rfl (by kernel_rfl) (by kernel_rfl) (by kernel_rfl)
      (OpenSpec.preRow_of_cond 8 hx (by kernel_rfl) (fun k hk => by cases hk) (by kernel_rfl) (laid_met os))) ?_
  intro W base args ds gs before hval hW _ _ _ hL _ _
  exact contract H enc W base args ds gs before hval hW hL

theorem said : Rows.FnPutGetSaid :=
  OpenClaim.holds_of_cond 3 Tryz.f3 rfl rfl rfl rfl rfl rfl rfl ⟨rfl, rfl, rfl, rfl, rfl⟩ rfl rfl rfl rfl rfl (by kernel_rfl) Tryz.func3 (by kernel_rfl)
    (of_decide_eq_true (by kernel_rfl)) (by unfold Func.isWrapper; first | (rw [if_pos (by decide +kernel)]; kernel_rfl) | (rw [if_neg (by decide +kernel)]; exact ⟨rfl, rfl⟩))
    (fun os started H enc _ F => by rw [OpenClaim.pre_eq_preRow]; exact lifted os started H enc F)

theorem plain (f : FuncId) (fn : Func) (hf : Tryz.pinned.checked.prog.funcNamed "loop.example/g00232/laws.FnPutGet" = some f) (hfn : Tryz.pinned.checked.prog.funcs[f]? = some fn) :
    true = Tryz.pinned.checked.prog.looks [] ∧ ∀ (j : Nat) t, fn.params[j]? = some t → Tryz.pinned.checked.prog.wantsStandIn t = false := by
  obtain rfl : f = 3 := Option.some.inj ((show Tryz.prog.funcNamed "loop.example/g00232/laws.FnPutGet" = some 3 by kernel_rfl).symm.trans hf) |>.symm
  obtain rfl : fn = Tryz.f3 := (Option.some.inj (Tryz.func3.symm.trans hfn)).symm
  refine ⟨by kernel_rfl, fun j t ht => ?_⟩
  rw [Tryz.params3] at ht
  obtain rfl : t = 22 := by simpa using Array.mem_of_getElem? ht
  exact (show Tryz.prog.wantsStandIn 22 = false by kernel_rfl)

theorem card : Rows.FnPutGetCardSaid :=
  Claim7.holds_tied_plain_at .later [] _ _ _ _ said (fun _ h => by cases h) (by kernel_rfl) (fun _ h => by cases h) fnPutGet_row_tie rfl ⟨rfl, rfl⟩ (by kernel_rfl) rfl plain (by kernel_rfl)
end Go.Proofs.YtohpkegbmhmjeaaGreatDoor.fnPutGet
