/-
  For every slice of bytes, laws.FnMessages returns true: a drawn right message comes back from its bytes; what is read is just what would be written; nothing that was in memory is written. What the library's bytes.ErrTooLarge holds is tied to the program's text (the card).
-/
import Derived.Test.YtohmfmajgehadaaGreatDoorCards
import Derived.Test.YtohmfmajgehadaaGreatDoorTie
import Derived.Test.YtohmfmajgehadaaGreatDoorJoint25
import Derived.Test.YtohmfmajgehadaaGreatDoorJoint15
import Derived.Test.YtohmfmajgehadaaGreatDoorJoint38
import Derived.Test.YtohmfmajgehadaaGreatDoorJoint48
import Derived.Test.YtohmfmajgehadaaGreatDoorJoint51
import Derived.Test.YtohmfmajgehadaaGreatDoorJoint37
import Derived.Test.YtohmfmajgehadaaGreatDoorJoint22
import Derived.Test.YtohmfmajgehadaaGreatDoorJoint52
import Derived.Test.YtohmfmajgehadaaGreatDoorJoint19
import Derived.Deep.QuietTactic
import Derived.BigQuiet
import Derived.WalkSmall
import Derived.WalkKit
import Derived.ProofKit
import Derived.OpenShut
import Derived.OpenVars
import Derived.Deep.DeepHandedRow
import Derived.Lib.LaidTab
import Derived.Stop.LaidErr
namespace Go.Proofs.YtohmfmajgehadaaGreatDoor.fnMessages
open Go.ChangeShapes Go.WideShapes Go.ChangeAt Go.ChangeMaps Go.RowKit

set_option maxRecDepth 1000000 in
set_option maxHeartbeats 4000000 in
theorem walk (ao : Option Addr) (len cap : Nat) (hcap : len ≤ cap) (w : World) (hr : Bytes w ao len) :
    Calls Tryz.prog 4 #[.slice ao len cap] w fun e w' => e = .returned (.bool true) ∧ Below w.heap.size w w' := by
  have HBY := hid hr
  clear hr
  by_cases hbig : 1048576 < len
  · go_enter Tryz.func4, Tryz.ntmps4
    go_wp2
    go_ret
    exact ⟨rfl, Below.refl _ _⟩
  have hlen : len ≤ 1048576 := by omega
  clear hbig
  have B_0 : Hid (Below w.heap.size w w) := hid (Below.refl w.heap.size w)
  go_enter Tryz.func4, Tryz.ntmps4
  go_wp2_with fail
  refine (big_no ao len cap hlen _).mono ?_
  rintro e w0 ⟨rfl, hw0⟩
  rw [hw0]
  clear hw0 w0
  go_wp2_with fail
  refine Calls.mono (drawEncode_any ao len cap hlen hcap _ HBY.out) ?_
  rintro e w1 ⟨d, va, vc, vb, vd, rfl, hsm, qm, b1⟩
  have B_1 : Hid (Below w.heap.size w w1) := hid (below_via B_0.out b1)
  clear B_0
  clear b1
  have Qm_1 := hid qm
  clear qm
  obtain ⟨t, ok, hka, hko, hts, hkt⟩ := msg_told d
  have HSM := hid hsm
  have CE' := fun W h1 h2 => implEncode_any d va vc vb vd hsm W h1 h2
  rw [hka] at CE'
  have CE := hid CE'
  clear CE' hka
  have CS' := fun W h1 h2 => specMessageOk_any d va vc vb vd hsm W h1 h2
  rw [← hko] at CS'
  have CS := hid CS'
  have CI' := fun W h1 h2 => implMessageOk_any d va vc vb vd hsm W h1 h2
  rw [← hko] at CI'
  have CI := hid CI'
  clear CS' CI' hko
  have CD := hid (fun W => implDecode_any t (by omega) W)
  obtain ⟨d2, b2, hd2, hb2, hs2, _, _, _, _⟩ := msg_asked t
  have HM : Hid (ok = true → d2 = d ∧ b2 = true) := (show _ → _ from fun h => by
    have hq := (hkt h).2
    rw [hq] at hd2 hb2
    exact ⟨hd2.symm, hb2.symm⟩)
  clear hkt hts hsm
  obtain ⟨g0, hg0⟩ : ∃ g, w1.heap.size = g := ⟨_, rfl⟩
  obtain ⟨U0, hU0⟩ : ∃ V, (w1.alloc (.cells #[.int .i64 0, .int .i64 0, .int .i64 0, .int .i64 0, .int .i64 0, .int .i64 0, .int .i64 0, .bool false, .slice none 0 0, .slice none 0 0, .string ⟨#[]⟩, .bool false] 39)) = V := ⟨_, rfl⟩
  have bz0 : Below g0 w1 U0 := by rw [← hg0, ← hU0]; exact below_more (Below.refl w1.heap.size w1) (.cells #[.int .i64 0, .int .i64 0, .int .i64 0, .int .i64 0, .int .i64 0, .int .i64 0, .int .i64 0, .bool false, .slice none 0 0, .slice none 0 0, .string ⟨#[]⟩, .bool false] 39)
  have N0_0_0 : BlockIs U0 (g0) 39 [.int .i64 0, .int .i64 0, .int .i64 0, .int .i64 0, .int .i64 0, .int .i64 0, .int .i64 0, .bool false, .slice none 0 0, .slice none 0 0, .string ⟨#[]⟩, .bool false] := by rw [← hg0, ← hU0]; exact heap_alloc_new _ _
  have o0_0 := N0_0_0.cell (j := 0) rfl
  have f0_0 := N0_0_0.thaw 0
  obtain ⟨V0_0, hV0_0⟩ : ∃ V, U0.setCell ⟨g0, 0, none⟩ (.int .i64 d.kind) = V := ⟨_, rfl⟩
  have N0_0_1 : BlockIs V0_0 (g0) 39 [.int .i64 d.kind, .int .i64 0, .int .i64 0, .int .i64 0, .int .i64 0, .int .i64 0, .int .i64 0, .bool false, .slice none 0 0, .slice none 0 0, .string ⟨#[]⟩, .bool false] := by rw [← hV0_0]; exact N0_0_0.set 0 _
  have bz0 : Below g0 w1 V0_0 := by rw [← hV0_0]; exact bz0.setCell (by show _ ≤ g0; omega) _
  have o0_1 := N0_0_1.cell (j := 1) rfl
  have f0_1 := N0_0_1.thaw 1
  obtain ⟨V0_1, hV0_1⟩ : ∃ V, V0_0.setCell ⟨g0, 1, none⟩ (.int .i64 d.src) = V := ⟨_, rfl⟩
  have N0_0_2 : BlockIs V0_1 (g0) 39 [.int .i64 d.kind, .int .i64 d.src, .int .i64 0, .int .i64 0, .int .i64 0, .int .i64 0, .int .i64 0, .bool false, .slice none 0 0, .slice none 0 0, .string ⟨#[]⟩, .bool false] := by rw [← hV0_1]; exact N0_0_1.set 1 _
  have bz0 : Below g0 w1 V0_1 := by rw [← hV0_1]; exact bz0.setCell (by show _ ≤ g0; omega) _
  have o0_2 := N0_0_2.cell (j := 2) rfl
  have f0_2 := N0_0_2.thaw 2
  obtain ⟨V0_2, hV0_2⟩ : ∃ V, V0_1.setCell ⟨g0, 2, none⟩ (.int .i64 d.dst) = V := ⟨_, rfl⟩
  have N0_0_3 : BlockIs V0_2 (g0) 39 [.int .i64 d.kind, .int .i64 d.src, .int .i64 d.dst, .int .i64 0, .int .i64 0, .int .i64 0, .int .i64 0, .bool false, .slice none 0 0, .slice none 0 0, .string ⟨#[]⟩, .bool false] := by rw [← hV0_2]; exact N0_0_2.set 2 _
  have bz0 : Below g0 w1 V0_2 := by rw [← hV0_2]; exact bz0.setCell (by show _ ≤ g0; omega) _
  have o0_3 := N0_0_3.cell (j := 3) rfl
  have f0_3 := N0_0_3.thaw 3
  obtain ⟨V0_3, hV0_3⟩ : ∃ V, V0_2.setCell ⟨g0, 3, none⟩ (.int .i64 d.term) = V := ⟨_, rfl⟩
  have N0_0_4 : BlockIs V0_3 (g0) 39 [.int .i64 d.kind, .int .i64 d.src, .int .i64 d.dst, .int .i64 d.term, .int .i64 0, .int .i64 0, .int .i64 0, .bool false, .slice none 0 0, .slice none 0 0, .string ⟨#[]⟩, .bool false] := by rw [← hV0_3]; exact N0_0_3.set 3 _
  have bz0 : Below g0 w1 V0_3 := by rw [← hV0_3]; exact bz0.setCell (by show _ ≤ g0; omega) _
  have o0_4 := N0_0_4.cell (j := 4) rfl
  have f0_4 := N0_0_4.thaw 4
  obtain ⟨V0_4, hV0_4⟩ : ∃ V, V0_3.setCell ⟨g0, 4, none⟩ (.int .i64 d.index) = V := ⟨_, rfl⟩
  have N0_0_5 : BlockIs V0_4 (g0) 39 [.int .i64 d.kind, .int .i64 d.src, .int .i64 d.dst, .int .i64 d.term, .int .i64 d.index, .int .i64 0, .int .i64 0, .bool false, .slice none 0 0, .slice none 0 0, .string ⟨#[]⟩, .bool false] := by rw [← hV0_4]; exact N0_0_4.set 4 _
  have bz0 : Below g0 w1 V0_4 := by rw [← hV0_4]; exact bz0.setCell (by show _ ≤ g0; omega) _
  have o0_5 := N0_0_5.cell (j := 5) rfl
  have f0_5 := N0_0_5.thaw 5
  obtain ⟨V0_5, hV0_5⟩ : ∃ V, V0_4.setCell ⟨g0, 5, none⟩ (.int .i64 d.logTerm) = V := ⟨_, rfl⟩
  have N0_0_6 : BlockIs V0_5 (g0) 39 [.int .i64 d.kind, .int .i64 d.src, .int .i64 d.dst, .int .i64 d.term, .int .i64 d.index, .int .i64 d.logTerm, .int .i64 0, .bool false, .slice none 0 0, .slice none 0 0, .string ⟨#[]⟩, .bool false] := by rw [← hV0_5]; exact N0_0_5.set 5 _
  have bz0 : Below g0 w1 V0_5 := by rw [← hV0_5]; exact bz0.setCell (by show _ ≤ g0; omega) _
  have o0_6 := N0_0_6.cell (j := 6) rfl
  have f0_6 := N0_0_6.thaw 6
  obtain ⟨V0_6, hV0_6⟩ : ∃ V, V0_5.setCell ⟨g0, 6, none⟩ (.int .i64 d.commit) = V := ⟨_, rfl⟩
  have N0_0_7 : BlockIs V0_6 (g0) 39 [.int .i64 d.kind, .int .i64 d.src, .int .i64 d.dst, .int .i64 d.term, .int .i64 d.index, .int .i64 d.logTerm, .int .i64 d.commit, .bool false, .slice none 0 0, .slice none 0 0, .string ⟨#[]⟩, .bool false] := by rw [← hV0_6]; exact N0_0_6.set 6 _
  have bz0 : Below g0 w1 V0_6 := by rw [← hV0_6]; exact bz0.setCell (by show _ ≤ g0; omega) _
  have o0_7 := N0_0_7.cell (j := 7) rfl
  have f0_7 := N0_0_7.thaw 7
  obtain ⟨V0_7, hV0_7⟩ : ∃ V, V0_6.setCell ⟨g0, 7, none⟩ (.bool d.ok) = V := ⟨_, rfl⟩
  have N0_0_8 : BlockIs V0_7 (g0) 39 [.int .i64 d.kind, .int .i64 d.src, .int .i64 d.dst, .int .i64 d.term, .int .i64 d.index, .int .i64 d.logTerm, .int .i64 d.commit, .bool d.ok, .slice none 0 0, .slice none 0 0, .string ⟨#[]⟩, .bool false] := by rw [← hV0_7]; exact N0_0_7.set 7 _
  have bz0 : Below g0 w1 V0_7 := by rw [← hV0_7]; exact bz0.setCell (by show _ ≤ g0; omega) _
  have o0_8 := N0_0_8.cell (j := 8) rfl
  have f0_8 := N0_0_8.thaw 8
  obtain ⟨V0_8, hV0_8⟩ : ∃ V, V0_7.setCell ⟨g0, 8, none⟩ (.slice va d.ents.length vc) = V := ⟨_, rfl⟩
  have N0_0_9 : BlockIs V0_8 (g0) 39 [.int .i64 d.kind, .int .i64 d.src, .int .i64 d.dst, .int .i64 d.term, .int .i64 d.index, .int .i64 d.logTerm, .int .i64 d.commit, .bool d.ok, .slice va d.ents.length vc, .slice none 0 0, .string ⟨#[]⟩, .bool false] := by rw [← hV0_8]; exact N0_0_8.set 8 _
  have bz0 : Below g0 w1 V0_8 := by rw [← hV0_8]; exact bz0.setCell (by show _ ≤ g0; omega) _
  have o0_9 := N0_0_9.cell (j := 9) rfl
  have f0_9 := N0_0_9.thaw 9
  obtain ⟨V0_9, hV0_9⟩ : ∃ V, V0_8.setCell ⟨g0, 9, none⟩ (.slice vb d.conf.length vd) = V := ⟨_, rfl⟩
  have N0_0_10 : BlockIs V0_9 (g0) 39 [.int .i64 d.kind, .int .i64 d.src, .int .i64 d.dst, .int .i64 d.term, .int .i64 d.index, .int .i64 d.logTerm, .int .i64 d.commit, .bool d.ok, .slice va d.ents.length vc, .slice vb d.conf.length vd, .string ⟨#[]⟩, .bool false] := by rw [← hV0_9]; exact N0_0_9.set 9 _
  have bz0 : Below g0 w1 V0_9 := by rw [← hV0_9]; exact bz0.setCell (by show _ ≤ g0; omega) _
  have o0_10 := N0_0_10.cell (j := 10) rfl
  have f0_10 := N0_0_10.thaw 10
  obtain ⟨V0_10, hV0_10⟩ : ∃ V, V0_9.setCell ⟨g0, 10, none⟩ (.string d.data) = V := ⟨_, rfl⟩
  have N0_0_11 : BlockIs V0_10 (g0) 39 [.int .i64 d.kind, .int .i64 d.src, .int .i64 d.dst, .int .i64 d.term, .int .i64 d.index, .int .i64 d.logTerm, .int .i64 d.commit, .bool d.ok, .slice va d.ents.length vc, .slice vb d.conf.length vd, .string d.data, .bool false] := by rw [← hV0_10]; exact N0_0_10.set 10 _
  have bz0 : Below g0 w1 V0_10 := by rw [← hV0_10]; exact bz0.setCell (by show _ ≤ g0; omega) _
  have o0_11 := N0_0_11.cell (j := 11) rfl
  have f0_11 := N0_0_11.thaw 11
  obtain ⟨V0_11, hV0_11⟩ : ∃ V, V0_10.setCell ⟨g0, 11, none⟩ (.bool d.last) = V := ⟨_, rfl⟩
  have N0_0_12 : BlockIs V0_11 (g0) 39 [.int .i64 d.kind, .int .i64 d.src, .int .i64 d.dst, .int .i64 d.term, .int .i64 d.index, .int .i64 d.logTerm, .int .i64 d.commit, .bool d.ok, .slice va d.ents.length vc, .slice vb d.conf.length vd, .string d.data, .bool d.last] := by rw [← hV0_11]; exact N0_0_11.set 11 _
  have bz0 : Below g0 w1 V0_11 := by rw [← hV0_11]; exact bz0.setCell (by show _ ≤ g0; omega) _
  have hN0_0 := hid N0_0_12
  have p0_0_0 := hN0_0.out.cell (j := 0) rfl
  have p0_0_1 := hN0_0.out.cell (j := 1) rfl
  have p0_0_2 := hN0_0.out.cell (j := 2) rfl
  have p0_0_3 := hN0_0.out.cell (j := 3) rfl
  have p0_0_4 := hN0_0.out.cell (j := 4) rfl
  have p0_0_5 := hN0_0.out.cell (j := 5) rfl
  have p0_0_6 := hN0_0.out.cell (j := 6) rfl
  have p0_0_7 := hN0_0.out.cell (j := 7) rfl
  have p0_0_8 := hN0_0.out.cell (j := 8) rfl
  have p0_0_9 := hN0_0.out.cell (j := 9) rfl
  have p0_0_10 := hN0_0.out.cell (j := 10) rfl
  have p0_0_11 := hN0_0.out.cell (j := 11) rfl
  have bzz0 : Below w1.heap.size w1 V0_11 := by have h := bz0; rw [← hg0] at h; exact h
  clear bz0 N0_0_0 N0_0_1 N0_0_2 N0_0_3 N0_0_4 N0_0_5 N0_0_6 N0_0_7 N0_0_8 N0_0_9 N0_0_10 N0_0_11 N0_0_12
  have lo0 : w.heap.size ≤ g0 := by rw [← hg0]; exact B_1.out.size
  go_wp2_with fail
  clear o0_0 f0_0 o0_1 f0_1 o0_2 f0_2 o0_3 f0_3 o0_4 f0_4 o0_5 f0_5 o0_6 f0_6 o0_7 f0_7 o0_8 f0_8 o0_9 f0_9 o0_10 f0_10 o0_11 f0_11 p0_0_0 p0_0_1 p0_0_2 p0_0_3 p0_0_4 p0_0_5 p0_0_6 p0_0_7 p0_0_8 p0_0_9 p0_0_10 p0_0_11
  have Qm_2 : Hid (MRows V0_11 (w.heap.size) va vc vb vd d) := hid (Qm_1.out.on bzz0)
  have B_2 : Hid (Below w.heap.size w V0_11) := hid (below_via B_1.out bzz0)
  clear Qm_1 B_1
  clear bzz0
  have Xm_2 := hN0_0
  refine Calls.mono (CE.out _ Qm_2.out.ents Qm_2.out.confs) ?_
  rintro e w2 ⟨rfl, b_s⟩
  have Xm_3 : Hid (BlockIs w2 (g0) 39 [.int .i64 d.kind, .int .i64 d.src, .int .i64 d.dst, .int .i64 d.term, .int .i64 d.index, .int .i64 d.logTerm, .int .i64 d.commit, .bool d.ok, .slice va d.ents.length vc, .slice vb d.conf.length vd, .string d.data, .bool d.last]) := hid (Xm_2.out.on b_s Xm_2.out.lt)
  have Qm_3 : Hid (MRows w2 (w.heap.size) va vc vb vd d) := hid (Qm_2.out.on b_s)
  have B_3 : Hid (Below w.heap.size w w2) := hid (below_via B_2.out b_s)
  clear Xm_2 Qm_2 B_2
  clear b_s
  go_wp2_with fail
  refine Calls.mono (CD.out _) ?_
  rintro e w3 hdd
  obtain ⟨va3, vc3, vb3, vd3, rfl, q3, b_s⟩ := dec_rows hdd
  rw [hd2] at q3 ⊢
  rw [hb2]
  clear hdd hd2 hb2
  have Xm_4 : Hid (BlockIs w3 (g0) 39 [.int .i64 d.kind, .int .i64 d.src, .int .i64 d.dst, .int .i64 d.term, .int .i64 d.index, .int .i64 d.logTerm, .int .i64 d.commit, .bool d.ok, .slice va d.ents.length vc, .slice vb d.conf.length vd, .string d.data, .bool d.last]) := hid (Xm_3.out.on b_s Xm_3.out.lt)
  have Qm_4 : Hid (MRows w3 (w.heap.size) va vc vb vd d) := hid (Qm_3.out.on b_s)
  have B_4 : Hid (Below w.heap.size w w3) := hid (below_via B_3.out b_s)
  clear Xm_3 Qm_3 B_3
  clear b_s
  have Qb_4 : Hid (MRows w3 (w2.heap.size) va3 vc3 vb3 vd3 d2) := hid q3
  clear q3 CE CD
  obtain ⟨g1, hg1⟩ : ∃ g, w3.heap.size = g := ⟨_, rfl⟩
  obtain ⟨U1, hU1⟩ : ∃ V, (w3.alloc (.cells #[.int .i64 0, .int .i64 0, .int .i64 0, .int .i64 0, .int .i64 0, .int .i64 0, .int .i64 0, .bool false, .slice none 0 0, .slice none 0 0, .string ⟨#[]⟩, .bool false] 39)) = V := ⟨_, rfl⟩
  have bz1 : Below g1 w3 U1 := by rw [← hg1, ← hU1]; exact below_more (Below.refl w3.heap.size w3) (.cells #[.int .i64 0, .int .i64 0, .int .i64 0, .int .i64 0, .int .i64 0, .int .i64 0, .int .i64 0, .bool false, .slice none 0 0, .slice none 0 0, .string ⟨#[]⟩, .bool false] 39)
  have N1_0_0 : BlockIs U1 (g1) 39 [.int .i64 0, .int .i64 0, .int .i64 0, .int .i64 0, .int .i64 0, .int .i64 0, .int .i64 0, .bool false, .slice none 0 0, .slice none 0 0, .string ⟨#[]⟩, .bool false] := by rw [← hg1, ← hU1]; exact heap_alloc_new _ _
  have o1_0 := N1_0_0.cell (j := 0) rfl
  have f1_0 := N1_0_0.thaw 0
  obtain ⟨V1_0, hV1_0⟩ : ∃ V, U1.setCell ⟨g1, 0, none⟩ (.int .i64 d2.kind) = V := ⟨_, rfl⟩
  have N1_0_1 : BlockIs V1_0 (g1) 39 [.int .i64 d2.kind, .int .i64 0, .int .i64 0, .int .i64 0, .int .i64 0, .int .i64 0, .int .i64 0, .bool false, .slice none 0 0, .slice none 0 0, .string ⟨#[]⟩, .bool false] := by rw [← hV1_0]; exact N1_0_0.set 0 _
  have bz1 : Below g1 w3 V1_0 := by rw [← hV1_0]; exact bz1.setCell (by show _ ≤ g1; omega) _
  have o1_1 := N1_0_1.cell (j := 1) rfl
  have f1_1 := N1_0_1.thaw 1
  obtain ⟨V1_1, hV1_1⟩ : ∃ V, V1_0.setCell ⟨g1, 1, none⟩ (.int .i64 d2.src) = V := ⟨_, rfl⟩
  have N1_0_2 : BlockIs V1_1 (g1) 39 [.int .i64 d2.kind, .int .i64 d2.src, .int .i64 0, .int .i64 0, .int .i64 0, .int .i64 0, .int .i64 0, .bool false, .slice none 0 0, .slice none 0 0, .string ⟨#[]⟩, .bool false] := by rw [← hV1_1]; exact N1_0_1.set 1 _
  have bz1 : Below g1 w3 V1_1 := by rw [← hV1_1]; exact bz1.setCell (by show _ ≤ g1; omega) _
  have o1_2 := N1_0_2.cell (j := 2) rfl
  have f1_2 := N1_0_2.thaw 2
  obtain ⟨V1_2, hV1_2⟩ : ∃ V, V1_1.setCell ⟨g1, 2, none⟩ (.int .i64 d2.dst) = V := ⟨_, rfl⟩
  have N1_0_3 : BlockIs V1_2 (g1) 39 [.int .i64 d2.kind, .int .i64 d2.src, .int .i64 d2.dst, .int .i64 0, .int .i64 0, .int .i64 0, .int .i64 0, .bool false, .slice none 0 0, .slice none 0 0, .string ⟨#[]⟩, .bool false] := by rw [← hV1_2]; exact N1_0_2.set 2 _
  have bz1 : Below g1 w3 V1_2 := by rw [← hV1_2]; exact bz1.setCell (by show _ ≤ g1; omega) _
  have o1_3 := N1_0_3.cell (j := 3) rfl
  have f1_3 := N1_0_3.thaw 3
  obtain ⟨V1_3, hV1_3⟩ : ∃ V, V1_2.setCell ⟨g1, 3, none⟩ (.int .i64 d2.term) = V := ⟨_, rfl⟩
  have N1_0_4 : BlockIs V1_3 (g1) 39 [.int .i64 d2.kind, .int .i64 d2.src, .int .i64 d2.dst, .int .i64 d2.term, .int .i64 0, .int .i64 0, .int .i64 0, .bool false, .slice none 0 0, .slice none 0 0, .string ⟨#[]⟩, .bool false] := by rw [← hV1_3]; exact N1_0_3.set 3 _
  have bz1 : Below g1 w3 V1_3 := by rw [← hV1_3]; exact bz1.setCell (by show _ ≤ g1; omega) _
  have o1_4 := N1_0_4.cell (j := 4) rfl
  have f1_4 := N1_0_4.thaw 4
  obtain ⟨V1_4, hV1_4⟩ : ∃ V, V1_3.setCell ⟨g1, 4, none⟩ (.int .i64 d2.index) = V := ⟨_, rfl⟩
  have N1_0_5 : BlockIs V1_4 (g1) 39 [.int .i64 d2.kind, .int .i64 d2.src, .int .i64 d2.dst, .int .i64 d2.term, .int .i64 d2.index, .int .i64 0, .int .i64 0, .bool false, .slice none 0 0, .slice none 0 0, .string ⟨#[]⟩, .bool false] := by rw [← hV1_4]; exact N1_0_4.set 4 _
  have bz1 : Below g1 w3 V1_4 := by rw [← hV1_4]; exact bz1.setCell (by show _ ≤ g1; omega) _
  have o1_5 := N1_0_5.cell (j := 5) rfl
  have f1_5 := N1_0_5.thaw 5
  obtain ⟨V1_5, hV1_5⟩ : ∃ V, V1_4.setCell ⟨g1, 5, none⟩ (.int .i64 d2.logTerm) = V := ⟨_, rfl⟩
  have N1_0_6 : BlockIs V1_5 (g1) 39 [.int .i64 d2.kind, .int .i64 d2.src, .int .i64 d2.dst, .int .i64 d2.term, .int .i64 d2.index, .int .i64 d2.logTerm, .int .i64 0, .bool false, .slice none 0 0, .slice none 0 0, .string ⟨#[]⟩, .bool false] := by rw [← hV1_5]; exact N1_0_5.set 5 _
  have bz1 : Below g1 w3 V1_5 := by rw [← hV1_5]; exact bz1.setCell (by show _ ≤ g1; omega) _
  have o1_6 := N1_0_6.cell (j := 6) rfl
  have f1_6 := N1_0_6.thaw 6
  obtain ⟨V1_6, hV1_6⟩ : ∃ V, V1_5.setCell ⟨g1, 6, none⟩ (.int .i64 d2.commit) = V := ⟨_, rfl⟩
  have N1_0_7 : BlockIs V1_6 (g1) 39 [.int .i64 d2.kind, .int .i64 d2.src, .int .i64 d2.dst, .int .i64 d2.term, .int .i64 d2.index, .int .i64 d2.logTerm, .int .i64 d2.commit, .bool false, .slice none 0 0, .slice none 0 0, .string ⟨#[]⟩, .bool false] := by rw [← hV1_6]; exact N1_0_6.set 6 _
  have bz1 : Below g1 w3 V1_6 := by rw [← hV1_6]; exact bz1.setCell (by show _ ≤ g1; omega) _
  have o1_7 := N1_0_7.cell (j := 7) rfl
  have f1_7 := N1_0_7.thaw 7
  obtain ⟨V1_7, hV1_7⟩ : ∃ V, V1_6.setCell ⟨g1, 7, none⟩ (.bool d2.ok) = V := ⟨_, rfl⟩
  have N1_0_8 : BlockIs V1_7 (g1) 39 [.int .i64 d2.kind, .int .i64 d2.src, .int .i64 d2.dst, .int .i64 d2.term, .int .i64 d2.index, .int .i64 d2.logTerm, .int .i64 d2.commit, .bool d2.ok, .slice none 0 0, .slice none 0 0, .string ⟨#[]⟩, .bool false] := by rw [← hV1_7]; exact N1_0_7.set 7 _
  have bz1 : Below g1 w3 V1_7 := by rw [← hV1_7]; exact bz1.setCell (by show _ ≤ g1; omega) _
  have o1_8 := N1_0_8.cell (j := 8) rfl
  have f1_8 := N1_0_8.thaw 8
  obtain ⟨V1_8, hV1_8⟩ : ∃ V, V1_7.setCell ⟨g1, 8, none⟩ (.slice va3 d2.ents.length vc3) = V := ⟨_, rfl⟩
  have N1_0_9 : BlockIs V1_8 (g1) 39 [.int .i64 d2.kind, .int .i64 d2.src, .int .i64 d2.dst, .int .i64 d2.term, .int .i64 d2.index, .int .i64 d2.logTerm, .int .i64 d2.commit, .bool d2.ok, .slice va3 d2.ents.length vc3, .slice none 0 0, .string ⟨#[]⟩, .bool false] := by rw [← hV1_8]; exact N1_0_8.set 8 _
  have bz1 : Below g1 w3 V1_8 := by rw [← hV1_8]; exact bz1.setCell (by show _ ≤ g1; omega) _
  have o1_9 := N1_0_9.cell (j := 9) rfl
  have f1_9 := N1_0_9.thaw 9
  obtain ⟨V1_9, hV1_9⟩ : ∃ V, V1_8.setCell ⟨g1, 9, none⟩ (.slice vb3 d2.conf.length vd3) = V := ⟨_, rfl⟩
  have N1_0_10 : BlockIs V1_9 (g1) 39 [.int .i64 d2.kind, .int .i64 d2.src, .int .i64 d2.dst, .int .i64 d2.term, .int .i64 d2.index, .int .i64 d2.logTerm, .int .i64 d2.commit, .bool d2.ok, .slice va3 d2.ents.length vc3, .slice vb3 d2.conf.length vd3, .string ⟨#[]⟩, .bool false] := by rw [← hV1_9]; exact N1_0_9.set 9 _
  have bz1 : Below g1 w3 V1_9 := by rw [← hV1_9]; exact bz1.setCell (by show _ ≤ g1; omega) _
  have o1_10 := N1_0_10.cell (j := 10) rfl
  have f1_10 := N1_0_10.thaw 10
  obtain ⟨V1_10, hV1_10⟩ : ∃ V, V1_9.setCell ⟨g1, 10, none⟩ (.string d2.data) = V := ⟨_, rfl⟩
  have N1_0_11 : BlockIs V1_10 (g1) 39 [.int .i64 d2.kind, .int .i64 d2.src, .int .i64 d2.dst, .int .i64 d2.term, .int .i64 d2.index, .int .i64 d2.logTerm, .int .i64 d2.commit, .bool d2.ok, .slice va3 d2.ents.length vc3, .slice vb3 d2.conf.length vd3, .string d2.data, .bool false] := by rw [← hV1_10]; exact N1_0_10.set 10 _
  have bz1 : Below g1 w3 V1_10 := by rw [← hV1_10]; exact bz1.setCell (by show _ ≤ g1; omega) _
  have o1_11 := N1_0_11.cell (j := 11) rfl
  have f1_11 := N1_0_11.thaw 11
  obtain ⟨V1_11, hV1_11⟩ : ∃ V, V1_10.setCell ⟨g1, 11, none⟩ (.bool d2.last) = V := ⟨_, rfl⟩
  have N1_0_12 : BlockIs V1_11 (g1) 39 [.int .i64 d2.kind, .int .i64 d2.src, .int .i64 d2.dst, .int .i64 d2.term, .int .i64 d2.index, .int .i64 d2.logTerm, .int .i64 d2.commit, .bool d2.ok, .slice va3 d2.ents.length vc3, .slice vb3 d2.conf.length vd3, .string d2.data, .bool d2.last] := by rw [← hV1_11]; exact N1_0_11.set 11 _
  have bz1 : Below g1 w3 V1_11 := by rw [← hV1_11]; exact bz1.setCell (by show _ ≤ g1; omega) _
  have hN1_0 := hid N1_0_12
  have p1_0_0 := hN1_0.out.cell (j := 0) rfl
  have p1_0_1 := hN1_0.out.cell (j := 1) rfl
  have p1_0_2 := hN1_0.out.cell (j := 2) rfl
  have p1_0_3 := hN1_0.out.cell (j := 3) rfl
  have p1_0_4 := hN1_0.out.cell (j := 4) rfl
  have p1_0_5 := hN1_0.out.cell (j := 5) rfl
  have p1_0_6 := hN1_0.out.cell (j := 6) rfl
  have p1_0_7 := hN1_0.out.cell (j := 7) rfl
  have p1_0_8 := hN1_0.out.cell (j := 8) rfl
  have p1_0_9 := hN1_0.out.cell (j := 9) rfl
  have p1_0_10 := hN1_0.out.cell (j := 10) rfl
  have p1_0_11 := hN1_0.out.cell (j := 11) rfl
  have bzz1 : Below w3.heap.size w3 V1_11 := by have h := bz1; rw [← hg1] at h; exact h
  clear bz1 N1_0_0 N1_0_1 N1_0_2 N1_0_3 N1_0_4 N1_0_5 N1_0_6 N1_0_7 N1_0_8 N1_0_9 N1_0_10 N1_0_11 N1_0_12
  have ltm_1 : g0 < g1 := by rw [← hg1]; exact Xm_4.out.lt
  have lo1 : w.heap.size ≤ g1 := by rw [← hg1]; exact B_4.out.size
  have Zm := Xm_4.out.on bzz1 Xm_4.out.lt
  have zm0 := Zm.cell (j := 0) rfl
  have zm1 := Zm.cell (j := 1) rfl
  have zm2 := Zm.cell (j := 2) rfl
  have zm3 := Zm.cell (j := 3) rfl
  have zm4 := Zm.cell (j := 4) rfl
  have zm5 := Zm.cell (j := 5) rfl
  have zm6 := Zm.cell (j := 6) rfl
  have zm7 := Zm.cell (j := 7) rfl
  have zm8 := Zm.cell (j := 8) rfl
  have zm9 := Zm.cell (j := 9) rfl
  have zm10 := Zm.cell (j := 10) rfl
  have zm11 := Zm.cell (j := 11) rfl
  clear Zm
  go_wp2_with fail
  clear zm0 zm1 zm2 zm3 zm4 zm5 zm6 zm7 zm8 zm9 zm10 zm11
  clear o1_0 f1_0 o1_1 f1_1 o1_2 f1_2 o1_3 f1_3 o1_4 f1_4 o1_5 f1_5 o1_6 f1_6 o1_7 f1_7 o1_8 f1_8 o1_9 f1_9 o1_10 f1_10 o1_11 f1_11 p1_0_0 p1_0_1 p1_0_2 p1_0_3 p1_0_4 p1_0_5 p1_0_6 p1_0_7 p1_0_8 p1_0_9 p1_0_10 p1_0_11
  have Xm_5 : Hid (BlockIs V1_11 (g0) 39 [.int .i64 d.kind, .int .i64 d.src, .int .i64 d.dst, .int .i64 d.term, .int .i64 d.index, .int .i64 d.logTerm, .int .i64 d.commit, .bool d.ok, .slice va d.ents.length vc, .slice vb d.conf.length vd, .string d.data, .bool d.last]) := hid (Xm_4.out.on bzz1 Xm_4.out.lt)
  have Qm_5 : Hid (MRows V1_11 (w.heap.size) va vc vb vd d) := hid (Qm_4.out.on bzz1)
  have Qb_5 : Hid (MRows V1_11 (w2.heap.size) va3 vc3 vb3 vd3 d2) := hid (Qb_4.out.on bzz1)
  have B_5 : Hid (Below w.heap.size w V1_11) := hid (below_via B_4.out bzz1)
  clear Xm_4 Qm_4 Qb_4 B_4
  clear bzz1
  have Xb_5 := hN1_0
  refine Calls.mono (CS.out _ Qm_5.out.ents Qm_5.out.confs) ?_
  rintro e w4 ⟨rfl, b_s⟩
  have Xm_6 : Hid (BlockIs w4 (g0) 39 [.int .i64 d.kind, .int .i64 d.src, .int .i64 d.dst, .int .i64 d.term, .int .i64 d.index, .int .i64 d.logTerm, .int .i64 d.commit, .bool d.ok, .slice va d.ents.length vc, .slice vb d.conf.length vd, .string d.data, .bool d.last]) := hid (Xm_5.out.on b_s Xm_5.out.lt)
  have Xb_6 : Hid (BlockIs w4 (g1) 39 [.int .i64 d2.kind, .int .i64 d2.src, .int .i64 d2.dst, .int .i64 d2.term, .int .i64 d2.index, .int .i64 d2.logTerm, .int .i64 d2.commit, .bool d2.ok, .slice va3 d2.ents.length vc3, .slice vb3 d2.conf.length vd3, .string d2.data, .bool d2.last]) := hid (Xb_5.out.on b_s Xb_5.out.lt)
  have Qm_6 : Hid (MRows w4 (w.heap.size) va vc vb vd d) := hid (Qm_5.out.on b_s)
  have Qb_6 : Hid (MRows w4 (w2.heap.size) va3 vc3 vb3 vd3 d2) := hid (Qb_5.out.on b_s)
  have B_6 : Hid (Below w.heap.size w w4) := hid (below_via B_5.out b_s)
  clear Xm_5 Xb_5 Qm_5 Qb_5 B_5
  clear b_s
  have hoo : (ok != ok) = false := by cases ok <;> rfl
  have cm0_1 := Xm_6.out.cell (j := 0) rfl
  have cm1_1 := Xm_6.out.cell (j := 1) rfl
  have cm2_1 := Xm_6.out.cell (j := 2) rfl
  have cm3_1 := Xm_6.out.cell (j := 3) rfl
  have cm4_1 := Xm_6.out.cell (j := 4) rfl
  have cm5_1 := Xm_6.out.cell (j := 5) rfl
  have cm6_1 := Xm_6.out.cell (j := 6) rfl
  have cm7_1 := Xm_6.out.cell (j := 7) rfl
  have cm8_1 := Xm_6.out.cell (j := 8) rfl
  have cm9_1 := Xm_6.out.cell (j := 9) rfl
  have cm10_1 := Xm_6.out.cell (j := 10) rfl
  have cm11_1 := Xm_6.out.cell (j := 11) rfl
  have cb0_1 := Xb_6.out.cell (j := 0) rfl
  have cb1_1 := Xb_6.out.cell (j := 1) rfl
  have cb2_1 := Xb_6.out.cell (j := 2) rfl
  have cb3_1 := Xb_6.out.cell (j := 3) rfl
  have cb4_1 := Xb_6.out.cell (j := 4) rfl
  have cb5_1 := Xb_6.out.cell (j := 5) rfl
  have cb6_1 := Xb_6.out.cell (j := 6) rfl
  have cb7_1 := Xb_6.out.cell (j := 7) rfl
  have cb8_1 := Xb_6.out.cell (j := 8) rfl
  have cb9_1 := Xb_6.out.cell (j := 9) rfl
  have cb10_1 := Xb_6.out.cell (j := 10) rfl
  have cb11_1 := Xb_6.out.cell (j := 11) rfl
  go_wp2_with fail
  refine Calls.mono (CI.out _ Qm_6.out.ents Qm_6.out.confs) ?_
  rintro e w5 ⟨rfl, b_s⟩
  have Xm_7 : Hid (BlockIs w5 (g0) 39 [.int .i64 d.kind, .int .i64 d.src, .int .i64 d.dst, .int .i64 d.term, .int .i64 d.index, .int .i64 d.logTerm, .int .i64 d.commit, .bool d.ok, .slice va d.ents.length vc, .slice vb d.conf.length vd, .string d.data, .bool d.last]) := hid (Xm_6.out.on b_s Xm_6.out.lt)
  have Xb_7 : Hid (BlockIs w5 (g1) 39 [.int .i64 d2.kind, .int .i64 d2.src, .int .i64 d2.dst, .int .i64 d2.term, .int .i64 d2.index, .int .i64 d2.logTerm, .int .i64 d2.commit, .bool d2.ok, .slice va3 d2.ents.length vc3, .slice vb3 d2.conf.length vd3, .string d2.data, .bool d2.last]) := hid (Xb_6.out.on b_s Xb_6.out.lt)
  have Qm_7 : Hid (MRows w5 (w.heap.size) va vc vb vd d) := hid (Qm_6.out.on b_s)
  have Qb_7 : Hid (MRows w5 (w2.heap.size) va3 vc3 vb3 vd3 d2) := hid (Qb_6.out.on b_s)
  have B_7 : Hid (Below w.heap.size w w5) := hid (below_via B_6.out b_s)
  clear cm0_1 cm1_1 cm2_1 cm3_1 cm4_1 cm5_1 cm6_1 cm7_1 cm8_1 cm9_1 cm10_1 cm11_1 cb0_1 cb1_1 cb2_1 cb3_1 cb4_1 cb5_1 cb6_1 cb7_1 cb8_1 cb9_1 cb10_1 cb11_1
  clear Xm_6 Xb_6 Qm_6 Qb_6 B_6
  clear b_s
  clear CS CI
  have cm0_2 := Xm_7.out.cell (j := 0) rfl
  have cm1_2 := Xm_7.out.cell (j := 1) rfl
  have cm2_2 := Xm_7.out.cell (j := 2) rfl
  have cm3_2 := Xm_7.out.cell (j := 3) rfl
  have cm4_2 := Xm_7.out.cell (j := 4) rfl
  have cm5_2 := Xm_7.out.cell (j := 5) rfl
  have cm6_2 := Xm_7.out.cell (j := 6) rfl
  have cm7_2 := Xm_7.out.cell (j := 7) rfl
  have cm8_2 := Xm_7.out.cell (j := 8) rfl
  have cm9_2 := Xm_7.out.cell (j := 9) rfl
  have cm10_2 := Xm_7.out.cell (j := 10) rfl
  have cm11_2 := Xm_7.out.cell (j := 11) rfl
  have cb0_2 := Xb_7.out.cell (j := 0) rfl
  have cb1_2 := Xb_7.out.cell (j := 1) rfl
  have cb2_2 := Xb_7.out.cell (j := 2) rfl
  have cb3_2 := Xb_7.out.cell (j := 3) rfl
  have cb4_2 := Xb_7.out.cell (j := 4) rfl
  have cb5_2 := Xb_7.out.cell (j := 5) rfl
  have cb6_2 := Xb_7.out.cell (j := 6) rfl
  have cb7_2 := Xb_7.out.cell (j := 7) rfl
  have cb8_2 := Xb_7.out.cell (j := 8) rfl
  have cb9_2 := Xb_7.out.cell (j := 9) rfl
  have cb10_2 := Xb_7.out.cell (j := 10) rfl
  have cb11_2 := Xb_7.out.cell (j := 11) rfl
  cases ok
  · skip
    clear HM HSM
    go_wp2_with fail
    refine (drawDecode_any ao len cap hlen hcap _ (bytes_on HBY.out B_7.out)).mono ?_
    rintro e w7 ⟨s, rfl, hs, b_s⟩
    have B_8 : Hid (Below w.heap.size w w7) := hid (below_via B_7.out b_s)
    clear cm0_2 cm1_2 cm2_2 cm3_2 cm4_2 cm5_2 cm6_2 cm7_2 cm8_2 cm9_2 cm10_2 cm11_2 cb0_2 cb1_2 cb2_2 cb3_2 cb4_2 cb5_2 cb6_2 cb7_2 cb8_2 cb9_2 cb10_2 cb11_2
    clear B_7
    clear b_s
    obtain ⟨x, xb, hx1, hx2, hx3, u, uk, hxa, hxu⟩ := msg_asked s
    have CI := hid (fun W => implDecode_any s (by omega) W)
    have CP := hid (fun W => specDecode_any s (by omega) W)
    have CT' := fun W va vc vb vd h1 h2 => implEncode_any x va vc vb vd hx3 W h1 h2
    rw [hxa] at CT'
    have CT := hid CT'
    have HXU : Hid (xb = true → u = s) := (show _ → _ from hxu)
    clear CT' hxa hxu hs hx3
    go_wp2_with fail
    refine Calls.mono (CI.out _) ?_
    rintro e w8 hdd
    obtain ⟨va4, vc4, vb4, vd4, rfl, q4, b_s⟩ := dec_rows hdd
    rw [hx1] at q4 ⊢
    rw [hx2]
    clear hdd CI
    have B_9 : Hid (Below w.heap.size w w8) := hid (below_via B_8.out b_s)
    clear B_8
    clear b_s
    have Qx_9 : Hid (MRows w8 (w7.heap.size) va4 vc4 vb4 vd4 x) := hid q4
    clear q4
    obtain ⟨g2, hg2⟩ : ∃ g, w8.heap.size = g := ⟨_, rfl⟩
    obtain ⟨U2, hU2⟩ : ∃ V, (w8.alloc (.cells #[.int .i64 0, .int .i64 0, .int .i64 0, .int .i64 0, .int .i64 0, .int .i64 0, .int .i64 0, .bool false, .slice none 0 0, .slice none 0 0, .string ⟨#[]⟩, .bool false] 39)) = V := ⟨_, rfl⟩
    have bz2 : Below g2 w8 U2 := by rw [← hg2, ← hU2]; exact below_more (Below.refl w8.heap.size w8) (.cells #[.int .i64 0, .int .i64 0, .int .i64 0, .int .i64 0, .int .i64 0, .int .i64 0, .int .i64 0, .bool false, .slice none 0 0, .slice none 0 0, .string ⟨#[]⟩, .bool false] 39)
    have N2_0_0 : BlockIs U2 (g2) 39 [.int .i64 0, .int .i64 0, .int .i64 0, .int .i64 0, .int .i64 0, .int .i64 0, .int .i64 0, .bool false, .slice none 0 0, .slice none 0 0, .string ⟨#[]⟩, .bool false] := by rw [← hg2, ← hU2]; exact heap_alloc_new _ _
    have o2_0 := N2_0_0.cell (j := 0) rfl
    have f2_0 := N2_0_0.thaw 0
    obtain ⟨V2_0, hV2_0⟩ : ∃ V, U2.setCell ⟨g2, 0, none⟩ (.int .i64 x.kind) = V := ⟨_, rfl⟩
    have N2_0_1 : BlockIs V2_0 (g2) 39 [.int .i64 x.kind, .int .i64 0, .int .i64 0, .int .i64 0, .int .i64 0, .int .i64 0, .int .i64 0, .bool false, .slice none 0 0, .slice none 0 0, .string ⟨#[]⟩, .bool false] := by rw [← hV2_0]; exact N2_0_0.set 0 _
    have bz2 : Below g2 w8 V2_0 := by rw [← hV2_0]; exact bz2.setCell (by show _ ≤ g2; omega) _
    have o2_1 := N2_0_1.cell (j := 1) rfl
    have f2_1 := N2_0_1.thaw 1
    obtain ⟨V2_1, hV2_1⟩ : ∃ V, V2_0.setCell ⟨g2, 1, none⟩ (.int .i64 x.src) = V := ⟨_, rfl⟩
    have N2_0_2 : BlockIs V2_1 (g2) 39 [.int .i64 x.kind, .int .i64 x.src, .int .i64 0, .int .i64 0, .int .i64 0, .int .i64 0, .int .i64 0, .bool false, .slice none 0 0, .slice none 0 0, .string ⟨#[]⟩, .bool false] := by rw [← hV2_1]; exact N2_0_1.set 1 _
    have bz2 : Below g2 w8 V2_1 := by rw [← hV2_1]; exact bz2.setCell (by show _ ≤ g2; omega) _
    have o2_2 := N2_0_2.cell (j := 2) rfl
    have f2_2 := N2_0_2.thaw 2
    obtain ⟨V2_2, hV2_2⟩ : ∃ V, V2_1.setCell ⟨g2, 2, none⟩ (.int .i64 x.dst) = V := ⟨_, rfl⟩
    have N2_0_3 : BlockIs V2_2 (g2) 39 [.int .i64 x.kind, .int .i64 x.src, .int .i64 x.dst, .int .i64 0, .int .i64 0, .int .i64 0, .int .i64 0, .bool false, .slice none 0 0, .slice none 0 0, .string ⟨#[]⟩, .bool false] := by rw [← hV2_2]; exact N2_0_2.set 2 _
    have bz2 : Below g2 w8 V2_2 := by rw [← hV2_2]; exact bz2.setCell (by show _ ≤ g2; omega) _
    have o2_3 := N2_0_3.cell (j := 3) rfl
    have f2_3 := N2_0_3.thaw 3
    obtain ⟨V2_3, hV2_3⟩ : ∃ V, V2_2.setCell ⟨g2, 3, none⟩ (.int .i64 x.term) = V := ⟨_, rfl⟩
    have N2_0_4 : BlockIs V2_3 (g2) 39 [.int .i64 x.kind, .int .i64 x.src, .int .i64 x.dst, .int .i64 x.term, .int .i64 0, .int .i64 0, .int .i64 0, .bool false, .slice none 0 0, .slice none 0 0, .string ⟨#[]⟩, .bool false] := by rw [← hV2_3]; exact N2_0_3.set 3 _
    have bz2 : Below g2 w8 V2_3 := by rw [← hV2_3]; exact bz2.setCell (by show _ ≤ g2; omega) _
    have o2_4 := N2_0_4.cell (j := 4) rfl
    have f2_4 := N2_0_4.thaw 4
    obtain ⟨V2_4, hV2_4⟩ : ∃ V, V2_3.setCell ⟨g2, 4, none⟩ (.int .i64 x.index) = V := ⟨_, rfl⟩
    have N2_0_5 : BlockIs V2_4 (g2) 39 [.int .i64 x.kind, .int .i64 x.src, .int .i64 x.dst, .int .i64 x.term, .int .i64 x.index, .int .i64 0, .int .i64 0, .bool false, .slice none 0 0, .slice none 0 0, .string ⟨#[]⟩, .bool false] := by rw [← hV2_4]; exact N2_0_4.set 4 _
    have bz2 : Below g2 w8 V2_4 := by rw [← hV2_4]; exact bz2.setCell (by show _ ≤ g2; omega) _
    have o2_5 := N2_0_5.cell (j := 5) rfl
    have f2_5 := N2_0_5.thaw 5
    obtain ⟨V2_5, hV2_5⟩ : ∃ V, V2_4.setCell ⟨g2, 5, none⟩ (.int .i64 x.logTerm) = V := ⟨_, rfl⟩
    have N2_0_6 : BlockIs V2_5 (g2) 39 [.int .i64 x.kind, .int .i64 x.src, .int .i64 x.dst, .int .i64 x.term, .int .i64 x.index, .int .i64 x.logTerm, .int .i64 0, .bool false, .slice none 0 0, .slice none 0 0, .string ⟨#[]⟩, .bool false] := by rw [← hV2_5]; exact N2_0_5.set 5 _
    have bz2 : Below g2 w8 V2_5 := by rw [← hV2_5]; exact bz2.setCell (by show _ ≤ g2; omega) _
    have o2_6 := N2_0_6.cell (j := 6) rfl
    have f2_6 := N2_0_6.thaw 6
    obtain ⟨V2_6, hV2_6⟩ : ∃ V, V2_5.setCell ⟨g2, 6, none⟩ (.int .i64 x.commit) = V := ⟨_, rfl⟩
    have N2_0_7 : BlockIs V2_6 (g2) 39 [.int .i64 x.kind, .int .i64 x.src, .int .i64 x.dst, .int .i64 x.term, .int .i64 x.index, .int .i64 x.logTerm, .int .i64 x.commit, .bool false, .slice none 0 0, .slice none 0 0, .string ⟨#[]⟩, .bool false] := by rw [← hV2_6]; exact N2_0_6.set 6 _
    have bz2 : Below g2 w8 V2_6 := by rw [← hV2_6]; exact bz2.setCell (by show _ ≤ g2; omega) _
    have o2_7 := N2_0_7.cell (j := 7) rfl
    have f2_7 := N2_0_7.thaw 7
    obtain ⟨V2_7, hV2_7⟩ : ∃ V, V2_6.setCell ⟨g2, 7, none⟩ (.bool x.ok) = V := ⟨_, rfl⟩
    have N2_0_8 : BlockIs V2_7 (g2) 39 [.int .i64 x.kind, .int .i64 x.src, .int .i64 x.dst, .int .i64 x.term, .int .i64 x.index, .int .i64 x.logTerm, .int .i64 x.commit, .bool x.ok, .slice none 0 0, .slice none 0 0, .string ⟨#[]⟩, .bool false] := by rw [← hV2_7]; exact N2_0_7.set 7 _
    have bz2 : Below g2 w8 V2_7 := by rw [← hV2_7]; exact bz2.setCell (by show _ ≤ g2; omega) _
    have o2_8 := N2_0_8.cell (j := 8) rfl
    have f2_8 := N2_0_8.thaw 8
    obtain ⟨V2_8, hV2_8⟩ : ∃ V, V2_7.setCell ⟨g2, 8, none⟩ (.slice va4 x.ents.length vc4) = V := ⟨_, rfl⟩
    have N2_0_9 : BlockIs V2_8 (g2) 39 [.int .i64 x.kind, .int .i64 x.src, .int .i64 x.dst, .int .i64 x.term, .int .i64 x.index, .int .i64 x.logTerm, .int .i64 x.commit, .bool x.ok, .slice va4 x.ents.length vc4, .slice none 0 0, .string ⟨#[]⟩, .bool false] := by rw [← hV2_8]; exact N2_0_8.set 8 _
    have bz2 : Below g2 w8 V2_8 := by rw [← hV2_8]; exact bz2.setCell (by show _ ≤ g2; omega) _
    have o2_9 := N2_0_9.cell (j := 9) rfl
    have f2_9 := N2_0_9.thaw 9
    obtain ⟨V2_9, hV2_9⟩ : ∃ V, V2_8.setCell ⟨g2, 9, none⟩ (.slice vb4 x.conf.length vd4) = V := ⟨_, rfl⟩
    have N2_0_10 : BlockIs V2_9 (g2) 39 [.int .i64 x.kind, .int .i64 x.src, .int .i64 x.dst, .int .i64 x.term, .int .i64 x.index, .int .i64 x.logTerm, .int .i64 x.commit, .bool x.ok, .slice va4 x.ents.length vc4, .slice vb4 x.conf.length vd4, .string ⟨#[]⟩, .bool false] := by rw [← hV2_9]; exact N2_0_9.set 9 _
    have bz2 : Below g2 w8 V2_9 := by rw [← hV2_9]; exact bz2.setCell (by show _ ≤ g2; omega) _
    have o2_10 := N2_0_10.cell (j := 10) rfl
    have f2_10 := N2_0_10.thaw 10
    obtain ⟨V2_10, hV2_10⟩ : ∃ V, V2_9.setCell ⟨g2, 10, none⟩ (.string x.data) = V := ⟨_, rfl⟩
    have N2_0_11 : BlockIs V2_10 (g2) 39 [.int .i64 x.kind, .int .i64 x.src, .int .i64 x.dst, .int .i64 x.term, .int .i64 x.index, .int .i64 x.logTerm, .int .i64 x.commit, .bool x.ok, .slice va4 x.ents.length vc4, .slice vb4 x.conf.length vd4, .string x.data, .bool false] := by rw [← hV2_10]; exact N2_0_10.set 10 _
    have bz2 : Below g2 w8 V2_10 := by rw [← hV2_10]; exact bz2.setCell (by show _ ≤ g2; omega) _
    have o2_11 := N2_0_11.cell (j := 11) rfl
    have f2_11 := N2_0_11.thaw 11
    obtain ⟨V2_11, hV2_11⟩ : ∃ V, V2_10.setCell ⟨g2, 11, none⟩ (.bool x.last) = V := ⟨_, rfl⟩
    have N2_0_12 : BlockIs V2_11 (g2) 39 [.int .i64 x.kind, .int .i64 x.src, .int .i64 x.dst, .int .i64 x.term, .int .i64 x.index, .int .i64 x.logTerm, .int .i64 x.commit, .bool x.ok, .slice va4 x.ents.length vc4, .slice vb4 x.conf.length vd4, .string x.data, .bool x.last] := by rw [← hV2_11]; exact N2_0_11.set 11 _
    have bz2 : Below g2 w8 V2_11 := by rw [← hV2_11]; exact bz2.setCell (by show _ ≤ g2; omega) _
    have hN2_0 := hid N2_0_12
    have p2_0_0 := hN2_0.out.cell (j := 0) rfl
    have p2_0_1 := hN2_0.out.cell (j := 1) rfl
    have p2_0_2 := hN2_0.out.cell (j := 2) rfl
    have p2_0_3 := hN2_0.out.cell (j := 3) rfl
    have p2_0_4 := hN2_0.out.cell (j := 4) rfl
    have p2_0_5 := hN2_0.out.cell (j := 5) rfl
    have p2_0_6 := hN2_0.out.cell (j := 6) rfl
    have p2_0_7 := hN2_0.out.cell (j := 7) rfl
    have p2_0_8 := hN2_0.out.cell (j := 8) rfl
    have p2_0_9 := hN2_0.out.cell (j := 9) rfl
    have p2_0_10 := hN2_0.out.cell (j := 10) rfl
    have p2_0_11 := hN2_0.out.cell (j := 11) rfl
    have bzz2 : Below w8.heap.size w8 V2_11 := by have h := bz2; rw [← hg2] at h; exact h
    clear bz2 N2_0_0 N2_0_1 N2_0_2 N2_0_3 N2_0_4 N2_0_5 N2_0_6 N2_0_7 N2_0_8 N2_0_9 N2_0_10 N2_0_11 N2_0_12
    have lo2 : w.heap.size ≤ g2 := by rw [← hg2]; exact B_9.out.size
    go_wp2_with fail
    clear o2_0 f2_0 o2_1 f2_1 o2_2 f2_2 o2_3 f2_3 o2_4 f2_4 o2_5 f2_5 o2_6 f2_6 o2_7 f2_7 o2_8 f2_8 o2_9 f2_9 o2_10 f2_10 o2_11 f2_11 p2_0_0 p2_0_1 p2_0_2 p2_0_3 p2_0_4 p2_0_5 p2_0_6 p2_0_7 p2_0_8 p2_0_9 p2_0_10 p2_0_11
    have Qx_10 : Hid (MRows V2_11 (w7.heap.size) va4 vc4 vb4 vd4 x) := hid (Qx_9.out.on bzz2)
    have B_10 : Hid (Below w.heap.size w V2_11) := hid (below_via B_9.out bzz2)
    clear Qx_9 B_9
    clear bzz2
    have Xx_10 := hN2_0
    refine Calls.mono (CP.out _) ?_
    rintro e w9 hdd
    obtain ⟨va5, vc5, vb5, vd5, rfl, q5, b_s⟩ := dec_rows hdd
    rw [hx1]
    rw [hx2]
    clear hdd CP q5 hx1 hx2
    have Xx_11 : Hid (BlockIs w9 (g2) 39 [.int .i64 x.kind, .int .i64 x.src, .int .i64 x.dst, .int .i64 x.term, .int .i64 x.index, .int .i64 x.logTerm, .int .i64 x.commit, .bool x.ok, .slice va4 x.ents.length vc4, .slice vb4 x.conf.length vd4, .string x.data, .bool x.last]) := hid (Xx_10.out.on b_s Xx_10.out.lt)
    have Qx_11 : Hid (MRows w9 (w7.heap.size) va4 vc4 vb4 vd4 x) := hid (Qx_10.out.on b_s)
    have B_11 : Hid (Below w.heap.size w w9) := hid (below_via B_10.out b_s)
    clear Xx_10 Qx_10 B_10
    clear b_s
    obtain ⟨g3, hg3⟩ : ∃ g, w9.heap.size = g := ⟨_, rfl⟩
    obtain ⟨U3, hU3⟩ : ∃ V, (w9.alloc (.cells #[.int .i64 0, .int .i64 0, .int .i64 0, .int .i64 0, .int .i64 0, .int .i64 0, .int .i64 0, .bool false, .slice none 0 0, .slice none 0 0, .string ⟨#[]⟩, .bool false] 39)) = V := ⟨_, rfl⟩
    have bz3 : Below g3 w9 U3 := by rw [← hg3, ← hU3]; exact below_more (Below.refl w9.heap.size w9) (.cells #[.int .i64 0, .int .i64 0, .int .i64 0, .int .i64 0, .int .i64 0, .int .i64 0, .int .i64 0, .bool false, .slice none 0 0, .slice none 0 0, .string ⟨#[]⟩, .bool false] 39)
    have N3_0_0 : BlockIs U3 (g3) 39 [.int .i64 0, .int .i64 0, .int .i64 0, .int .i64 0, .int .i64 0, .int .i64 0, .int .i64 0, .bool false, .slice none 0 0, .slice none 0 0, .string ⟨#[]⟩, .bool false] := by rw [← hg3, ← hU3]; exact heap_alloc_new _ _
    have o3_0 := N3_0_0.cell (j := 0) rfl
    have f3_0 := N3_0_0.thaw 0
    obtain ⟨V3_0, hV3_0⟩ : ∃ V, U3.setCell ⟨g3, 0, none⟩ (.int .i64 x.kind) = V := ⟨_, rfl⟩
    have N3_0_1 : BlockIs V3_0 (g3) 39 [.int .i64 x.kind, .int .i64 0, .int .i64 0, .int .i64 0, .int .i64 0, .int .i64 0, .int .i64 0, .bool false, .slice none 0 0, .slice none 0 0, .string ⟨#[]⟩, .bool false] := by rw [← hV3_0]; exact N3_0_0.set 0 _
    have bz3 : Below g3 w9 V3_0 := by rw [← hV3_0]; exact bz3.setCell (by show _ ≤ g3; omega) _
    have o3_1 := N3_0_1.cell (j := 1) rfl
    have f3_1 := N3_0_1.thaw 1
    obtain ⟨V3_1, hV3_1⟩ : ∃ V, V3_0.setCell ⟨g3, 1, none⟩ (.int .i64 x.src) = V := ⟨_, rfl⟩
    have N3_0_2 : BlockIs V3_1 (g3) 39 [.int .i64 x.kind, .int .i64 x.src, .int .i64 0, .int .i64 0, .int .i64 0, .int .i64 0, .int .i64 0, .bool false, .slice none 0 0, .slice none 0 0, .string ⟨#[]⟩, .bool false] := by rw [← hV3_1]; exact N3_0_1.set 1 _
    have bz3 : Below g3 w9 V3_1 := by rw [← hV3_1]; exact bz3.setCell (by show _ ≤ g3; omega) _
    have o3_2 := N3_0_2.cell (j := 2) rfl
    have f3_2 := N3_0_2.thaw 2
    obtain ⟨V3_2, hV3_2⟩ : ∃ V, V3_1.setCell ⟨g3, 2, none⟩ (.int .i64 x.dst) = V := ⟨_, rfl⟩
    have N3_0_3 : BlockIs V3_2 (g3) 39 [.int .i64 x.kind, .int .i64 x.src, .int .i64 x.dst, .int .i64 0, .int .i64 0, .int .i64 0, .int .i64 0, .bool false, .slice none 0 0, .slice none 0 0, .string ⟨#[]⟩, .bool false] := by rw [← hV3_2]; exact N3_0_2.set 2 _
    have bz3 : Below g3 w9 V3_2 := by rw [← hV3_2]; exact bz3.setCell (by show _ ≤ g3; omega) _
    have o3_3 := N3_0_3.cell (j := 3) rfl
    have f3_3 := N3_0_3.thaw 3
    obtain ⟨V3_3, hV3_3⟩ : ∃ V, V3_2.setCell ⟨g3, 3, none⟩ (.int .i64 x.term) = V := ⟨_, rfl⟩
    have N3_0_4 : BlockIs V3_3 (g3) 39 [.int .i64 x.kind, .int .i64 x.src, .int .i64 x.dst, .int .i64 x.term, .int .i64 0, .int .i64 0, .int .i64 0, .bool false, .slice none 0 0, .slice none 0 0, .string ⟨#[]⟩, .bool false] := by rw [← hV3_3]; exact N3_0_3.set 3 _
    have bz3 : Below g3 w9 V3_3 := by rw [← hV3_3]; exact bz3.setCell (by show _ ≤ g3; omega) _
    have o3_4 := N3_0_4.cell (j := 4) rfl
    have f3_4 := N3_0_4.thaw 4
    obtain ⟨V3_4, hV3_4⟩ : ∃ V, V3_3.setCell ⟨g3, 4, none⟩ (.int .i64 x.index) = V := ⟨_, rfl⟩
    have N3_0_5 : BlockIs V3_4 (g3) 39 [.int .i64 x.kind, .int .i64 x.src, .int .i64 x.dst, .int .i64 x.term, .int .i64 x.index, .int .i64 0, .int .i64 0, .bool false, .slice none 0 0, .slice none 0 0, .string ⟨#[]⟩, .bool false] := by rw [← hV3_4]; exact N3_0_4.set 4 _
    have bz3 : Below g3 w9 V3_4 := by rw [← hV3_4]; exact bz3.setCell (by show _ ≤ g3; omega) _
    have o3_5 := N3_0_5.cell (j := 5) rfl
    have f3_5 := N3_0_5.thaw 5
    obtain ⟨V3_5, hV3_5⟩ : ∃ V, V3_4.setCell ⟨g3, 5, none⟩ (.int .i64 x.logTerm) = V := ⟨_, rfl⟩
    have N3_0_6 : BlockIs V3_5 (g3) 39 [.int .i64 x.kind, .int .i64 x.src, .int .i64 x.dst, .int .i64 x.term, .int .i64 x.index, .int .i64 x.logTerm, .int .i64 0, .bool false, .slice none 0 0, .slice none 0 0, .string ⟨#[]⟩, .bool false] := by rw [← hV3_5]; exact N3_0_5.set 5 _
    have bz3 : Below g3 w9 V3_5 := by rw [← hV3_5]; exact bz3.setCell (by show _ ≤ g3; omega) _
    have o3_6 := N3_0_6.cell (j := 6) rfl
    have f3_6 := N3_0_6.thaw 6
    obtain ⟨V3_6, hV3_6⟩ : ∃ V, V3_5.setCell ⟨g3, 6, none⟩ (.int .i64 x.commit) = V := ⟨_, rfl⟩
    have N3_0_7 : BlockIs V3_6 (g3) 39 [.int .i64 x.kind, .int .i64 x.src, .int .i64 x.dst, .int .i64 x.term, .int .i64 x.index, .int .i64 x.logTerm, .int .i64 x.commit, .bool false, .slice none 0 0, .slice none 0 0, .string ⟨#[]⟩, .bool false] := by rw [← hV3_6]; exact N3_0_6.set 6 _
    have bz3 : Below g3 w9 V3_6 := by rw [← hV3_6]; exact bz3.setCell (by show _ ≤ g3; omega) _
    have o3_7 := N3_0_7.cell (j := 7) rfl
    have f3_7 := N3_0_7.thaw 7
    obtain ⟨V3_7, hV3_7⟩ : ∃ V, V3_6.setCell ⟨g3, 7, none⟩ (.bool x.ok) = V := ⟨_, rfl⟩
    have N3_0_8 : BlockIs V3_7 (g3) 39 [.int .i64 x.kind, .int .i64 x.src, .int .i64 x.dst, .int .i64 x.term, .int .i64 x.index, .int .i64 x.logTerm, .int .i64 x.commit, .bool x.ok, .slice none 0 0, .slice none 0 0, .string ⟨#[]⟩, .bool false] := by rw [← hV3_7]; exact N3_0_7.set 7 _
    have bz3 : Below g3 w9 V3_7 := by rw [← hV3_7]; exact bz3.setCell (by show _ ≤ g3; omega) _
    have o3_8 := N3_0_8.cell (j := 8) rfl
    have f3_8 := N3_0_8.thaw 8
    obtain ⟨V3_8, hV3_8⟩ : ∃ V, V3_7.setCell ⟨g3, 8, none⟩ (.slice va5 x.ents.length vc5) = V := ⟨_, rfl⟩
    have N3_0_9 : BlockIs V3_8 (g3) 39 [.int .i64 x.kind, .int .i64 x.src, .int .i64 x.dst, .int .i64 x.term, .int .i64 x.index, .int .i64 x.logTerm, .int .i64 x.commit, .bool x.ok, .slice va5 x.ents.length vc5, .slice none 0 0, .string ⟨#[]⟩, .bool false] := by rw [← hV3_8]; exact N3_0_8.set 8 _
    have bz3 : Below g3 w9 V3_8 := by rw [← hV3_8]; exact bz3.setCell (by show _ ≤ g3; omega) _
    have o3_9 := N3_0_9.cell (j := 9) rfl
    have f3_9 := N3_0_9.thaw 9
    obtain ⟨V3_9, hV3_9⟩ : ∃ V, V3_8.setCell ⟨g3, 9, none⟩ (.slice vb5 x.conf.length vd5) = V := ⟨_, rfl⟩
    have N3_0_10 : BlockIs V3_9 (g3) 39 [.int .i64 x.kind, .int .i64 x.src, .int .i64 x.dst, .int .i64 x.term, .int .i64 x.index, .int .i64 x.logTerm, .int .i64 x.commit, .bool x.ok, .slice va5 x.ents.length vc5, .slice vb5 x.conf.length vd5, .string ⟨#[]⟩, .bool false] := by rw [← hV3_9]; exact N3_0_9.set 9 _
    have bz3 : Below g3 w9 V3_9 := by rw [← hV3_9]; exact bz3.setCell (by show _ ≤ g3; omega) _
    have o3_10 := N3_0_10.cell (j := 10) rfl
    have f3_10 := N3_0_10.thaw 10
    obtain ⟨V3_10, hV3_10⟩ : ∃ V, V3_9.setCell ⟨g3, 10, none⟩ (.string x.data) = V := ⟨_, rfl⟩
    have N3_0_11 : BlockIs V3_10 (g3) 39 [.int .i64 x.kind, .int .i64 x.src, .int .i64 x.dst, .int .i64 x.term, .int .i64 x.index, .int .i64 x.logTerm, .int .i64 x.commit, .bool x.ok, .slice va5 x.ents.length vc5, .slice vb5 x.conf.length vd5, .string x.data, .bool false] := by rw [← hV3_10]; exact N3_0_10.set 10 _
    have bz3 : Below g3 w9 V3_10 := by rw [← hV3_10]; exact bz3.setCell (by show _ ≤ g3; omega) _
    have o3_11 := N3_0_11.cell (j := 11) rfl
    have f3_11 := N3_0_11.thaw 11
    obtain ⟨V3_11, hV3_11⟩ : ∃ V, V3_10.setCell ⟨g3, 11, none⟩ (.bool x.last) = V := ⟨_, rfl⟩
    have N3_0_12 : BlockIs V3_11 (g3) 39 [.int .i64 x.kind, .int .i64 x.src, .int .i64 x.dst, .int .i64 x.term, .int .i64 x.index, .int .i64 x.logTerm, .int .i64 x.commit, .bool x.ok, .slice va5 x.ents.length vc5, .slice vb5 x.conf.length vd5, .string x.data, .bool x.last] := by rw [← hV3_11]; exact N3_0_11.set 11 _
    have bz3 : Below g3 w9 V3_11 := by rw [← hV3_11]; exact bz3.setCell (by show _ ≤ g3; omega) _
    have hN3_0 := hid N3_0_12
    have p3_0_0 := hN3_0.out.cell (j := 0) rfl
    have p3_0_1 := hN3_0.out.cell (j := 1) rfl
    have p3_0_2 := hN3_0.out.cell (j := 2) rfl
    have p3_0_3 := hN3_0.out.cell (j := 3) rfl
    have p3_0_4 := hN3_0.out.cell (j := 4) rfl
    have p3_0_5 := hN3_0.out.cell (j := 5) rfl
    have p3_0_6 := hN3_0.out.cell (j := 6) rfl
    have p3_0_7 := hN3_0.out.cell (j := 7) rfl
    have p3_0_8 := hN3_0.out.cell (j := 8) rfl
    have p3_0_9 := hN3_0.out.cell (j := 9) rfl
    have p3_0_10 := hN3_0.out.cell (j := 10) rfl
    have p3_0_11 := hN3_0.out.cell (j := 11) rfl
    have bzz3 : Below w9.heap.size w9 V3_11 := by have h := bz3; rw [← hg3] at h; exact h
    clear bz3 N3_0_0 N3_0_1 N3_0_2 N3_0_3 N3_0_4 N3_0_5 N3_0_6 N3_0_7 N3_0_8 N3_0_9 N3_0_10 N3_0_11 N3_0_12
    have ltx_3 : g2 < g3 := by rw [← hg3]; exact Xx_11.out.lt
    have lo3 : w.heap.size ≤ g3 := by rw [← hg3]; exact B_11.out.size
    have Zx := Xx_11.out.on bzz3 Xx_11.out.lt
    have zx0 := Zx.cell (j := 0) rfl
    have zx1 := Zx.cell (j := 1) rfl
    have zx2 := Zx.cell (j := 2) rfl
    have zx3 := Zx.cell (j := 3) rfl
    have zx4 := Zx.cell (j := 4) rfl
    have zx5 := Zx.cell (j := 5) rfl
    have zx6 := Zx.cell (j := 6) rfl
    have zx7 := Zx.cell (j := 7) rfl
    have zx8 := Zx.cell (j := 8) rfl
    have zx9 := Zx.cell (j := 9) rfl
    have zx10 := Zx.cell (j := 10) rfl
    have zx11 := Zx.cell (j := 11) rfl
    clear Zx
    go_wp2_with fail
    clear zx0 zx1 zx2 zx3 zx4 zx5 zx6 zx7 zx8 zx9 zx10 zx11
    clear o3_0 f3_0 o3_1 f3_1 o3_2 f3_2 o3_3 f3_3 o3_4 f3_4 o3_5 f3_5 o3_6 f3_6 o3_7 f3_7 o3_8 f3_8 o3_9 f3_9 o3_10 f3_10 o3_11 f3_11 p3_0_0 p3_0_1 p3_0_2 p3_0_3 p3_0_4 p3_0_5 p3_0_6 p3_0_7 p3_0_8 p3_0_9 p3_0_10 p3_0_11
    have Xx_12 : Hid (BlockIs V3_11 (g2) 39 [.int .i64 x.kind, .int .i64 x.src, .int .i64 x.dst, .int .i64 x.term, .int .i64 x.index, .int .i64 x.logTerm, .int .i64 x.commit, .bool x.ok, .slice va4 x.ents.length vc4, .slice vb4 x.conf.length vd4, .string x.data, .bool x.last]) := hid (Xx_11.out.on bzz3 Xx_11.out.lt)
    have Qx_12 : Hid (MRows V3_11 (w7.heap.size) va4 vc4 vb4 vd4 x) := hid (Qx_11.out.on bzz3)
    have B_12 : Hid (Below w.heap.size w V3_11) := hid (below_via B_11.out bzz3)
    clear Xx_11 Qx_11 B_11
    clear bzz3
    have Xp_12 := hN3_0
    refine Calls.mono (CT.out _ _ _ _ _ Qx_12.out.ents Qx_12.out.confs) ?_
    rintro e w10 ⟨rfl, b_s⟩
    have Xx_13 : Hid (BlockIs w10 (g2) 39 [.int .i64 x.kind, .int .i64 x.src, .int .i64 x.dst, .int .i64 x.term, .int .i64 x.index, .int .i64 x.logTerm, .int .i64 x.commit, .bool x.ok, .slice va4 x.ents.length vc4, .slice vb4 x.conf.length vd4, .string x.data, .bool x.last]) := hid (Xx_12.out.on b_s Xx_12.out.lt)
    have Xp_13 : Hid (BlockIs w10 (g3) 39 [.int .i64 x.kind, .int .i64 x.src, .int .i64 x.dst, .int .i64 x.term, .int .i64 x.index, .int .i64 x.logTerm, .int .i64 x.commit, .bool x.ok, .slice va5 x.ents.length vc5, .slice vb5 x.conf.length vd5, .string x.data, .bool x.last]) := hid (Xp_12.out.on b_s Xp_12.out.lt)
    have Qx_13 : Hid (MRows w10 (w7.heap.size) va4 vc4 vb4 vd4 x) := hid (Qx_12.out.on b_s)
    have B_13 : Hid (Below w.heap.size w w10) := hid (below_via B_12.out b_s)
    clear Xx_12 Xp_12 Qx_12 B_12
    clear b_s
    have hxx : (xb == xb) = true := by cases xb <;> rfl
    cases xb
    · skip
      go_wp2
      go_ret
      exact ⟨rfl, B_13.out⟩
    · skip
      have huq := HXU.out rfl
      subst huq
      have htt : (u.toList == u.toList) = true := by simp
      go_wp2
      go_ret
      exact ⟨rfl, B_13.out⟩
  · skip
    obtain ⟨rfl, rfl⟩ := HM.out rfl
    have CM := hid (sameMessage_same d2 va3 vb3 va vb vc3 vd3 vc vd HSM.out w5 Qb_7.out.ents Qb_7.out.confs Qm_7.out.ents Qm_7.out.confs)
    go_wp2_with fail
    refine Calls.mono CM.out ?_
    rintro e w6 ⟨rfl, b_s⟩
    clear CM
    have Xm_8 : Hid (BlockIs w6 (g0) 39 [.int .i64 d2.kind, .int .i64 d2.src, .int .i64 d2.dst, .int .i64 d2.term, .int .i64 d2.index, .int .i64 d2.logTerm, .int .i64 d2.commit, .bool d2.ok, .slice va d2.ents.length vc, .slice vb d2.conf.length vd, .string d2.data, .bool d2.last]) := hid (Xm_7.out.on b_s Xm_7.out.lt)
    have Xb_8 : Hid (BlockIs w6 (g1) 39 [.int .i64 d2.kind, .int .i64 d2.src, .int .i64 d2.dst, .int .i64 d2.term, .int .i64 d2.index, .int .i64 d2.logTerm, .int .i64 d2.commit, .bool d2.ok, .slice va3 d2.ents.length vc3, .slice vb3 d2.conf.length vd3, .string d2.data, .bool d2.last]) := hid (Xb_7.out.on b_s Xb_7.out.lt)
    have Qm_8 : Hid (MRows w6 (w.heap.size) va vc vb vd d2) := hid (Qm_7.out.on b_s)
    have Qb_8 : Hid (MRows w6 (w2.heap.size) va3 vc3 vb3 vd3 d2) := hid (Qb_7.out.on b_s)
    have B_8 : Hid (Below w.heap.size w w6) := hid (below_via B_7.out b_s)
    clear cm0_2 cm1_2 cm2_2 cm3_2 cm4_2 cm5_2 cm6_2 cm7_2 cm8_2 cm9_2 cm10_2 cm11_2 cb0_2 cb1_2 cb2_2 cb3_2 cb4_2 cb5_2 cb6_2 cb7_2 cb8_2 cb9_2 cb10_2 cb11_2
    clear Xm_7 Xb_7 Qm_7 Qb_7 B_7
    clear b_s
    clear HM HSM
    go_wp2_with fail
    refine (drawDecode_any ao len cap hlen hcap _ (bytes_on HBY.out B_8.out)).mono ?_
    rintro e w7 ⟨s, rfl, hs, b_s⟩
    have B_9 : Hid (Below w.heap.size w w7) := hid (below_via B_8.out b_s)
    clear B_8
    clear b_s
    obtain ⟨x, xb, hx1, hx2, hx3, u, uk, hxa, hxu⟩ := msg_asked s
    have CI := hid (fun W => implDecode_any s (by omega) W)
    have CP := hid (fun W => specDecode_any s (by omega) W)
    have CT' := fun W va vc vb vd h1 h2 => implEncode_any x va vc vb vd hx3 W h1 h2
    rw [hxa] at CT'
    have CT := hid CT'
    have HXU : Hid (xb = true → u = s) := (show _ → _ from hxu)
    clear CT' hxa hxu hs hx3
    go_wp2_with fail
    refine Calls.mono (CI.out _) ?_
    rintro e w8 hdd
    obtain ⟨va4, vc4, vb4, vd4, rfl, q4, b_s⟩ := dec_rows hdd
    rw [hx1] at q4 ⊢
    rw [hx2]
    clear hdd CI
    have B_10 : Hid (Below w.heap.size w w8) := hid (below_via B_9.out b_s)
    clear B_9
    clear b_s
    have Qx_10 : Hid (MRows w8 (w7.heap.size) va4 vc4 vb4 vd4 x) := hid q4
    clear q4
    obtain ⟨g2, hg2⟩ : ∃ g, w8.heap.size = g := ⟨_, rfl⟩
    obtain ⟨U2, hU2⟩ : ∃ V, (w8.alloc (.cells #[.int .i64 0, .int .i64 0, .int .i64 0, .int .i64 0, .int .i64 0, .int .i64 0, .int .i64 0, .bool false, .slice none 0 0, .slice none 0 0, .string ⟨#[]⟩, .bool false] 39)) = V := ⟨_, rfl⟩
    have bz2 : Below g2 w8 U2 := by rw [← hg2, ← hU2]; exact below_more (Below.refl w8.heap.size w8) (.cells #[.int .i64 0, .int .i64 0, .int .i64 0, .int .i64 0, .int .i64 0, .int .i64 0, .int .i64 0, .bool false, .slice none 0 0, .slice none 0 0, .string ⟨#[]⟩, .bool false] 39)
    have N2_0_0 : BlockIs U2 (g2) 39 [.int .i64 0, .int .i64 0, .int .i64 0, .int .i64 0, .int .i64 0, .int .i64 0, .int .i64 0, .bool false, .slice none 0 0, .slice none 0 0, .string ⟨#[]⟩, .bool false] := by rw [← hg2, ← hU2]; exact heap_alloc_new _ _
    have o2_0 := N2_0_0.cell (j := 0) rfl
    have f2_0 := N2_0_0.thaw 0
    obtain ⟨V2_0, hV2_0⟩ : ∃ V, U2.setCell ⟨g2, 0, none⟩ (.int .i64 x.kind) = V := ⟨_, rfl⟩
    have N2_0_1 : BlockIs V2_0 (g2) 39 [.int .i64 x.kind, .int .i64 0, .int .i64 0, .int .i64 0, .int .i64 0, .int .i64 0, .int .i64 0, .bool false, .slice none 0 0, .slice none 0 0, .string ⟨#[]⟩, .bool false] := by rw [← hV2_0]; exact N2_0_0.set 0 _
    have bz2 : Below g2 w8 V2_0 := by rw [← hV2_0]; exact bz2.setCell (by show _ ≤ g2; omega) _
    have o2_1 := N2_0_1.cell (j := 1) rfl
    have f2_1 := N2_0_1.thaw 1
    obtain ⟨V2_1, hV2_1⟩ : ∃ V, V2_0.setCell ⟨g2, 1, none⟩ (.int .i64 x.src) = V := ⟨_, rfl⟩
    have N2_0_2 : BlockIs V2_1 (g2) 39 [.int .i64 x.kind, .int .i64 x.src, .int .i64 0, .int .i64 0, .int .i64 0, .int .i64 0, .int .i64 0, .bool false, .slice none 0 0, .slice none 0 0, .string ⟨#[]⟩, .bool false] := by rw [← hV2_1]; exact N2_0_1.set 1 _
    have bz2 : Below g2 w8 V2_1 := by rw [← hV2_1]; exact bz2.setCell (by show _ ≤ g2; omega) _
    have o2_2 := N2_0_2.cell (j := 2) rfl
    have f2_2 := N2_0_2.thaw 2
    obtain ⟨V2_2, hV2_2⟩ : ∃ V, V2_1.setCell ⟨g2, 2, none⟩ (.int .i64 x.dst) = V := ⟨_, rfl⟩
    have N2_0_3 : BlockIs V2_2 (g2) 39 [.int .i64 x.kind, .int .i64 x.src, .int .i64 x.dst, .int .i64 0, .int .i64 0, .int .i64 0, .int .i64 0, .bool false, .slice none 0 0, .slice none 0 0, .string ⟨#[]⟩, .bool false] := by rw [← hV2_2]; exact N2_0_2.set 2 _
    have bz2 : Below g2 w8 V2_2 := by rw [← hV2_2]; exact bz2.setCell (by show _ ≤ g2; omega) _
    have o2_3 := N2_0_3.cell (j := 3) rfl
    have f2_3 := N2_0_3.thaw 3
    obtain ⟨V2_3, hV2_3⟩ : ∃ V, V2_2.setCell ⟨g2, 3, none⟩ (.int .i64 x.term) = V := ⟨_, rfl⟩
    have N2_0_4 : BlockIs V2_3 (g2) 39 [.int .i64 x.kind, .int .i64 x.src, .int .i64 x.dst, .int .i64 x.term, .int .i64 0, .int .i64 0, .int .i64 0, .bool false, .slice none 0 0, .slice none 0 0, .string ⟨#[]⟩, .bool false] := by rw [← hV2_3]; exact N2_0_3.set 3 _
    have bz2 : Below g2 w8 V2_3 := by rw [← hV2_3]; exact bz2.setCell (by show _ ≤ g2; omega) _
    have o2_4 := N2_0_4.cell (j := 4) rfl
    have f2_4 := N2_0_4.thaw 4
    obtain ⟨V2_4, hV2_4⟩ : ∃ V, V2_3.setCell ⟨g2, 4, none⟩ (.int .i64 x.index) = V := ⟨_, rfl⟩
    have N2_0_5 : BlockIs V2_4 (g2) 39 [.int .i64 x.kind, .int .i64 x.src, .int .i64 x.dst, .int .i64 x.term, .int .i64 x.index, .int .i64 0, .int .i64 0, .bool false, .slice none 0 0, .slice none 0 0, .string ⟨#[]⟩, .bool false] := by rw [← hV2_4]; exact N2_0_4.set 4 _
    have bz2 : Below g2 w8 V2_4 := by rw [← hV2_4]; exact bz2.setCell (by show _ ≤ g2; omega) _
    have o2_5 := N2_0_5.cell (j := 5) rfl
    have f2_5 := N2_0_5.thaw 5
    obtain ⟨V2_5, hV2_5⟩ : ∃ V, V2_4.setCell ⟨g2, 5, none⟩ (.int .i64 x.logTerm) = V := ⟨_, rfl⟩
    have N2_0_6 : BlockIs V2_5 (g2) 39 [.int .i64 x.kind, .int .i64 x.src, .int .i64 x.dst, .int .i64 x.term, .int .i64 x.index, .int .i64 x.logTerm, .int .i64 0, .bool false, .slice none 0 0, .slice none 0 0, .string ⟨#[]⟩, .bool false] := by rw [← hV2_5]; exact N2_0_5.set 5 _
    have bz2 : Below g2 w8 V2_5 := by rw [← hV2_5]; exact bz2.setCell (by show _ ≤ g2; omega) _
    have o2_6 := N2_0_6.cell (j := 6) rfl
    have f2_6 := N2_0_6.thaw 6
    obtain ⟨V2_6, hV2_6⟩ : ∃ V, V2_5.setCell ⟨g2, 6, none⟩ (.int .i64 x.commit) = V := ⟨_, rfl⟩
    have N2_0_7 : BlockIs V2_6 (g2) 39 [.int .i64 x.kind, .int .i64 x.src, .int .i64 x.dst, .int .i64 x.term, .int .i64 x.index, .int .i64 x.logTerm, .int .i64 x.commit, .bool false, .slice none 0 0, .slice none 0 0, .string ⟨#[]⟩, .bool false] := by rw [← hV2_6]; exact N2_0_6.set 6 _
    have bz2 : Below g2 w8 V2_6 := by rw [← hV2_6]; exact bz2.setCell (by show _ ≤ g2; omega) _
    have o2_7 := N2_0_7.cell (j := 7) rfl
    have f2_7 := N2_0_7.thaw 7
    obtain ⟨V2_7, hV2_7⟩ : ∃ V, V2_6.setCell ⟨g2, 7, none⟩ (.bool x.ok) = V := ⟨_, rfl⟩
    have N2_0_8 : BlockIs V2_7 (g2) 39 [.int .i64 x.kind, .int .i64 x.src, .int .i64 x.dst, .int .i64 x.term, .int .i64 x.index, .int .i64 x.logTerm, .int .i64 x.commit, .bool x.ok, .slice none 0 0, .slice none 0 0, .string ⟨#[]⟩, .bool false] := by rw [← hV2_7]; exact N2_0_7.set 7 _
    have bz2 : Below g2 w8 V2_7 := by rw [← hV2_7]; exact bz2.setCell (by show _ ≤ g2; omega) _
    have o2_8 := N2_0_8.cell (j := 8) rfl
    have f2_8 := N2_0_8.thaw 8
    obtain ⟨V2_8, hV2_8⟩ : ∃ V, V2_7.setCell ⟨g2, 8, none⟩ (.slice va4 x.ents.length vc4) = V := ⟨_, rfl⟩
    have N2_0_9 : BlockIs V2_8 (g2) 39 [.int .i64 x.kind, .int .i64 x.src, .int .i64 x.dst, .int .i64 x.term, .int .i64 x.index, .int .i64 x.logTerm, .int .i64 x.commit, .bool x.ok, .slice va4 x.ents.length vc4, .slice none 0 0, .string ⟨#[]⟩, .bool false] := by rw [← hV2_8]; exact N2_0_8.set 8 _
    have bz2 : Below g2 w8 V2_8 := by rw [← hV2_8]; exact bz2.setCell (by show _ ≤ g2; omega) _
    have o2_9 := N2_0_9.cell (j := 9) rfl
    have f2_9 := N2_0_9.thaw 9
    obtain ⟨V2_9, hV2_9⟩ : ∃ V, V2_8.setCell ⟨g2, 9, none⟩ (.slice vb4 x.conf.length vd4) = V := ⟨_, rfl⟩
    have N2_0_10 : BlockIs V2_9 (g2) 39 [.int .i64 x.kind, .int .i64 x.src, .int .i64 x.dst, .int .i64 x.term, .int .i64 x.index, .int .i64 x.logTerm, .int .i64 x.commit, .bool x.ok, .slice va4 x.ents.length vc4, .slice vb4 x.conf.length vd4, .string ⟨#[]⟩, .bool false] := by rw [← hV2_9]; exact N2_0_9.set 9 _
    have bz2 : Below g2 w8 V2_9 := by rw [← hV2_9]; exact bz2.setCell (by show _ ≤ g2; omega) _
    have o2_10 := N2_0_10.cell (j := 10) rfl
    have f2_10 := N2_0_10.thaw 10
    obtain ⟨V2_10, hV2_10⟩ : ∃ V, V2_9.setCell ⟨g2, 10, none⟩ (.string x.data) = V := ⟨_, rfl⟩
    have N2_0_11 : BlockIs V2_10 (g2) 39 [.int .i64 x.kind, .int .i64 x.src, .int .i64 x.dst, .int .i64 x.term, .int .i64 x.index, .int .i64 x.logTerm, .int .i64 x.commit, .bool x.ok, .slice va4 x.ents.length vc4, .slice vb4 x.conf.length vd4, .string x.data, .bool false] := by rw [← hV2_10]; exact N2_0_10.set 10 _
    have bz2 : Below g2 w8 V2_10 := by rw [← hV2_10]; exact bz2.setCell (by show _ ≤ g2; omega) _
    have o2_11 := N2_0_11.cell (j := 11) rfl
    have f2_11 := N2_0_11.thaw 11
    obtain ⟨V2_11, hV2_11⟩ : ∃ V, V2_10.setCell ⟨g2, 11, none⟩ (.bool x.last) = V := ⟨_, rfl⟩
    have N2_0_12 : BlockIs V2_11 (g2) 39 [.int .i64 x.kind, .int .i64 x.src, .int .i64 x.dst, .int .i64 x.term, .int .i64 x.index, .int .i64 x.logTerm, .int .i64 x.commit, .bool x.ok, .slice va4 x.ents.length vc4, .slice vb4 x.conf.length vd4, .string x.data, .bool x.last] := by rw [← hV2_11]; exact N2_0_11.set 11 _
    have bz2 : Below g2 w8 V2_11 := by rw [← hV2_11]; exact bz2.setCell (by show _ ≤ g2; omega) _
    have hN2_0 := hid N2_0_12
    have p2_0_0 := hN2_0.out.cell (j := 0) rfl
    have p2_0_1 := hN2_0.out.cell (j := 1) rfl
    have p2_0_2 := hN2_0.out.cell (j := 2) rfl
    have p2_0_3 := hN2_0.out.cell (j := 3) rfl
    have p2_0_4 := hN2_0.out.cell (j := 4) rfl
    have p2_0_5 := hN2_0.out.cell (j := 5) rfl
    have p2_0_6 := hN2_0.out.cell (j := 6) rfl
    have p2_0_7 := hN2_0.out.cell (j := 7) rfl
    have p2_0_8 := hN2_0.out.cell (j := 8) rfl
    have p2_0_9 := hN2_0.out.cell (j := 9) rfl
    have p2_0_10 := hN2_0.out.cell (j := 10) rfl
    have p2_0_11 := hN2_0.out.cell (j := 11) rfl
    have bzz2 : Below w8.heap.size w8 V2_11 := by have h := bz2; rw [← hg2] at h; exact h
    clear bz2 N2_0_0 N2_0_1 N2_0_2 N2_0_3 N2_0_4 N2_0_5 N2_0_6 N2_0_7 N2_0_8 N2_0_9 N2_0_10 N2_0_11 N2_0_12
    have lo2 : w.heap.size ≤ g2 := by rw [← hg2]; exact B_10.out.size
    go_wp2_with fail
    clear o2_0 f2_0 o2_1 f2_1 o2_2 f2_2 o2_3 f2_3 o2_4 f2_4 o2_5 f2_5 o2_6 f2_6 o2_7 f2_7 o2_8 f2_8 o2_9 f2_9 o2_10 f2_10 o2_11 f2_11 p2_0_0 p2_0_1 p2_0_2 p2_0_3 p2_0_4 p2_0_5 p2_0_6 p2_0_7 p2_0_8 p2_0_9 p2_0_10 p2_0_11
    have Qx_11 : Hid (MRows V2_11 (w7.heap.size) va4 vc4 vb4 vd4 x) := hid (Qx_10.out.on bzz2)
    have B_11 : Hid (Below w.heap.size w V2_11) := hid (below_via B_10.out bzz2)
    clear Qx_10 B_10
    clear bzz2
    have Xx_11 := hN2_0
    refine Calls.mono (CP.out _) ?_
    rintro e w9 hdd
    obtain ⟨va5, vc5, vb5, vd5, rfl, q5, b_s⟩ := dec_rows hdd
    rw [hx1]
    rw [hx2]
    clear hdd CP q5 hx1 hx2
    have Xx_12 : Hid (BlockIs w9 (g2) 39 [.int .i64 x.kind, .int .i64 x.src, .int .i64 x.dst, .int .i64 x.term, .int .i64 x.index, .int .i64 x.logTerm, .int .i64 x.commit, .bool x.ok, .slice va4 x.ents.length vc4, .slice vb4 x.conf.length vd4, .string x.data, .bool x.last]) := hid (Xx_11.out.on b_s Xx_11.out.lt)
    have Qx_12 : Hid (MRows w9 (w7.heap.size) va4 vc4 vb4 vd4 x) := hid (Qx_11.out.on b_s)
    have B_12 : Hid (Below w.heap.size w w9) := hid (below_via B_11.out b_s)
    clear Xx_11 Qx_11 B_11
    clear b_s
    obtain ⟨g3, hg3⟩ : ∃ g, w9.heap.size = g := ⟨_, rfl⟩
    obtain ⟨U3, hU3⟩ : ∃ V, (w9.alloc (.cells #[.int .i64 0, .int .i64 0, .int .i64 0, .int .i64 0, .int .i64 0, .int .i64 0, .int .i64 0, .bool false, .slice none 0 0, .slice none 0 0, .string ⟨#[]⟩, .bool false] 39)) = V := ⟨_, rfl⟩
    have bz3 : Below g3 w9 U3 := by rw [← hg3, ← hU3]; exact below_more (Below.refl w9.heap.size w9) (.cells #[.int .i64 0, .int .i64 0, .int .i64 0, .int .i64 0, .int .i64 0, .int .i64 0, .int .i64 0, .bool false, .slice none 0 0, .slice none 0 0, .string ⟨#[]⟩, .bool false] 39)
    have N3_0_0 : BlockIs U3 (g3) 39 [.int .i64 0, .int .i64 0, .int .i64 0, .int .i64 0, .int .i64 0, .int .i64 0, .int .i64 0, .bool false, .slice none 0 0, .slice none 0 0, .string ⟨#[]⟩, .bool false] := by rw [← hg3, ← hU3]; exact heap_alloc_new _ _
    have o3_0 := N3_0_0.cell (j := 0) rfl
    have f3_0 := N3_0_0.thaw 0
    obtain ⟨V3_0, hV3_0⟩ : ∃ V, U3.setCell ⟨g3, 0, none⟩ (.int .i64 x.kind) = V := ⟨_, rfl⟩
    have N3_0_1 : BlockIs V3_0 (g3) 39 [.int .i64 x.kind, .int .i64 0, .int .i64 0, .int .i64 0, .int .i64 0, .int .i64 0, .int .i64 0, .bool false, .slice none 0 0, .slice none 0 0, .string ⟨#[]⟩, .bool false] := by rw [← hV3_0]; exact N3_0_0.set 0 _
    have bz3 : Below g3 w9 V3_0 := by rw [← hV3_0]; exact bz3.setCell (by show _ ≤ g3; omega) _
    have o3_1 := N3_0_1.cell (j := 1) rfl
    have f3_1 := N3_0_1.thaw 1
    obtain ⟨V3_1, hV3_1⟩ : ∃ V, V3_0.setCell ⟨g3, 1, none⟩ (.int .i64 x.src) = V := ⟨_, rfl⟩
    have N3_0_2 : BlockIs V3_1 (g3) 39 [.int .i64 x.kind, .int .i64 x.src, .int .i64 0, .int .i64 0, .int .i64 0, .int .i64 0, .int .i64 0, .bool false, .slice none 0 0, .slice none 0 0, .string ⟨#[]⟩, .bool false] := by rw [← hV3_1]; exact N3_0_1.set 1 _
    have bz3 : Below g3 w9 V3_1 := by rw [← hV3_1]; exact bz3.setCell (by show _ ≤ g3; omega) _
    have o3_2 := N3_0_2.cell (j := 2) rfl
    have f3_2 := N3_0_2.thaw 2
    obtain ⟨V3_2, hV3_2⟩ : ∃ V, V3_1.setCell ⟨g3, 2, none⟩ (.int .i64 x.dst) = V := ⟨_, rfl⟩
    have N3_0_3 : BlockIs V3_2 (g3) 39 [.int .i64 x.kind, .int .i64 x.src, .int .i64 x.dst, .int .i64 0, .int .i64 0, .int .i64 0, .int .i64 0, .bool false, .slice none 0 0, .slice none 0 0, .string ⟨#[]⟩, .bool false] := by rw [← hV3_2]; exact N3_0_2.set 2 _
    have bz3 : Below g3 w9 V3_2 := by rw [← hV3_2]; exact bz3.setCell (by show _ ≤ g3; omega) _
    have o3_3 := N3_0_3.cell (j := 3) rfl
    have f3_3 := N3_0_3.thaw 3
    obtain ⟨V3_3, hV3_3⟩ : ∃ V, V3_2.setCell ⟨g3, 3, none⟩ (.int .i64 x.term) = V := ⟨_, rfl⟩
    have N3_0_4 : BlockIs V3_3 (g3) 39 [.int .i64 x.kind, .int .i64 x.src, .int .i64 x.dst, .int .i64 x.term, .int .i64 0, .int .i64 0, .int .i64 0, .bool false, .slice none 0 0, .slice none 0 0, .string ⟨#[]⟩, .bool false] := by rw [← hV3_3]; exact N3_0_3.set 3 _
    have bz3 : Below g3 w9 V3_3 := by rw [← hV3_3]; exact bz3.setCell (by show _ ≤ g3; omega) _
    have o3_4 := N3_0_4.cell (j := 4) rfl
    have f3_4 := N3_0_4.thaw 4
    obtain ⟨V3_4, hV3_4⟩ : ∃ V, V3_3.setCell ⟨g3, 4, none⟩ (.int .i64 x.index) = V := ⟨_, rfl⟩
    have N3_0_5 : BlockIs V3_4 (g3) 39 [.int .i64 x.kind, .int .i64 x.src, .int .i64 x.dst, .int .i64 x.term, .int .i64 x.index, .int .i64 0, .int .i64 0, .bool false, .slice none 0 0, .slice none 0 0, .string ⟨#[]⟩, .bool false] := by rw [← hV3_4]; exact N3_0_4.set 4 _
    have bz3 : Below g3 w9 V3_4 := by rw [← hV3_4]; exact bz3.setCell (by show _ ≤ g3; omega) _
    have o3_5 := N3_0_5.cell (j := 5) rfl
    have f3_5 := N3_0_5.thaw 5
    obtain ⟨V3_5, hV3_5⟩ : ∃ V, V3_4.setCell ⟨g3, 5, none⟩ (.int .i64 x.logTerm) = V := ⟨_, rfl⟩
    have N3_0_6 : BlockIs V3_5 (g3) 39 [.int .i64 x.kind, .int .i64 x.src, .int .i64 x.dst, .int .i64 x.term, .int .i64 x.index, .int .i64 x.logTerm, .int .i64 0, .bool false, .slice none 0 0, .slice none 0 0, .string ⟨#[]⟩, .bool false] := by rw [← hV3_5]; exact N3_0_5.set 5 _
    have bz3 : Below g3 w9 V3_5 := by rw [← hV3_5]; exact bz3.setCell (by show _ ≤ g3; omega) _
    have o3_6 := N3_0_6.cell (j := 6) rfl
    have f3_6 := N3_0_6.thaw 6
    obtain ⟨V3_6, hV3_6⟩ : ∃ V, V3_5.setCell ⟨g3, 6, none⟩ (.int .i64 x.commit) = V := ⟨_, rfl⟩
    have N3_0_7 : BlockIs V3_6 (g3) 39 [.int .i64 x.kind, .int .i64 x.src, .int .i64 x.dst, .int .i64 x.term, .int .i64 x.index, .int .i64 x.logTerm, .int .i64 x.commit, .bool false, .slice none 0 0, .slice none 0 0, .string ⟨#[]⟩, .bool false] := by rw [← hV3_6]; exact N3_0_6.set 6 _
    have bz3 : Below g3 w9 V3_6 := by rw [← hV3_6]; exact bz3.setCell (by show _ ≤ g3; omega) _
    have o3_7 := N3_0_7.cell (j := 7) rfl
    have f3_7 := N3_0_7.thaw 7
    obtain ⟨V3_7, hV3_7⟩ : ∃ V, V3_6.setCell ⟨g3, 7, none⟩ (.bool x.ok) = V := ⟨_, rfl⟩
    have N3_0_8 : BlockIs V3_7 (g3) 39 [.int .i64 x.kind, .int .i64 x.src, .int .i64 x.dst, .int .i64 x.term, .int .i64 x.index, .int .i64 x.logTerm, .int .i64 x.commit, .bool x.ok, .slice none 0 0, .slice none 0 0, .string ⟨#[]⟩, .bool false] := by rw [← hV3_7]; exact N3_0_7.set 7 _
    have bz3 : Below g3 w9 V3_7 := by rw [← hV3_7]; exact bz3.setCell (by show _ ≤ g3; omega) _
    have o3_8 := N3_0_8.cell (j := 8) rfl
    have f3_8 := N3_0_8.thaw 8
    obtain ⟨V3_8, hV3_8⟩ : ∃ V, V3_7.setCell ⟨g3, 8, none⟩ (.slice va5 x.ents.length vc5) = V := ⟨_, rfl⟩
    have N3_0_9 : BlockIs V3_8 (g3) 39 [.int .i64 x.kind, .int .i64 x.src, .int .i64 x.dst, .int .i64 x.term, .int .i64 x.index, .int .i64 x.logTerm, .int .i64 x.commit, .bool x.ok, .slice va5 x.ents.length vc5, .slice none 0 0, .string ⟨#[]⟩, .bool false] := by rw [← hV3_8]; exact N3_0_8.set 8 _
    have bz3 : Below g3 w9 V3_8 := by rw [← hV3_8]; exact bz3.setCell (by show _ ≤ g3; omega) _
    have o3_9 := N3_0_9.cell (j := 9) rfl
    have f3_9 := N3_0_9.thaw 9
    obtain ⟨V3_9, hV3_9⟩ : ∃ V, V3_8.setCell ⟨g3, 9, none⟩ (.slice vb5 x.conf.length vd5) = V := ⟨_, rfl⟩
    have N3_0_10 : BlockIs V3_9 (g3) 39 [.int .i64 x.kind, .int .i64 x.src, .int .i64 x.dst, .int .i64 x.term, .int .i64 x.index, .int .i64 x.logTerm, .int .i64 x.commit, .bool x.ok, .slice va5 x.ents.length vc5, .slice vb5 x.conf.length vd5, .string ⟨#[]⟩, .bool false] := by rw [← hV3_9]; exact N3_0_9.set 9 _
    have bz3 : Below g3 w9 V3_9 := by rw [← hV3_9]; exact bz3.setCell (by show _ ≤ g3; omega) _
    have o3_10 := N3_0_10.cell (j := 10) rfl
    have f3_10 := N3_0_10.thaw 10
    obtain ⟨V3_10, hV3_10⟩ : ∃ V, V3_9.setCell ⟨g3, 10, none⟩ (.string x.data) = V := ⟨_, rfl⟩
    have N3_0_11 : BlockIs V3_10 (g3) 39 [.int .i64 x.kind, .int .i64 x.src, .int .i64 x.dst, .int .i64 x.term, .int .i64 x.index, .int .i64 x.logTerm, .int .i64 x.commit, .bool x.ok, .slice va5 x.ents.length vc5, .slice vb5 x.conf.length vd5, .string x.data, .bool false] := by rw [← hV3_10]; exact N3_0_10.set 10 _
    have bz3 : Below g3 w9 V3_10 := by rw [← hV3_10]; exact bz3.setCell (by show _ ≤ g3; omega) _
    have o3_11 := N3_0_11.cell (j := 11) rfl
    have f3_11 := N3_0_11.thaw 11
    obtain ⟨V3_11, hV3_11⟩ : ∃ V, V3_10.setCell ⟨g3, 11, none⟩ (.bool x.last) = V := ⟨_, rfl⟩
    have N3_0_12 : BlockIs V3_11 (g3) 39 [.int .i64 x.kind, .int .i64 x.src, .int .i64 x.dst, .int .i64 x.term, .int .i64 x.index, .int .i64 x.logTerm, .int .i64 x.commit, .bool x.ok, .slice va5 x.ents.length vc5, .slice vb5 x.conf.length vd5, .string x.data, .bool x.last] := by rw [← hV3_11]; exact N3_0_11.set 11 _
    have bz3 : Below g3 w9 V3_11 := by rw [← hV3_11]; exact bz3.setCell (by show _ ≤ g3; omega) _
    have hN3_0 := hid N3_0_12
    have p3_0_0 := hN3_0.out.cell (j := 0) rfl
    have p3_0_1 := hN3_0.out.cell (j := 1) rfl
    have p3_0_2 := hN3_0.out.cell (j := 2) rfl
    have p3_0_3 := hN3_0.out.cell (j := 3) rfl
    have p3_0_4 := hN3_0.out.cell (j := 4) rfl
    have p3_0_5 := hN3_0.out.cell (j := 5) rfl
    have p3_0_6 := hN3_0.out.cell (j := 6) rfl
    have p3_0_7 := hN3_0.out.cell (j := 7) rfl
    have p3_0_8 := hN3_0.out.cell (j := 8) rfl
    have p3_0_9 := hN3_0.out.cell (j := 9) rfl
    have p3_0_10 := hN3_0.out.cell (j := 10) rfl
    have p3_0_11 := hN3_0.out.cell (j := 11) rfl
    have bzz3 : Below w9.heap.size w9 V3_11 := by have h := bz3; rw [← hg3] at h; exact h
    clear bz3 N3_0_0 N3_0_1 N3_0_2 N3_0_3 N3_0_4 N3_0_5 N3_0_6 N3_0_7 N3_0_8 N3_0_9 N3_0_10 N3_0_11 N3_0_12
    have ltx_3 : g2 < g3 := by rw [← hg3]; exact Xx_12.out.lt
    have lo3 : w.heap.size ≤ g3 := by rw [← hg3]; exact B_12.out.size
    have Zx := Xx_12.out.on bzz3 Xx_12.out.lt
    have zx0 := Zx.cell (j := 0) rfl
    have zx1 := Zx.cell (j := 1) rfl
    have zx2 := Zx.cell (j := 2) rfl
    have zx3 := Zx.cell (j := 3) rfl
    have zx4 := Zx.cell (j := 4) rfl
    have zx5 := Zx.cell (j := 5) rfl
    have zx6 := Zx.cell (j := 6) rfl
    have zx7 := Zx.cell (j := 7) rfl
    have zx8 := Zx.cell (j := 8) rfl
    have zx9 := Zx.cell (j := 9) rfl
    have zx10 := Zx.cell (j := 10) rfl
    have zx11 := Zx.cell (j := 11) rfl
    clear Zx
    go_wp2_with fail
    clear zx0 zx1 zx2 zx3 zx4 zx5 zx6 zx7 zx8 zx9 zx10 zx11
    clear o3_0 f3_0 o3_1 f3_1 o3_2 f3_2 o3_3 f3_3 o3_4 f3_4 o3_5 f3_5 o3_6 f3_6 o3_7 f3_7 o3_8 f3_8 o3_9 f3_9 o3_10 f3_10 o3_11 f3_11 p3_0_0 p3_0_1 p3_0_2 p3_0_3 p3_0_4 p3_0_5 p3_0_6 p3_0_7 p3_0_8 p3_0_9 p3_0_10 p3_0_11
    have Xx_13 : Hid (BlockIs V3_11 (g2) 39 [.int .i64 x.kind, .int .i64 x.src, .int .i64 x.dst, .int .i64 x.term, .int .i64 x.index, .int .i64 x.logTerm, .int .i64 x.commit, .bool x.ok, .slice va4 x.ents.length vc4, .slice vb4 x.conf.length vd4, .string x.data, .bool x.last]) := hid (Xx_12.out.on bzz3 Xx_12.out.lt)
    have Qx_13 : Hid (MRows V3_11 (w7.heap.size) va4 vc4 vb4 vd4 x) := hid (Qx_12.out.on bzz3)
    have B_13 : Hid (Below w.heap.size w V3_11) := hid (below_via B_12.out bzz3)
    clear Xx_12 Qx_12 B_12
    clear bzz3
    have Xp_13 := hN3_0
    refine Calls.mono (CT.out _ _ _ _ _ Qx_13.out.ents Qx_13.out.confs) ?_
    rintro e w10 ⟨rfl, b_s⟩
    have Xx_14 : Hid (BlockIs w10 (g2) 39 [.int .i64 x.kind, .int .i64 x.src, .int .i64 x.dst, .int .i64 x.term, .int .i64 x.index, .int .i64 x.logTerm, .int .i64 x.commit, .bool x.ok, .slice va4 x.ents.length vc4, .slice vb4 x.conf.length vd4, .string x.data, .bool x.last]) := hid (Xx_13.out.on b_s Xx_13.out.lt)
    have Xp_14 : Hid (BlockIs w10 (g3) 39 [.int .i64 x.kind, .int .i64 x.src, .int .i64 x.dst, .int .i64 x.term, .int .i64 x.index, .int .i64 x.logTerm, .int .i64 x.commit, .bool x.ok, .slice va5 x.ents.length vc5, .slice vb5 x.conf.length vd5, .string x.data, .bool x.last]) := hid (Xp_13.out.on b_s Xp_13.out.lt)
    have Qx_14 : Hid (MRows w10 (w7.heap.size) va4 vc4 vb4 vd4 x) := hid (Qx_13.out.on b_s)
    have B_14 : Hid (Below w.heap.size w w10) := hid (below_via B_13.out b_s)
    clear Xx_13 Xp_13 Qx_13 B_13
    clear b_s
    have hxx : (xb == xb) = true := by cases xb <;> rfl
    cases xb
    · skip
      go_wp2
      go_ret
      exact ⟨rfl, B_14.out⟩
    · skip
      have huq := HXU.out rfl
      subst huq
      have htt : (u.toList == u.toList) = true := by simp
      go_wp2
      go_ret
      exact ⟨rfl, B_14.out⟩

theorem own : ownKnob Tryz.prog.godebug = none := by kernel_rfl
theorem laidOut : laidOutB Tryz.prog = true := by kernel_rfl
theorem rowed : varsRowed Tryz.prog Rows.fnMessagesSpec.vars = true := by kernel_rfl
set_option maxRecDepth 1000000 in
theorem contract (H : Type) (enc : TypeId × Value → H) (W : World) (base : Nat) (args : Array Value) (ds gs : List (DataW H)) (before : List MemPlace)
    (hval : ∀ (j : Nat) t v, Tryz.f4.params[j]? = some t → args[j]? = some v → Value.okWide Tryz.prog W .any base t v)
    (hW : DataW.Whole enc Tryz.prog Tryz.f4.params.toList Rows.fnMessagesSpec.vars false W args.toList ds gs before) (_hL : laidMetH Tryz.prog Rows.fnMessagesRow.laid W) :
    Calls Tryz.prog 4 args W fun e W' => ∃ v, e = .returned v ∧ Rows.fnMessagesSpec.post enc Tryz.prog Tryz.f4 false true false false W args v W' := by
  have hW' := hW
  obtain ⟨p, q, hA0, hV0, rfl, hfz, hnd⟩ := hW
  have hV : DataW.TrodVars enc Tryz.prog W (fun _ => true) Rows.fnMessagesSpec.vars gs q := hV0
  have hA : DataW.TrodAll enc Tryz.prog W 0 (fun _ => true) true Tryz.f4.params.toList args.toList ds p := hA0
  rw [Tryz.params4] at hA hval
  obtain ⟨v0, vs0, d0, ds0, p0, q0, hargs0, rfl, rfl, h0, r0⟩ := trodAll_cons hA
  obtain ⟨rfl, rfl, rfl⟩ := trodAll_nil r0
  obtain rfl : args = #[v0] := by cases args; simp_all
  obtain ⟨a0, len0, cap0, rfl⟩ := okWide_slice Tryz.underlying22 (hval 0 22 v0 rfl rfl)
  have k0 := h0
  have lt0 : ∀ x ∈ p0, x.block < W.heap.size := by obtain ⟨m, hm⟩ := k0; exact DataW.trod_lt m _ _ _ hm
  have hb0 : len0 ≤ cap0 ∧ Bytes W a0 len0 := by
    obtain ⟨fuel, hf⟩ := h0
    rcases open_ints Tryz.underlying22 Tryz.underlying5 (by kernel_rfl) hf with ⟨hcs, _⟩ | ⟨x, l, c, zs, hcs, _, hl, hm, hz, _, hcell, hwz⟩
    · simp [Value.cells] at hcs
      obtain ⟨rfl, rfl, rfl⟩ := hcs
      exact ⟨Nat.le_refl _, fun h => by omega⟩
    · simp [Value.cells] at hcs
      obtain ⟨rfl, rfl, rfl⟩ := hcs
      refine ⟨hl, fun hp => ?_⟩
      have hzl : zs.length = cap0 := by simpa using hz
      obtain ⟨b, off, rfl, hc⟩ := ints_at hcell (by omega)
      refine ⟨b, off, rfl, fun j hj => ?_⟩
      have hjz : j < zs.length := by omega
      have hb8 := bounds_u8 (hwz (zs.getD j 0) (by simp [List.getD, hjz]))
      exact ⟨zs.getD j 0, hb8.1, hb8.2, hc j hjz⟩
  clear hA0 hV0
  obtain ⟨rfl, rfl⟩ := trodVars_none hV
  refine (walk a0 len0 cap0 hb0.1 W hb0.2).mono fun e W' ⟨he, bel⟩ => ?_
  subst he
  exact ⟨_, rfl, _, _, _, [], _, [], hW', trodAll_mk1 (shut_bool Tryz.underlying4 _), trodAll_cons_mk (Below.trod laidOut (by kernel_rfl) (of_decide_eq_true (by kernel_rfl)) k0 bel lt0) (trodAll_mk0), rfl, bel.frame _, fun h => by cases h⟩

def put (cs : Array Value) : Obj → Obj
  | .cells _ t frozen => .cells cs t frozen
  | o => o

/-- a world for the witness: the tables hold what their initialisers lay -/
def laidWorld (w : World) : World := { w with heap := (w.heap.modify 0 (put #[.iface 261 (.pointer (some ⟨9, 0, none⟩))])) }
theorem laid_met (os : Os) : laidMet Tryz.prog Rows.fnMessagesRow.laid ((laidWorld (World.holding Tryz.prog os ⟨#[.cells #[.string { data := #[98, 121, 116, 101, 115, 46, 66, 117, 102, 102, 101, 114, 58, 32, 116, 111, 111, 32, 108, 97, 114, 103, 101] }] 276], #[], []⟩)).forCall (fun _ _ => 0) ⟨#[], #[.slice none 0 0], []⟩).memory :=
  laidMet_of_run' 8 (by kernel_rfl) (by kernel_rfl)
theorem reads (os : Os) {H : Type} (enc : TypeId × Value → H) : ∃ places, DataW.whole enc Tryz.prog ((laidWorld (World.holding Tryz.prog os ⟨#[.cells #[.string { data := #[98, 121, 116, 101, 115, 46, 66, 117, 102, 102, 101, 114, 58, 32, 116, 111, 111, 32, 108, 97, 114, 103, 101] }] 276], #[], []⟩)).forCall (fun _ _ => 0) ⟨#[], #[.slice none 0 0], []⟩).memory Tryz.f4.params.toList Rows.fnMessagesSpec.vars false #[Value.slice none 0 0].toList 8 = some ([.nil], [], places) :=
  ⟨[], by kernel_rfl⟩

set_option maxRecDepth 1000000 in
theorem lifted (os : Os) (started : os.Started) (H : Type) (enc : TypeId × Value → H) (F : Stop.Interp) :
    ReturnsInHanded {} Tryz.checked os 4 .any ((OpenSpec.ofChange Rows.fnMessagesSpec).preRow enc Tryz.prog Tryz.f4 Rows.fnMessagesRow.domain false Rows.fnMessagesRow.laid) (((OpenSpec.ofChange Rows.fnMessagesSpec).at F).post enc Tryz.prog Tryz.f4 false true false false) := by
  obtain ⟨places, hx⟩ := reads os enc
  refine returnsInHanded_of_row (C := Tryz.checked) (s := OpenSpec.ofChange Rows.fnMessagesSpec) own started (by kernel_rfl) Tryz.func4
    (witness_row_at (enc := enc) (C := Tryz.checked) false (laidWorld (World.holding Tryz.prog os ⟨#[.cells #[.string { data := #[98, 121, 116, 101, 115, 46, 66, 117, 102, 102, 101, 114, 58, 32, 116, 111, 111, 32, 108, 97, 114, 103, 101] }] 276], #[], []⟩)) #[.slice none 0 0] rfl (by kernel_rfl) (by kernel_rfl) (by kernel_rfl)
      (OpenSpec.preRow_of_cond 8 hx (by kernel_rfl) (fun k hk => by cases hk) (by kernel_rfl) (laid_met os))) ?_
  intro W base args ds gs before hval hW _ _ _ hL _ _
  exact contract H enc W base args ds gs before hval hW hL

theorem said : Rows.FnMessagesSaid :=
  OpenClaim.holds_of_cond 4 Tryz.f4 rfl rfl rfl rfl rfl rfl rfl ⟨rfl, rfl, rfl, rfl, rfl⟩ rfl rfl rfl rfl rfl (by kernel_rfl) Tryz.func4 (by kernel_rfl)
    (of_decide_eq_true (by kernel_rfl)) (by unfold Func.isWrapper; first | (rw [if_pos (by decide +kernel)]; kernel_rfl) | (rw [if_neg (by decide +kernel)]; exact ⟨rfl, rfl⟩))
    (fun os started H enc _ F => by rw [OpenClaim.pre_eq_preRow]; exact lifted os started H enc F)

theorem plain (f : FuncId) (fn : Func) (hf : Tryz.pinned.checked.prog.funcNamed "loop.example/g00232/laws.FnMessages" = some f) (hfn : Tryz.pinned.checked.prog.funcs[f]? = some fn) :
    true = Tryz.pinned.checked.prog.looks [] ∧ ∀ (j : Nat) t, fn.params[j]? = some t → Tryz.pinned.checked.prog.wantsStandIn t = false := by
  obtain rfl : f = 4 := Option.some.inj ((show Tryz.prog.funcNamed "loop.example/g00232/laws.FnMessages" = some 4 by kernel_rfl).symm.trans hf) |>.symm
  obtain rfl : fn = Tryz.f4 := (Option.some.inj (Tryz.func4.symm.trans hfn)).symm
  refine ⟨by kernel_rfl, fun j t ht => ?_⟩
  rw [Tryz.params4] at ht
  obtain rfl : t = 22 := by simpa using Array.mem_of_getElem? ht
  exact (show Tryz.prog.wantsStandIn 22 = false by kernel_rfl)

theorem card : Rows.FnMessagesCardSaid :=
  Claim7.holds_tied_plain_at .later [] _ _ _ _ said (fun _ h => by cases h) (by kernel_rfl) (fun _ h => by cases h) fnMessages_row_tie rfl ⟨rfl, rfl⟩ (by kernel_rfl) rfl plain (by kernel_rfl)
end Go.Proofs.YtohmfmajgehadaaGreatDoor.fnMessages
