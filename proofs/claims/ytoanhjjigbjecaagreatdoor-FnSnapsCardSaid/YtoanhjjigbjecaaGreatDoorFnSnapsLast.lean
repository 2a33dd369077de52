/-
  For every slice of bytes, laws.FnSnaps returns true: a drawn right snapshot comes back from its text; its acts leave it as the newest, and no other one; nothing that was in memory is written. The tables that impl and the library read are tied to the program's text (the card).
-/
import Derived.Test.YtoanhjjigbjecaaGreatDoorCards
import Derived.Test.YtoanhjjigbjecaaGreatDoorTie
import Derived.Test.YtoanhjjigbjecaaGreatDoorJoint26
import Derived.Test.YtoanhjjigbjecaaGreatDoorJoint25
import Derived.Test.YtoanhjjigbjecaaGreatDoorJoint29
import Derived.Test.YtoanhjjigbjecaaGreatDoorJoint44
import Derived.Test.YtoanhjjigbjecaaGreatDoorJoint49
import Derived.Test.YtoanhjjigbjecaaGreatDoorJoint50
import Derived.Test.YtoanhjjigbjecaaGreatDoorJoint38
import Derived.Test.YtoanhjjigbjecaaGreatDoorJoint35
import Derived.Test.YtoanhjjigbjecaaGreatDoorJoint48
import Derived.Test.YtoanhjjigbjecaaGreatDoorJoint17
import Derived.Deep.QuietTactic
import Derived.BigQuiet
import Derived.WalkSmall
import Derived.WalkKit
import Derived.ProofKit
import Derived.OpenShut
import Derived.OpenVars
import Derived.Deep.DeepHandedRow
import Derived.Lib.LaidTab
import Derived.Stop.LaidErr
namespace Go.Proofs.YtoanhjjigbjecaaGreatDoor.fnSnaps
open Go.ChangeShapes Go.WideShapes Go.ChangeAt Go.ChangeMaps Go.RowKit

set_option maxRecDepth 1000000 in
set_option maxHeartbeats 4000000 in
theorem walk (ao : Option Addr) (len cap : Nat) (hcap : len ≤ cap) (w : World) (hr : Bytes w ao len) (ht : Steps w) (htab : Lib.TabIs Tryz.prog w "internal/strconv.uint64pow10" .u64 Lib.pow10Tab) :
    Calls Tryz.prog 3 #[.slice ao len cap] w fun e w' => e = .returned (.bool true) ∧ Below w.heap.size w w' := by
  have HBY := hid hr
  have HT := hid ht
  have HTB := hid htab
  clear hr ht htab
  by_cases hbig : 1048576 < len
  · go_enter Tryz.func3, Tryz.ntmps3
    go_wp2
    go_ret
    exact ⟨rfl, Below.refl _ _⟩
  have hlen : len ≤ 1048576 := by omega
  clear hbig
  have B_0 : Hid (Below w.heap.size w w) := hid (Below.refl w.heap.size w)
  go_enter Tryz.func3, Tryz.ntmps3
  go_wp2_with fail
  refine (big_no ao len cap hlen _).mono ?_
  rintro e w0 ⟨rfl, hw0⟩
  rw [hw0]
  clear hw0 w0
  go_wp2_with fail
  refine Calls.mono (drawRightSnaps_any ao len cap hlen hcap _ HBY.out) ?_
  rintro e w1 ⟨l, va, vc, ix, tm, zs, za, zc, bd, rfl, ⟨hd, hel, hl3⟩, ⟨hok, hix9⟩, hfa, hza, b1⟩
  have B_1 : Hid (Below w.heap.size w w1) := hid (below_via B_0.out b1)
  clear B_0
  clear b1
  have Qd_1 : Hid (FilesAt w1 va l) := hid (hfa)
  have Qz_1 : Hid (IntsAt w1 za zs) := hid (hza)
  obtain ⟨tn, t, A, L, htm, htx, hts, hrs, hsa, hAs, hAl, hdo, hnw, hsh, hLt, hLn, hLl, hz4, hb2, hnm⟩ := snaps_told hd hl3 (hel.other hix9) hok
  subst htm
  have hds := disk_sizes hd
  have CT' := fun W h1 h2 => implSnapText_any (ix : Int) (tn : Int) za zs zc bd (by omega) (by omega) W h1 h2
  rw [htx] at CT'
  have CT := hid CT'
  have CR' := fun W h => implReadSnap_any t (by omega) W h
  rw [hrs] at CR'
  have CR := hid CR'
  have CI := hid (fun vb vcb W h1 h2 => sameInts_same vb za zs vcb zc (by omega) W h1 h2)
  have CA' := fun W h1 h2 h3 h4 => implSActs_any va l vc (ix : Int) (tn : Int) za zs zc bd hds.2.2 hds.2.1 (by omega) (by omega) W h1 h2 h3 h4
  rw [hsa] at CA'
  have CA := hid CA'
  have CD' := fun av ac W h1 h2 => specDoActs_s va l vc av A ac hds.2.2 (by omega) hAs W h1 h2
  rw [hdo] at CD'
  have CD := hid CD'
  have CN' := fun ev ec W h1 h2 => implNewest_any ev L ec hLl hLt W h1 h2
  rw [hnw] at CN'
  have CN := hid CN'
  have CH' := fun ev ec W h1 h2 => implShed_any ev L ec hLl hLt hLn W h1 h2
  rw [hsh] at CH'
  have CH := hid CH'
  obtain ⟨nm, hnmE⟩ : ∃ s, sname (ix : Int) = s := ⟨_, rfl⟩
  rw [hnmE] at hnm
  have CM' := fun W h => implSName_any (ix : Int) W h
  rw [hnmE] at CM'
  have CM := hid CM'
  have hnb : (nm.toList == []) = false := by rw [beq_eq_false_iff_ne]; exact hnm
  clear CT' CR' CA' CD' CN' CH' CM' hd hel hl3 hok hix9 htx hts hrs hsa hAs hAl hdo hnw hsh hLt hLn hLl hds hnmE hnm hz4 hb2 hfa hza
  obtain ⟨g0, hg0⟩ : ∃ g, w1.heap.size = g := ⟨_, rfl⟩
  obtain ⟨U0, hU0⟩ : ∃ V, ((w1.alloc (.cells #[.slice none 0 0] 26)).alloc (.cells #[.int .i64 0, .int .i64 0, .slice none 0 0, .string ⟨#[]⟩] 29)) = V := ⟨_, rfl⟩
  have bz0 : Below g0 w1 U0 := by rw [← hg0, ← hU0]; exact below_more (below_more (Below.refl w1.heap.size w1) (.cells #[.slice none 0 0] 26)) (.cells #[.int .i64 0, .int .i64 0, .slice none 0 0, .string ⟨#[]⟩] 29)
  have N0_0_0 : BlockIs U0 (g0) 26 [.slice none 0 0] := by rw [← hg0, ← hU0]; show ((w1.heap.push _).push _)[w1.heap.size]? = some _; rw [Array.getElem?_push, if_neg (by simp), Array.getElem?_push, if_pos rfl]
  have N0_1_0 : BlockIs U0 (g0 + 1) 29 [.int .i64 0, .int .i64 0, .slice none 0 0, .string ⟨#[]⟩] := by rw [← hg0, ← hU0]; show ((w1.heap.push _).push _)[w1.heap.size + 1]? = some _; rw [Array.getElem?_push, if_pos (by simp)]
  have o0_0 := N0_0_0.cell (j := 0) rfl
  have f0_0 := N0_0_0.thaw 0
  obtain ⟨V0_0, hV0_0⟩ : ∃ V, U0.setCell ⟨g0, 0, none⟩ (.slice va l.length vc) = V := ⟨_, rfl⟩
  have N0_0_1 : BlockIs V0_0 (g0) 26 [.slice va l.length vc] := by rw [← hV0_0]; exact N0_0_0.set 0 _
  have N0_1_1 : BlockIs V0_0 (g0 + 1) 29 [.int .i64 0, .int .i64 0, .slice none 0 0, .string ⟨#[]⟩] := by rw [← hV0_0]; exact N0_1_0.far (by omega) _
  have bz0 : Below g0 w1 V0_0 := by rw [← hV0_0]; exact bz0.setCell (by show _ ≤ g0; omega) _
  have o0_1 := N0_1_1.cell (j := 0) rfl
  have f0_1 := N0_1_1.thaw 0
  obtain ⟨V0_1, hV0_1⟩ : ∃ V, V0_0.setCell ⟨g0 + 1, 0, none⟩ (.int .i64 (ix : Int)) = V := ⟨_, rfl⟩
  have N0_0_2 : BlockIs V0_1 (g0) 26 [.slice va l.length vc] := by rw [← hV0_1]; exact N0_0_1.far (by omega) _
  have N0_1_2 : BlockIs V0_1 (g0 + 1) 29 [.int .i64 (ix : Int), .int .i64 0, .slice none 0 0, .string ⟨#[]⟩] := by rw [← hV0_1]; exact N0_1_1.set 0 _
  have bz0 : Below g0 w1 V0_1 := by rw [← hV0_1]; exact bz0.setCell (by show _ ≤ g0 + 1; omega) _
  have o0_2 := N0_1_2.cell (j := 1) rfl
  have f0_2 := N0_1_2.thaw 1
  obtain ⟨V0_2, hV0_2⟩ : ∃ V, V0_1.setCell ⟨g0 + 1, 1, none⟩ (.int .i64 (tn : Int)) = V := ⟨_, rfl⟩
  have N0_0_3 : BlockIs V0_2 (g0) 26 [.slice va l.length vc] := by rw [← hV0_2]; exact N0_0_2.far (by omega) _
  have N0_1_3 : BlockIs V0_2 (g0 + 1) 29 [.int .i64 (ix : Int), .int .i64 (tn : Int), .slice none 0 0, .string ⟨#[]⟩] := by rw [← hV0_2]; exact N0_1_2.set 1 _
  have bz0 : Below g0 w1 V0_2 := by rw [← hV0_2]; exact bz0.setCell (by show _ ≤ g0 + 1; omega) _
  have o0_3 := N0_1_3.cell (j := 2) rfl
  have f0_3 := N0_1_3.thaw 2
  obtain ⟨V0_3, hV0_3⟩ : ∃ V, V0_2.setCell ⟨g0 + 1, 2, none⟩ (.slice za zs.length zc) = V := ⟨_, rfl⟩
  have N0_0_4 : BlockIs V0_3 (g0) 26 [.slice va l.length vc] := by rw [← hV0_3]; exact N0_0_3.far (by omega) _
  have N0_1_4 : BlockIs V0_3 (g0 + 1) 29 [.int .i64 (ix : Int), .int .i64 (tn : Int), .slice za zs.length zc, .string ⟨#[]⟩] := by rw [← hV0_3]; exact N0_1_3.set 2 _
  have bz0 : Below g0 w1 V0_3 := by rw [← hV0_3]; exact bz0.setCell (by show _ ≤ g0 + 1; omega) _
  have o0_4 := N0_1_4.cell (j := 3) rfl
  have f0_4 := N0_1_4.thaw 3
  obtain ⟨V0_4, hV0_4⟩ : ∃ V, V0_3.setCell ⟨g0 + 1, 3, none⟩ (.string bd) = V := ⟨_, rfl⟩
  have N0_0_5 : BlockIs V0_4 (g0) 26 [.slice va l.length vc] := by rw [← hV0_4]; exact N0_0_4.far (by omega) _
  have N0_1_5 : BlockIs V0_4 (g0 + 1) 29 [.int .i64 (ix : Int), .int .i64 (tn : Int), .slice za zs.length zc, .string bd] := by rw [← hV0_4]; exact N0_1_4.set 3 _
  have bz0 : Below g0 w1 V0_4 := by rw [← hV0_4]; exact bz0.setCell (by show _ ≤ g0 + 1; omega) _
  have hN0_0 := hid N0_0_5
  have p0_0_0 := hN0_0.out.cell (j := 0) rfl
  have hN0_1 := hid N0_1_5
  have p0_1_0 := hN0_1.out.cell (j := 0) rfl
  have p0_1_1 := hN0_1.out.cell (j := 1) rfl
  have p0_1_2 := hN0_1.out.cell (j := 2) rfl
  have p0_1_3 := hN0_1.out.cell (j := 3) rfl
  have bzz0 : Below w1.heap.size w1 V0_4 := by have h := bz0; rw [← hg0] at h; exact h
  clear bz0 N0_0_0 N0_0_1 N0_0_2 N0_0_3 N0_0_4 N0_0_5 N0_1_0 N0_1_1 N0_1_2 N0_1_3 N0_1_4 N0_1_5
  have lo0 : w.heap.size ≤ g0 := by rw [← hg0]; exact B_1.out.size
  go_wp2_with fail
  clear o0_0 f0_0 o0_1 f0_1 o0_2 f0_2 o0_3 f0_3 o0_4 f0_4 p0_0_0 p0_1_0 p0_1_1 p0_1_2 p0_1_3
  have Qd_2 : Hid (FilesAt V0_4 va l) := hid (Qd_1.out.on bzz0)
  have Qz_2 : Hid (IntsAt V0_4 za zs) := hid (Qz_1.out.on bzz0)
  have B_2 : Hid (Below w.heap.size w V0_4) := hid (below_via B_1.out bzz0)
  clear Qd_1 Qz_1 B_1
  clear bzz0
  have Xd_2 := hN0_0
  have Xs_2 := hN0_1
  refine Calls.mono (CT.out _ Qz_2.out (steps_on HT.out B_2.out)) ?_
  rintro e w2 ⟨rfl, b_s⟩
  have Xd_3 : Hid (BlockIs w2 (g0) 26 [.slice va l.length vc]) := hid (Xd_2.out.on b_s Xd_2.out.lt)
  have Xs_3 : Hid (BlockIs w2 (g0 + 1) 29 [.int .i64 (ix : Int), .int .i64 (tn : Int), .slice za zs.length zc, .string bd]) := hid (Xs_2.out.on b_s Xs_2.out.lt)
  have Qd_3 : Hid (FilesAt w2 va l) := hid (Qd_2.out.on b_s)
  have Qz_3 : Hid (IntsAt w2 za zs) := hid (Qz_2.out.on b_s)
  have B_3 : Hid (Below w.heap.size w w2) := hid (below_via B_2.out b_s)
  clear Xd_2 Xs_2 Qd_2 Qz_2 B_2
  clear b_s
  go_wp2_with fail
  refine Calls.mono (CR.out _ (steps_on HT.out B_3.out)) ?_
  rintro e w3 ⟨bv, rfl, hob, b_s⟩
  dsimp only at hob ⊢
  obtain ⟨vb, vcb, hvb⟩ := row_shape hob
  subst hvb
  have Xd_4 : Hid (BlockIs w3 (g0) 26 [.slice va l.length vc]) := hid (Xd_3.out.on b_s Xd_3.out.lt)
  have Xs_4 : Hid (BlockIs w3 (g0 + 1) 29 [.int .i64 (ix : Int), .int .i64 (tn : Int), .slice za zs.length zc, .string bd]) := hid (Xs_3.out.on b_s Xs_3.out.lt)
  have Qd_4 : Hid (FilesAt w3 va l) := hid (Qd_3.out.on b_s)
  have Qz_4 : Hid (IntsAt w3 za zs) := hid (Qz_3.out.on b_s)
  have B_4 : Hid (Below w.heap.size w w3) := hid (below_via B_3.out b_s)
  clear Xd_3 Xs_3 Qd_3 Qz_3 B_3
  clear b_s
  have Qb_4 : Hid (IntsAt w3 vb zs) := hid (ints_row rfl hob)
  clear hob CT CR
  obtain ⟨g1, hg1⟩ : ∃ g, w3.heap.size = g := ⟨_, rfl⟩
  obtain ⟨U1, hU1⟩ : ∃ V, (w3.alloc (.cells #[.int .i64 0, .int .i64 0, .slice none 0 0, .string ⟨#[]⟩] 29)) = V := ⟨_, rfl⟩
  have bz1 : Below g1 w3 U1 := by rw [← hg1, ← hU1]; exact below_more (Below.refl w3.heap.size w3) (.cells #[.int .i64 0, .int .i64 0, .slice none 0 0, .string ⟨#[]⟩] 29)
  have N1_0_0 : BlockIs U1 (g1) 29 [.int .i64 0, .int .i64 0, .slice none 0 0, .string ⟨#[]⟩] := by rw [← hg1, ← hU1]; exact heap_alloc_new _ _
  have o1_0 := N1_0_0.cell (j := 0) rfl
  have f1_0 := N1_0_0.thaw 0
  obtain ⟨V1_0, hV1_0⟩ : ∃ V, U1.setCell ⟨g1, 0, none⟩ (.int .i64 (ix : Int)) = V := ⟨_, rfl⟩
  have N1_0_1 : BlockIs V1_0 (g1) 29 [.int .i64 (ix : Int), .int .i64 0, .slice none 0 0, .string ⟨#[]⟩] := by rw [← hV1_0]; exact N1_0_0.set 0 _
  have bz1 : Below g1 w3 V1_0 := by rw [← hV1_0]; exact bz1.setCell (by show _ ≤ g1; omega) _
  have o1_1 := N1_0_1.cell (j := 1) rfl
  have f1_1 := N1_0_1.thaw 1
  obtain ⟨V1_1, hV1_1⟩ : ∃ V, V1_0.setCell ⟨g1, 1, none⟩ (.int .i64 (tn : Int)) = V := ⟨_, rfl⟩
  have N1_0_2 : BlockIs V1_1 (g1) 29 [.int .i64 (ix : Int), .int .i64 (tn : Int), .slice none 0 0, .string ⟨#[]⟩] := by rw [← hV1_1]; exact N1_0_1.set 1 _
  have bz1 : Below g1 w3 V1_1 := by rw [← hV1_1]; exact bz1.setCell (by show _ ≤ g1; omega) _
  have o1_2 := N1_0_2.cell (j := 2) rfl
  have f1_2 := N1_0_2.thaw 2
  obtain ⟨V1_2, hV1_2⟩ : ∃ V, V1_1.setCell ⟨g1, 2, none⟩ (.slice vb zs.length vcb) = V := ⟨_, rfl⟩
  have N1_0_3 : BlockIs V1_2 (g1) 29 [.int .i64 (ix : Int), .int .i64 (tn : Int), .slice vb zs.length vcb, .string ⟨#[]⟩] := by rw [← hV1_2]; exact N1_0_2.set 2 _
  have bz1 : Below g1 w3 V1_2 := by rw [← hV1_2]; exact bz1.setCell (by show _ ≤ g1; omega) _
  have o1_3 := N1_0_3.cell (j := 3) rfl
  have f1_3 := N1_0_3.thaw 3
  obtain ⟨V1_3, hV1_3⟩ : ∃ V, V1_2.setCell ⟨g1, 3, none⟩ (.string bd) = V := ⟨_, rfl⟩
  have N1_0_4 : BlockIs V1_3 (g1) 29 [.int .i64 (ix : Int), .int .i64 (tn : Int), .slice vb zs.length vcb, .string bd] := by rw [← hV1_3]; exact N1_0_3.set 3 _
  have bz1 : Below g1 w3 V1_3 := by rw [← hV1_3]; exact bz1.setCell (by show _ ≤ g1; omega) _
  have hN1_0 := hid N1_0_4
  have p1_0_0 := hN1_0.out.cell (j := 0) rfl
  have p1_0_1 := hN1_0.out.cell (j := 1) rfl
  have p1_0_2 := hN1_0.out.cell (j := 2) rfl
  have p1_0_3 := hN1_0.out.cell (j := 3) rfl
  have bzz1 : Below w3.heap.size w3 V1_3 := by have h := bz1; rw [← hg1] at h; exact h
  clear bz1 N1_0_0 N1_0_1 N1_0_2 N1_0_3 N1_0_4
  have ltd_1 : g0 < g1 := by rw [← hg1]; exact Xd_4.out.lt
  have lts_1 : g0 + 1 < g1 := by rw [← hg1]; exact Xs_4.out.lt
  have lo1 : w.heap.size ≤ g1 := by rw [← hg1]; exact B_4.out.size
  have Zs := Xs_4.out.on bzz1 Xs_4.out.lt
  have zs0 := Zs.cell (j := 0) rfl
  have zs1 := Zs.cell (j := 1) rfl
  have zs2 := Zs.cell (j := 2) rfl
  have zs3 := Zs.cell (j := 3) rfl
  clear Zs
  go_wp2_with fail
  clear zs0 zs1 zs2 zs3
  clear o1_0 f1_0 o1_1 f1_1 o1_2 f1_2 o1_3 f1_3 p1_0_0 p1_0_1 p1_0_2 p1_0_3
  have Xd_5 : Hid (BlockIs V1_3 (g0) 26 [.slice va l.length vc]) := hid (Xd_4.out.on bzz1 Xd_4.out.lt)
  have Xs_5 : Hid (BlockIs V1_3 (g0 + 1) 29 [.int .i64 (ix : Int), .int .i64 (tn : Int), .slice za zs.length zc, .string bd]) := hid (Xs_4.out.on bzz1 Xs_4.out.lt)
  have Qd_5 : Hid (FilesAt V1_3 va l) := hid (Qd_4.out.on bzz1)
  have Qz_5 : Hid (IntsAt V1_3 za zs) := hid (Qz_4.out.on bzz1)
  have Qb_5 : Hid (IntsAt V1_3 vb zs) := hid (Qb_4.out.on bzz1)
  have B_5 : Hid (Below w.heap.size w V1_3) := hid (below_via B_4.out bzz1)
  clear Xd_4 Xs_4 Qd_4 Qz_4 Qb_4 B_4
  clear bzz1
  have Xb_5 := hN1_0
  refine Calls.mono (CI.out vb vcb _ Qb_5.out Qz_5.out) ?_
  rintro e w4 ⟨rfl, b_s⟩
  clear CI
  have Xd_6 : Hid (BlockIs w4 (g0) 26 [.slice va l.length vc]) := hid (Xd_5.out.on b_s Xd_5.out.lt)
  have Xs_6 : Hid (BlockIs w4 (g0 + 1) 29 [.int .i64 (ix : Int), .int .i64 (tn : Int), .slice za zs.length zc, .string bd]) := hid (Xs_5.out.on b_s Xs_5.out.lt)
  have Xb_6 : Hid (BlockIs w4 (g1) 29 [.int .i64 (ix : Int), .int .i64 (tn : Int), .slice vb zs.length vcb, .string bd]) := hid (Xb_5.out.on b_s Xb_5.out.lt)
  have Qd_6 : Hid (FilesAt w4 va l) := hid (Qd_5.out.on b_s)
  have Qz_6 : Hid (IntsAt w4 za zs) := hid (Qz_5.out.on b_s)
  have Qb_6 : Hid (IntsAt w4 vb zs) := hid (Qb_5.out.on b_s)
  have B_6 : Hid (Below w.heap.size w w4) := hid (below_via B_5.out b_s)
  clear Xd_5 Xs_5 Xb_5 Qd_5 Qz_5 Qb_5 B_5
  clear b_s
  have cd0_1 := Xd_6.out.cell (j := 0) rfl
  have cs0_1 := Xs_6.out.cell (j := 0) rfl
  have cs1_1 := Xs_6.out.cell (j := 1) rfl
  have cs2_1 := Xs_6.out.cell (j := 2) rfl
  have cs3_1 := Xs_6.out.cell (j := 3) rfl
  go_wp2_with fail
  refine Calls.mono (CA.out _ Qd_6.out Qz_6.out (steps_on HT.out B_6.out) (table_on HTB.out B_6.out)) ?_
  rintro e w5 ⟨av, ac, rfl, hao, b_s⟩
  clear CA
  have Xd_7 : Hid (BlockIs w5 (g0) 26 [.slice va l.length vc]) := hid (Xd_6.out.on b_s Xd_6.out.lt)
  have Xs_7 : Hid (BlockIs w5 (g0 + 1) 29 [.int .i64 (ix : Int), .int .i64 (tn : Int), .slice za zs.length zc, .string bd]) := hid (Xs_6.out.on b_s Xs_6.out.lt)
  have Qd_7 : Hid (FilesAt w5 va l) := hid (Qd_6.out.on b_s)
  have Qz_7 : Hid (IntsAt w5 za zs) := hid (Qz_6.out.on b_s)
  have B_7 : Hid (Below w.heap.size w w5) := hid (below_via B_6.out b_s)
  clear cd0_1 cs0_1 cs1_1 cs2_1 cs3_1
  clear Xd_6 Xs_6 Qd_6 Qz_6 B_6
  clear b_s
  have Qa_7 : Hid (ActsAt w5 av A) := hid (actsSn hao)
  clear hao
  have cd0_2 := Xd_7.out.cell (j := 0) rfl
  go_wp2_with fail
  refine Calls.mono (CD.out av ac _ Qd_7.out Qa_7.out) ?_
  rintro e w6 ⟨ev, ec, rfl, heo, b_s⟩
  dsimp only at heo ⊢
  clear CD
  have Xd_8 : Hid (BlockIs w6 (g0) 26 [.slice va l.length vc]) := hid (Xd_7.out.on b_s Xd_7.out.lt)
  have Xs_8 : Hid (BlockIs w6 (g0 + 1) 29 [.int .i64 (ix : Int), .int .i64 (tn : Int), .slice za zs.length zc, .string bd]) := hid (Xs_7.out.on b_s Xs_7.out.lt)
  have Qd_8 : Hid (FilesAt w6 va l) := hid (Qd_7.out.on b_s)
  have Qz_8 : Hid (IntsAt w6 za zs) := hid (Qz_7.out.on b_s)
  have Qa_8 : Hid (ActsAt w6 av A) := hid (Qa_7.out.on b_s)
  have B_8 : Hid (Below w.heap.size w w6) := hid (below_via B_7.out b_s)
  clear cd0_2
  clear Xd_7 Xs_7 Qd_7 Qz_7 Qa_7 B_7
  clear b_s
  have Qe_8 : Hid (FilesAt w6 ev L) := hid (OwnAt.files heo)
  clear heo
  obtain ⟨g2, hg2⟩ : ∃ g, w6.heap.size = g := ⟨_, rfl⟩
  obtain ⟨U2, hU2⟩ : ∃ V, (w6.alloc (.cells #[.slice none 0 0] 26)) = V := ⟨_, rfl⟩
  have bz2 : Below g2 w6 U2 := by rw [← hg2, ← hU2]; exact below_more (Below.refl w6.heap.size w6) (.cells #[.slice none 0 0] 26)
  have N2_0_0 : BlockIs U2 (g2) 26 [.slice none 0 0] := by rw [← hg2, ← hU2]; exact heap_alloc_new _ _
  have o2_0 := N2_0_0.cell (j := 0) rfl
  have f2_0 := N2_0_0.thaw 0
  obtain ⟨V2_0, hV2_0⟩ : ∃ V, U2.setCell ⟨g2, 0, none⟩ (.slice ev L.length ec) = V := ⟨_, rfl⟩
  have N2_0_1 : BlockIs V2_0 (g2) 26 [.slice ev L.length ec] := by rw [← hV2_0]; exact N2_0_0.set 0 _
  have bz2 : Below g2 w6 V2_0 := by rw [← hV2_0]; exact bz2.setCell (by show _ ≤ g2; omega) _
  have hN2_0 := hid N2_0_1
  have p2_0_0 := hN2_0.out.cell (j := 0) rfl
  have bzz2 : Below w6.heap.size w6 V2_0 := by have h := bz2; rw [← hg2] at h; exact h
  clear bz2 N2_0_0 N2_0_1
  have ltd_2 : g0 < g2 := by rw [← hg2]; exact Xd_8.out.lt
  have lts_2 : g0 + 1 < g2 := by rw [← hg2]; exact Xs_8.out.lt
  have lo2 : w.heap.size ≤ g2 := by rw [← hg2]; exact B_8.out.size
  go_wp2_with fail
  clear o2_0 f2_0 p2_0_0
  have Xd_9 : Hid (BlockIs V2_0 (g0) 26 [.slice va l.length vc]) := hid (Xd_8.out.on bzz2 Xd_8.out.lt)
  have Xs_9 : Hid (BlockIs V2_0 (g0 + 1) 29 [.int .i64 (ix : Int), .int .i64 (tn : Int), .slice za zs.length zc, .string bd]) := hid (Xs_8.out.on bzz2 Xs_8.out.lt)
  have Qd_9 : Hid (FilesAt V2_0 va l) := hid (Qd_8.out.on bzz2)
  have Qz_9 : Hid (IntsAt V2_0 za zs) := hid (Qz_8.out.on bzz2)
  have Qa_9 : Hid (ActsAt V2_0 av A) := hid (Qa_8.out.on bzz2)
  have Qe_9 : Hid (FilesAt V2_0 ev L) := hid (Qe_8.out.on bzz2)
  have B_9 : Hid (Below w.heap.size w V2_0) := hid (below_via B_8.out bzz2)
  clear Xd_8 Xs_8 Qd_8 Qz_8 Qa_8 Qe_8 B_8
  clear bzz2
  have Xe_9 := hN2_0
  refine Calls.mono (CN.out ev ec _ Qe_9.out (steps_on HT.out B_9.out)) ?_
  rintro e w7 ⟨na, nc, rfl, hno, b_s⟩
  dsimp only [snapIx, snapTm, snapZs, snapBd, snapV, Option.isSome] at hno ⊢
  clear CN hno
  have Xd_10 : Hid (BlockIs w7 (g0) 26 [.slice va l.length vc]) := hid (Xd_9.out.on b_s Xd_9.out.lt)
  have Xs_10 : Hid (BlockIs w7 (g0 + 1) 29 [.int .i64 (ix : Int), .int .i64 (tn : Int), .slice za zs.length zc, .string bd]) := hid (Xs_9.out.on b_s Xs_9.out.lt)
  have Xe_10 : Hid (BlockIs w7 (g2) 26 [.slice ev L.length ec]) := hid (Xe_9.out.on b_s Xe_9.out.lt)
  have Qd_10 : Hid (FilesAt w7 va l) := hid (Qd_9.out.on b_s)
  have Qz_10 : Hid (IntsAt w7 za zs) := hid (Qz_9.out.on b_s)
  have Qa_10 : Hid (ActsAt w7 av A) := hid (Qa_9.out.on b_s)
  have Qe_10 : Hid (FilesAt w7 ev L) := hid (Qe_9.out.on b_s)
  have B_10 : Hid (Below w.heap.size w w7) := hid (below_via B_9.out b_s)
  clear Xd_9 Xs_9 Xe_9 Qd_9 Qz_9 Qa_9 Qe_9 B_9
  clear b_s
  obtain ⟨g3, hg3⟩ : ∃ g, w7.heap.size = g := ⟨_, rfl⟩
  obtain ⟨U3, hU3⟩ : ∃ V, (w7.alloc (.cells #[.int .i64 0, .int .i64 0, .slice none 0 0, .string ⟨#[]⟩] 29)) = V := ⟨_, rfl⟩
  have bz3 : Below g3 w7 U3 := by rw [← hg3, ← hU3]; exact below_more (Below.refl w7.heap.size w7) (.cells #[.int .i64 0, .int .i64 0, .slice none 0 0, .string ⟨#[]⟩] 29)
  have N3_0_0 : BlockIs U3 (g3) 29 [.int .i64 0, .int .i64 0, .slice none 0 0, .string ⟨#[]⟩] := by rw [← hg3, ← hU3]; exact heap_alloc_new _ _
  have o3_0 := N3_0_0.cell (j := 0) rfl
  have f3_0 := N3_0_0.thaw 0
  obtain ⟨V3_0, hV3_0⟩ : ∃ V, U3.setCell ⟨g3, 0, none⟩ (.int .i64 (ix : Int)) = V := ⟨_, rfl⟩
  have N3_0_1 : BlockIs V3_0 (g3) 29 [.int .i64 (ix : Int), .int .i64 0, .slice none 0 0, .string ⟨#[]⟩] := by rw [← hV3_0]; exact N3_0_0.set 0 _
  have bz3 : Below g3 w7 V3_0 := by rw [← hV3_0]; exact bz3.setCell (by show _ ≤ g3; omega) _
  have o3_1 := N3_0_1.cell (j := 1) rfl
  have f3_1 := N3_0_1.thaw 1
  obtain ⟨V3_1, hV3_1⟩ : ∃ V, V3_0.setCell ⟨g3, 1, none⟩ (.int .i64 (tn : Int)) = V := ⟨_, rfl⟩
  have N3_0_2 : BlockIs V3_1 (g3) 29 [.int .i64 (ix : Int), .int .i64 (tn : Int), .slice none 0 0, .string ⟨#[]⟩] := by rw [← hV3_1]; exact N3_0_1.set 1 _
  have bz3 : Below g3 w7 V3_1 := by rw [← hV3_1]; exact bz3.setCell (by show _ ≤ g3; omega) _
  have o3_2 := N3_0_2.cell (j := 2) rfl
  have f3_2 := N3_0_2.thaw 2
  obtain ⟨V3_2, hV3_2⟩ : ∃ V, V3_1.setCell ⟨g3, 2, none⟩ (.slice na zs.length nc) = V := ⟨_, rfl⟩
  have N3_0_3 : BlockIs V3_2 (g3) 29 [.int .i64 (ix : Int), .int .i64 (tn : Int), .slice na zs.length nc, .string ⟨#[]⟩] := by rw [← hV3_2]; exact N3_0_2.set 2 _
  have bz3 : Below g3 w7 V3_2 := by rw [← hV3_2]; exact bz3.setCell (by show _ ≤ g3; omega) _
  have o3_3 := N3_0_3.cell (j := 3) rfl
  have f3_3 := N3_0_3.thaw 3
  obtain ⟨V3_3, hV3_3⟩ : ∃ V, V3_2.setCell ⟨g3, 3, none⟩ (.string bd) = V := ⟨_, rfl⟩
  have N3_0_4 : BlockIs V3_3 (g3) 29 [.int .i64 (ix : Int), .int .i64 (tn : Int), .slice na zs.length nc, .string bd] := by rw [← hV3_3]; exact N3_0_3.set 3 _
  have bz3 : Below g3 w7 V3_3 := by rw [← hV3_3]; exact bz3.setCell (by show _ ≤ g3; omega) _
  have hN3_0 := hid N3_0_4
  have p3_0_0 := hN3_0.out.cell (j := 0) rfl
  have p3_0_1 := hN3_0.out.cell (j := 1) rfl
  have p3_0_2 := hN3_0.out.cell (j := 2) rfl
  have p3_0_3 := hN3_0.out.cell (j := 3) rfl
  have bzz3 : Below w7.heap.size w7 V3_3 := by have h := bz3; rw [← hg3] at h; exact h
  clear bz3 N3_0_0 N3_0_1 N3_0_2 N3_0_3 N3_0_4
  have ltd_3 : g0 < g3 := by rw [← hg3]; exact Xd_10.out.lt
  have lts_3 : g0 + 1 < g3 := by rw [← hg3]; exact Xs_10.out.lt
  have lte_3 : g2 < g3 := by rw [← hg3]; exact Xe_10.out.lt
  have lo3 : w.heap.size ≤ g3 := by rw [← hg3]; exact B_10.out.size
  have Zs := Xs_10.out.on bzz3 Xs_10.out.lt
  have zs0 := Zs.cell (j := 0) rfl
  have zs1 := Zs.cell (j := 1) rfl
  have zs2 := Zs.cell (j := 2) rfl
  have zs3 := Zs.cell (j := 3) rfl
  clear Zs
  have Ze := Xe_10.out.on bzz3 Xe_10.out.lt
  have ze0 := Ze.cell (j := 0) rfl
  clear Ze
  go_wp2_with fail
  clear zs0 zs1 zs2 zs3 ze0
  clear o3_0 f3_0 o3_1 f3_1 o3_2 f3_2 o3_3 f3_3 p3_0_0 p3_0_1 p3_0_2 p3_0_3
  have Xd_11 : Hid (BlockIs V3_3 (g0) 26 [.slice va l.length vc]) := hid (Xd_10.out.on bzz3 Xd_10.out.lt)
  have Xs_11 : Hid (BlockIs V3_3 (g0 + 1) 29 [.int .i64 (ix : Int), .int .i64 (tn : Int), .slice za zs.length zc, .string bd]) := hid (Xs_10.out.on bzz3 Xs_10.out.lt)
  have Xe_11 : Hid (BlockIs V3_3 (g2) 26 [.slice ev L.length ec]) := hid (Xe_10.out.on bzz3 Xe_10.out.lt)
  have Qd_11 : Hid (FilesAt V3_3 va l) := hid (Qd_10.out.on bzz3)
  have Qz_11 : Hid (IntsAt V3_3 za zs) := hid (Qz_10.out.on bzz3)
  have Qa_11 : Hid (ActsAt V3_3 av A) := hid (Qa_10.out.on bzz3)
  have Qe_11 : Hid (FilesAt V3_3 ev L) := hid (Qe_10.out.on bzz3)
  have B_11 : Hid (Below w.heap.size w V3_3) := hid (below_via B_10.out bzz3)
  clear Xd_10 Xs_10 Xe_10 Qd_10 Qz_10 Qa_10 Qe_10 B_10
  clear bzz3
  have Xx_11 := hN3_0
  refine Calls.mono (CH.out ev ec _ Qe_11.out (steps_on HT.out B_11.out)) ?_
  rintro e w8 ⟨sv, sc, rfl, hso, b_s⟩
  clear CH hso
  have Xd_12 : Hid (BlockIs w8 (g0) 26 [.slice va l.length vc]) := hid (Xd_11.out.on b_s Xd_11.out.lt)
  have Xs_12 : Hid (BlockIs w8 (g0 + 1) 29 [.int .i64 (ix : Int), .int .i64 (tn : Int), .slice za zs.length zc, .string bd]) := hid (Xs_11.out.on b_s Xs_11.out.lt)
  have Xe_12 : Hid (BlockIs w8 (g2) 26 [.slice ev L.length ec]) := hid (Xe_11.out.on b_s Xe_11.out.lt)
  have Xx_12 : Hid (BlockIs w8 (g3) 29 [.int .i64 (ix : Int), .int .i64 (tn : Int), .slice na zs.length nc, .string bd]) := hid (Xx_11.out.on b_s Xx_11.out.lt)
  have Qd_12 : Hid (FilesAt w8 va l) := hid (Qd_11.out.on b_s)
  have Qz_12 : Hid (IntsAt w8 za zs) := hid (Qz_11.out.on b_s)
  have Qa_12 : Hid (ActsAt w8 av A) := hid (Qa_11.out.on b_s)
  have Qe_12 : Hid (FilesAt w8 ev L) := hid (Qe_11.out.on b_s)
  have B_12 : Hid (Below w.heap.size w w8) := hid (below_via B_11.out b_s)
  clear Xd_11 Xs_11 Xe_11 Xx_11 Qd_11 Qz_11 Qa_11 Qe_11 B_11
  clear b_s
  have cs0_3 := Xs_12.out.cell (j := 0) rfl
  have cs1_3 := Xs_12.out.cell (j := 1) rfl
  have cs2_3 := Xs_12.out.cell (j := 2) rfl
  have cs3_3 := Xs_12.out.cell (j := 3) rfl
  go_wp2_with fail
  refine Calls.mono (CM.out _ (table_on HTB.out B_12.out)) ?_
  rintro e w9 ⟨rfl, b_s⟩
  clear CM
  have Xd_13 : Hid (BlockIs w9 (g0) 26 [.slice va l.length vc]) := hid (Xd_12.out.on b_s Xd_12.out.lt)
  have Xs_13 : Hid (BlockIs w9 (g0 + 1) 29 [.int .i64 (ix : Int), .int .i64 (tn : Int), .slice za zs.length zc, .string bd]) := hid (Xs_12.out.on b_s Xs_12.out.lt)
  have Xe_13 : Hid (BlockIs w9 (g2) 26 [.slice ev L.length ec]) := hid (Xe_12.out.on b_s Xe_12.out.lt)
  have Xx_13 : Hid (BlockIs w9 (g3) 29 [.int .i64 (ix : Int), .int .i64 (tn : Int), .slice na zs.length nc, .string bd]) := hid (Xx_12.out.on b_s Xx_12.out.lt)
  have Qd_13 : Hid (FilesAt w9 va l) := hid (Qd_12.out.on b_s)
  have Qz_13 : Hid (IntsAt w9 za zs) := hid (Qz_12.out.on b_s)
  have Qa_13 : Hid (ActsAt w9 av A) := hid (Qa_12.out.on b_s)
  have Qe_13 : Hid (FilesAt w9 ev L) := hid (Qe_12.out.on b_s)
  have B_13 : Hid (Below w.heap.size w w9) := hid (below_via B_12.out b_s)
  clear cs0_3 cs1_3 cs2_3 cs3_3
  clear Xd_12 Xs_12 Xe_12 Xx_12 Qd_12 Qz_12 Qa_12 Qe_12 B_12
  clear b_s
  go_wp2
  go_ret
  exact ⟨rfl, B_13.out⟩

theorem own : ownKnob Tryz.prog.godebug = none := by kernel_rfl
theorem laidOut : laidOutB Tryz.prog = true := by kernel_rfl
theorem rowed : varsRowed Tryz.prog Rows.fnSnapsSpec.vars = true := by kernel_rfl
/-- what the row's list gives: what loop.example/g00232/impl.fourSteps holds -/
theorem table0 {W : World} (h : laidMetH Tryz.prog Rows.fnSnapsRow.laid W) : Lib.TabIs Tryz.prog W "loop.example/g00232/impl.fourSteps" .u32 stepsTab := by
  have h1 : laidMet Tryz.prog Rows.fnSnapsRow.laid W := h
  unfold Rows.fnSnapsRow at h1
  have h2 := h1.tail.tail.tail
  rw [show (Rows.laid_loop_example_g00232_impl_fourSteps : DataW Unit) = Lib.tabData .u32 stepsTab by kernel_rfl] at h2
  exact Lib.tabIs_of_head (show Tryz.prog.globalNamed "loop.example/g00232/impl.fourSteps" = some 0 by kernel_rfl) (show (Tryz.prog.globals[0]?).map (·.type) = some 151 by kernel_rfl) Tryz.underlying151 Tryz.underlying100 (show Tryz.prog.cellsOf 100 = 1 by kernel_rfl) (show Tryz.prog.cellsOf 151 = 16 by kernel_rfl) h2
/-- what the row's list gives: what internal/strconv.uint64pow10 holds -/
theorem table1 {W : World} (h : laidMetH Tryz.prog Rows.fnSnapsRow.laid W) : Lib.TabIs Tryz.prog W "internal/strconv.uint64pow10" .u64 Lib.pow10Tab := by
  have h1 : laidMet Tryz.prog Rows.fnSnapsRow.laid W := h
  unfold Rows.fnSnapsRow at h1
  have h2 := h1.tail.tail
  rw [show (Rows.laid_internal_strconv_uint64pow10 : DataW Unit) = Lib.tabData .u64 Lib.pow10Tab by kernel_rfl] at h2
  exact Lib.tabIs_of_head (show Tryz.prog.globalNamed "internal/strconv.uint64pow10" = some 1 by kernel_rfl) (show (Tryz.prog.globals[1]?).map (·.type) = some 161 by kernel_rfl) Tryz.underlying161 Tryz.underlying154 (show Tryz.prog.cellsOf 154 = 1 by kernel_rfl) (show Tryz.prog.cellsOf 161 = 20 by kernel_rfl) h2
set_option maxRecDepth 1000000 in
theorem contract (H : Type) (enc : TypeId × Value → H) (W : World) (base : Nat) (args : Array Value) (ds gs : List (DataW H)) (before : List MemPlace)
    (hval : ∀ (j : Nat) t v, Tryz.f3.params[j]? = some t → args[j]? = some v → Value.okWide Tryz.prog W .any base t v)
    (hW : DataW.Whole enc Tryz.prog Tryz.f3.params.toList Rows.fnSnapsSpec.vars false W args.toList ds gs before) (hL : laidMetH Tryz.prog Rows.fnSnapsRow.laid W) :
    Calls Tryz.prog 3 args W fun e W' => ∃ v, e = .returned v ∧ Rows.fnSnapsSpec.post enc Tryz.prog Tryz.f3 false true false false W args v W' := by
  have hW' := hW
  obtain ⟨p, q, hA0, hV0, rfl, hfz, hnd⟩ := hW
  have hV : DataW.TrodVars enc Tryz.prog W (fun _ => true) Rows.fnSnapsSpec.vars gs q := hV0
  have hA : DataW.TrodAll enc Tryz.prog W 0 (fun _ => true) true Tryz.f3.params.toList args.toList ds p := hA0
  rw [Tryz.params3] at hA hval
  obtain ⟨v0, vs0, d0, ds0, p0, q0, hargs0, rfl, rfl, h0, r0⟩ := trodAll_cons hA
  obtain ⟨rfl, rfl, rfl⟩ := trodAll_nil r0
  obtain rfl : args = #[v0] := by cases args; simp_all
  obtain ⟨a0, len0, cap0, rfl⟩ := okWide_slice Tryz.underlying22 (hval 0 22 v0 rfl rfl)
  have k0 := h0
  have lt0 : ∀ x ∈ p0, x.block < W.heap.size := by obtain ⟨m, hm⟩ := k0; exact DataW.trod_lt m _ _ _ hm
  have hb0 : len0 ≤ cap0 ∧ Bytes W a0 len0 := by
    obtain ⟨fuel, hf⟩ := h0
    rcases open_ints Tryz.underlying22 Tryz.underlying5 (by kernel_rfl) hf with ⟨hcs, _⟩ | ⟨x, l, c, zs, hcs, _, hl, hm, hz, _, hcell, hwz⟩
    · simp [Value.cells] at hcs
      obtain ⟨rfl, rfl, rfl⟩ := hcs
      exact ⟨Nat.le_refl _, fun h => by omega⟩
    · simp [Value.cells] at hcs
      obtain ⟨rfl, rfl, rfl⟩ := hcs
      refine ⟨hl, fun hp => ?_⟩
      have hzl : zs.length = cap0 := by simpa using hz
      obtain ⟨b, off, rfl, hc⟩ := ints_at hcell (by omega)
      refine ⟨b, off, rfl, fun j hj => ?_⟩
      have hjz : j < zs.length := by omega
      have hb8 := bounds_u8 (hwz (zs.getD j 0) (by simp [List.getD, hjz]))
      exact ⟨zs.getD j 0, hb8.1, hb8.2, hc j hjz⟩
  clear hA0 hV0
  have hgs : gs.length = 1 := by
    have := hV
    clear hV hW' hL
    match gs, this with
    | [_], _ => rfl
  match gs, hgs, hV, hW' with
  | [g0], _, hV, hW' =>
    refine (walk a0 len0 cap0 hb0.1 W hb0.2 (table0 hL) (table1 hL)).mono fun e W' ⟨he, bel⟩ => ?_
    subst he
    exact ⟨_, rfl, _, _, _, [], _, _, hW', trodAll_mk1 (shut_bool Tryz.underlying4 _), trodAll_cons_mk (Below.trod laidOut (by kernel_rfl) (of_decide_eq_true (by kernel_rfl)) k0 bel lt0) (trodAll_mk0), Below.trodVars laidOut bel rowed hV, bel.frame _, fun h => by cases h⟩

def put (cs : Array Value) : Obj → Obj
  | .cells _ t frozen => .cells cs t frozen
  | o => o

/-- a world for the witness: the tables hold what their initialisers lay -/
def laidWorld (w : World) : World := { w with heap := ((((w.heap.modify 2 (put (([0, 1, 28, 2, 29, 14, 24, 3, 30, 22, 20, 15, 25, 17, 4, 8, 31, 27, 13, 23, 21, 19, 16, 7, 26, 12, 18, 6, 11, 5, 10, 9] : List Int).map (Value.int .u8)).toArray)).modify 3 (put (([0, 1, 56, 2, 57, 49, 28, 3, 61, 58, 42, 50, 38, 29, 17, 4, 62, 47, 59, 36, 45, 43, 51, 22, 53, 39, 33, 30, 24, 18, 12, 5, 63, 55, 48, 27, 60, 41, 37, 16, 46, 35, 44, 21, 52, 32, 23, 11, 54, 26, 40, 15, 34, 20, 31, 10, 25, 14, 19, 9, 13, 8, 7, 6] : List Int).map (Value.int .u8)).toArray)).modify 1 (put (([1, 10, 100, 1000, 10000, 100000, 1000000, 10000000, 100000000, 1000000000, 10000000000, 100000000000, 1000000000000, 10000000000000, 100000000000000, 1000000000000000, 10000000000000000, 100000000000000000, 1000000000000000000, 10000000000000000000] : List Int).map (Value.int .u64)).toArray)).modify 0 (put (([0, 1166650509, 2333301018, 3466261911, 3189058079, 4221339282, 889615109, 1888477064, 3558460437, 2442158232, 1594529039, 444807554, 1779230218, 797264519, 3776954128, 2761298845] : List Int).map (Value.int .u32)).toArray)) }
theorem laid_met (os : Os) : laidMet Tryz.prog Rows.fnSnapsRow.laid ((laidWorld (World.holding Tryz.prog os ⟨#[], #[], []⟩)).forCall (fun _ _ => 0) ⟨#[], #[.slice none 0 0], []⟩).memory :=
  laidMet_of_run' 8 (by kernel_rfl) (by kernel_rfl)
theorem reads (os : Os) {H : Type} (enc : TypeId × Value → H) : ∃ places, DataW.whole enc Tryz.prog ((laidWorld (World.holding Tryz.prog os ⟨#[], #[], []⟩)).forCall (fun _ _ => 0) ⟨#[], #[.slice none 0 0], []⟩).memory Tryz.f3.params.toList Rows.fnSnapsSpec.vars false #[Value.slice none 0 0].toList 8 = some ([.nil], [Rows.laid_loop_example_g00232_impl_fourSteps], places) :=
  ⟨(List.range 16).map (MemPlace.cell 0), by kernel_rfl⟩

set_option maxRecDepth 1000000 in
theorem lifted (os : Os) (started : os.Started) (H : Type) (enc : TypeId × Value → H) (F : Stop.Interp) :
    ReturnsInHanded {} Tryz.checked os 3 .any ((OpenSpec.ofChange Rows.fnSnapsSpec).preRow enc Tryz.prog Tryz.f3 Rows.fnSnapsRow.domain false Rows.fnSnapsRow.laid) (((OpenSpec.ofChange Rows.fnSnapsSpec).at F).post enc Tryz.prog Tryz.f3 false true false false) := by
  obtain ⟨places, hx⟩ := reads os enc
  refine returnsInHanded_of_row (C := Tryz.checked) (s := OpenSpec.ofChange Rows.fnSnapsSpec) own started (by kernel_rfl) Tryz.func3
    (witness_row_at (enc := enc) (C := Tryz.checked) false (laidWorld (World.holding Tryz.prog os ⟨#[], #[], []⟩)) #[.slice none 0 0] rfl (by kernel_rfl) (by kernel_rfl) (by kernel_rfl)
      (OpenSpec.preRow_of_cond 8 hx (by kernel_rfl) (fun k hk => by cases hk) (by kernel_rfl) (laid_met os))) ?_
  intro W base args ds gs before hval hW _ _ _ hL _ _
  exact contract H enc W base args ds gs before hval hW hL

theorem said : Rows.FnSnapsSaid :=
  OpenClaim.holds_of_cond 3 Tryz.f3 rfl rfl rfl rfl rfl rfl rfl ⟨rfl, rfl, rfl, rfl, rfl⟩ rfl rfl rfl rfl rfl (by kernel_rfl) Tryz.func3 (by kernel_rfl)
    (of_decide_eq_true (by kernel_rfl)) (by unfold Func.isWrapper; first | (rw [if_pos (by decide +kernel)]; kernel_rfl) | (rw [if_neg (by decide +kernel)]; exact ⟨rfl, rfl⟩))
    (fun os started H enc _ F => by rw [OpenClaim.pre_eq_preRow]; exact lifted os started H enc F)

theorem plain (f : FuncId) (fn : Func) (hf : Tryz.pinned.checked.prog.funcNamed "loop.example/g00232/laws.FnSnaps" = some f) (hfn : Tryz.pinned.checked.prog.funcs[f]? = some fn) :
    true = Tryz.pinned.checked.prog.looks [] ∧ ∀ (j : Nat) t, fn.params[j]? = some t → Tryz.pinned.checked.prog.wantsStandIn t = false := by
  obtain rfl : f = 3 := Option.some.inj ((show Tryz.prog.funcNamed "loop.example/g00232/laws.FnSnaps" = some 3 by kernel_rfl).symm.trans hf) |>.symm
  obtain rfl : fn = Tryz.f3 := (Option.some.inj (Tryz.func3.symm.trans hfn)).symm
  refine ⟨by kernel_rfl, fun j t ht => ?_⟩
  rw [Tryz.params3] at ht
  obtain rfl : t = 22 := by simpa using Array.mem_of_getElem? ht
  exact (show Tryz.prog.wantsStandIn 22 = false by kernel_rfl)

theorem card : Rows.FnSnapsCardSaid :=
  Claim7.holds_tied_plain_at .later [] _ _ _ _ said (fun _ h => by cases h) (by kernel_rfl) (fun _ h => by cases h) fnSnaps_row_tie rfl ⟨rfl, rfl⟩ (by kernel_rfl) rfl plain (by kernel_rfl)
end Go.Proofs.YtoanhjjigbjecaaGreatDoor.fnSnaps
