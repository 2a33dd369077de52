/-
  For every slice of bytes, laws.FnKeepTexts returns true: a drawn right keep, and a drawn right command, come back from their texts; drawn texts that are one are the texts of it; nothing that was in memory is written. What the library's bytes.ErrTooLarge holds is tied to the program's text (the card).
-/
import Derived.Test.YtihgkocfgjihhaaDoorCards
import Derived.Test.YtihgkocfgjihhaaDoorTie
import Derived.Test.YtihgkocfgjihhaaDoorJoint29
import Derived.Test.YtihgkocfgjihhaaDoorJoint37
import Derived.Test.YtihgkocfgjihhaaDoorJoint40
import Derived.Test.YtihgkocfgjihhaaDoorJoint44
import Derived.Test.YtihgkocfgjihhaaDoorJoint16
import Derived.Test.YtihgkocfgjihhaaDoorJoint46
import Derived.Test.YtihgkocfgjihhaaDoorJoint47
import Derived.Test.YtihgkocfgjihhaaDoorJoint48
import Derived.Test.YtihgkocfgjihhaaDoorJoint17
import Derived.Test.YtihgkocfgjihhaaDoorJoint28
import Derived.Test.YtihgkocfgjihhaaDoorJoint20
import Derived.Deep.QuietTactic
import Derived.BigQuiet
import Derived.WalkSmall
import Derived.WalkKit
import Derived.ProofKit
import Derived.OpenShut
import Derived.OpenVars
import Derived.Deep.DeepHandedRow
import Derived.Lib.LaidTab
import Derived.Stop.LaidErr
namespace Go.Proofs.YtihgkocfgjihhaaDoor.fnKeepTexts
open Go.ChangeShapes Go.WideShapes Go.ChangeAt Go.ChangeMaps Go.RowKit

set_option maxRecDepth 1000000 in
set_option maxHeartbeats 4000000 in
theorem walk (ao : Option Addr) (len cap : Nat) (hcap : len ≤ cap) (w : World) (hr : Bytes w ao len) :
    Calls Tryd.prog 3 #[.slice ao len cap] w fun e w' => e = .returned (.bool true) ∧ Below w.heap.size w w' := by
  have HBY := hid hr
  clear hr
  by_cases hbig : 1048576 < len
  · go_enter Tryd.func3, Tryd.ntmps3
    go_wp2
    go_ret
    exact ⟨rfl, Below.refl _ _⟩
  have hlen : len ≤ 1048576 := by omega
  clear hbig
  have B_0 : Hid (Below w.heap.size w w) := hid (Below.refl w.heap.size w)
  go_enter Tryd.func3, Tryd.ntmps3
  go_wp2_with fail
  refine (big_no ao len cap hlen _).mono ?_
  rintro e w0 ⟨rfl, hw0⟩
  rw [hw0]
  clear hw0 w0
  go_wp2_with fail
  refine Calls.mono (drawKeepText_any ao len cap hlen hcap _ HBY.out) ?_
  rintro e w1 ⟨va, vc, vb, vd, ls, li, rfl, ⟨hl1, hl2⟩, qk, b1⟩
  have B_1 : Hid (Below w.heap.size w w1) := hid (below_via B_0.out b1)
  clear B_0
  clear b1
  have Qk_1 := hid qk
  clear qk
  obtain ⟨t, ok, hka, hko, hts, hkt⟩ := keep_told ls li
  have CK' := fun W ao bo ac bc h1 h2 => implKeepText_any ao bo ls li ac bc (by omega) (by omega) W h1 h2
  rw [hka] at CK'
  have CK := hid CK'
  clear CK' hka
  have CO' := fun W ao bo ac bc h1 h2 => specKeepOk_any ao bo ls li ac bc (by omega) (by omega) W h1 h2
  rw [← hko] at CO'
  have CO := hid CO'
  clear CO' hko
  have CR' := fun W => implReadKeep_any t (by omega) W
  have hsame := keep_self ls li
  have CS' := fun W va2 vc2 vb2 vd2 (p1 : SessionsAt W va2 ls) (p2 : ItemsAt W vb2 li) (p3 : SessionsAt W va ls) (p4 : ItemsAt W vb li) => implSameKeep_any va2 vb2 va vb ls ls li li vc2 vd2 vc vd (by omega) (by omega) (by omega) (by omega) W p1 p2 p3 p4
  rw [hsame] at CS'
  have CS := hid CS'
  clear CS' hsame
  obtain ⟨ms0, mi0, rb0, hr1, hr2, hr3, _, _⟩ := keep_asked t
  unfold rkDid at CR'
  rw [hr1, hr2, hr3] at CR'
  have HM : Hid (ok = true → ms0 = ls ∧ mi0 = li ∧ rb0 = true) := (show _ → _ from fun h => by
    have hq := (hkt h).2
    rw [hq] at hr1 hr2 hr3
    exact ⟨hr1.symm, hr2.symm, hr3.symm⟩)
  have CR := hid CR'
  clear CR' hr1 hr2 hr3 hkt hl1 hl2 hts
  obtain ⟨g0, hg0⟩ : ∃ g, w1.heap.size = g := ⟨_, rfl⟩
  obtain ⟨U0, hU0⟩ : ∃ V, (w1.alloc (.cells #[.slice none 0 0, .slice none 0 0] 27)) = V := ⟨_, rfl⟩
  have bz0 : Below g0 w1 U0 := by rw [← hg0, ← hU0]; exact below_more (Below.refl w1.heap.size w1) (.cells #[.slice none 0 0, .slice none 0 0] 27)
  have N0_0_0 : BlockIs U0 (g0) 27 [.slice none 0 0, .slice none 0 0] := by rw [← hg0, ← hU0]; exact heap_alloc_new _ _
  have o0_0 := N0_0_0.cell (j := 0) rfl
  have f0_0 := N0_0_0.thaw 0
  obtain ⟨V0_0, hV0_0⟩ : ∃ V, U0.setCell ⟨g0, 0, none⟩ (.slice va ls.length vc) = V := ⟨_, rfl⟩
  have N0_0_1 : BlockIs V0_0 (g0) 27 [.slice va ls.length vc, .slice none 0 0] := by rw [← hV0_0]; exact N0_0_0.set 0 _
  have bz0 : Below g0 w1 V0_0 := by rw [← hV0_0]; exact bz0.setCell (by show _ ≤ g0; omega) _
  have o0_1 := N0_0_1.cell (j := 1) rfl
  have f0_1 := N0_0_1.thaw 1
  obtain ⟨V0_1, hV0_1⟩ : ∃ V, V0_0.setCell ⟨g0, 1, none⟩ (.slice vb li.length vd) = V := ⟨_, rfl⟩
  have N0_0_2 : BlockIs V0_1 (g0) 27 [.slice va ls.length vc, .slice vb li.length vd] := by rw [← hV0_1]; exact N0_0_1.set 1 _
  have bz0 : Below g0 w1 V0_1 := by rw [← hV0_1]; exact bz0.setCell (by show _ ≤ g0; omega) _
  have hN0_0 := hid N0_0_2
  have p0_0_0 := hN0_0.out.cell (j := 0) rfl
  have p0_0_1 := hN0_0.out.cell (j := 1) rfl
  have bzz0 : Below w1.heap.size w1 V0_1 := by have h := bz0; rw [← hg0] at h; exact h
  clear bz0 N0_0_0 N0_0_1 N0_0_2
  have lo0 : w.heap.size ≤ g0 := by rw [← hg0]; exact B_1.out.size
  go_wp2_with fail
  clear o0_0 f0_0 o0_1 f0_1 p0_0_0 p0_0_1
  have Qk_2 : Hid (KRows V0_1 (w.heap.size) (.slice va ls.length vc) (.slice vb li.length vd) ls li) := hid (Qk_1.out.on bzz0)
  have B_2 : Hid (Below w.heap.size w V0_1) := hid (below_via B_1.out bzz0)
  clear Qk_1 B_1
  clear bzz0
  have Xk_2 := hN0_0
  refine Calls.mono (CK.out _ _ _ _ _ (sessionR_at Qk_2.out.1) (itemR_at Qk_2.out.2)) ?_
  rintro e w2 ⟨rfl, b_s⟩
  have Xk_3 : Hid (BlockIs w2 (g0) 27 [.slice va ls.length vc, .slice vb li.length vd]) := hid (Xk_2.out.on b_s Xk_2.out.lt)
  have Qk_3 : Hid (KRows w2 (w.heap.size) (.slice va ls.length vc) (.slice vb li.length vd) ls li) := hid (Qk_2.out.on b_s)
  have B_3 : Hid (Below w.heap.size w w2) := hid (below_via B_2.out b_s)
  clear Xk_2 Qk_2 B_2
  clear b_s
  have ck0_1 := Xk_3.out.cell (j := 0) rfl
  have ck1_1 := Xk_3.out.cell (j := 1) rfl
  go_wp2_with fail
  refine Calls.mono (CR.out _) ?_
  rintro e w3 ⟨va3, vc3, vb3, vd3, rfl, q3, b_s⟩
  dsimp only at q3 ⊢
  have Xk_4 : Hid (BlockIs w3 (g0) 27 [.slice va ls.length vc, .slice vb li.length vd]) := hid (Xk_3.out.on b_s Xk_3.out.lt)
  have Qk_4 : Hid (KRows w3 (w.heap.size) (.slice va ls.length vc) (.slice vb li.length vd) ls li) := hid (Qk_3.out.on b_s)
  have B_4 : Hid (Below w.heap.size w w3) := hid (below_via B_3.out b_s)
  clear ck0_1 ck1_1
  clear Xk_3 Qk_3 B_3
  clear b_s
  have Qg_4 : Hid (KRows w3 (w2.heap.size) (.slice va3 ms0.length vc3) (.slice vb3 mi0.length vd3) ms0 mi0) := hid q3
  clear q3 CK CR
  obtain ⟨g1, hg1⟩ : ∃ g, w3.heap.size = g := ⟨_, rfl⟩
  obtain ⟨U1, hU1⟩ : ∃ V, (w3.alloc (.cells #[.slice none 0 0, .slice none 0 0] 27)) = V := ⟨_, rfl⟩
  have bz1 : Below g1 w3 U1 := by rw [← hg1, ← hU1]; exact below_more (Below.refl w3.heap.size w3) (.cells #[.slice none 0 0, .slice none 0 0] 27)
  have N1_0_0 : BlockIs U1 (g1) 27 [.slice none 0 0, .slice none 0 0] := by rw [← hg1, ← hU1]; exact heap_alloc_new _ _
  have o1_0 := N1_0_0.cell (j := 0) rfl
  have f1_0 := N1_0_0.thaw 0
  obtain ⟨V1_0, hV1_0⟩ : ∃ V, U1.setCell ⟨g1, 0, none⟩ (.slice va3 ms0.length vc3) = V := ⟨_, rfl⟩
  have N1_0_1 : BlockIs V1_0 (g1) 27 [.slice va3 ms0.length vc3, .slice none 0 0] := by rw [← hV1_0]; exact N1_0_0.set 0 _
  have bz1 : Below g1 w3 V1_0 := by rw [← hV1_0]; exact bz1.setCell (by show _ ≤ g1; omega) _
  have o1_1 := N1_0_1.cell (j := 1) rfl
  have f1_1 := N1_0_1.thaw 1
  obtain ⟨V1_1, hV1_1⟩ : ∃ V, V1_0.setCell ⟨g1, 1, none⟩ (.slice vb3 mi0.length vd3) = V := ⟨_, rfl⟩
  have N1_0_2 : BlockIs V1_1 (g1) 27 [.slice va3 ms0.length vc3, .slice vb3 mi0.length vd3] := by rw [← hV1_1]; exact N1_0_1.set 1 _
  have bz1 : Below g1 w3 V1_1 := by rw [← hV1_1]; exact bz1.setCell (by show _ ≤ g1; omega) _
  have hN1_0 := hid N1_0_2
  have p1_0_0 := hN1_0.out.cell (j := 0) rfl
  have p1_0_1 := hN1_0.out.cell (j := 1) rfl
  have bzz1 : Below w3.heap.size w3 V1_1 := by have h := bz1; rw [← hg1] at h; exact h
  clear bz1 N1_0_0 N1_0_1 N1_0_2
  have ltk_1 : g0 < g1 := by rw [← hg1]; exact Xk_4.out.lt
  have lo1 : w.heap.size ≤ g1 := by rw [← hg1]; exact B_4.out.size
  have Zk := Xk_4.out.on bzz1 Xk_4.out.lt
  have zk0 := Zk.cell (j := 0) rfl
  have zk1 := Zk.cell (j := 1) rfl
  clear Zk
  go_wp2_with fail
  clear zk0 zk1
  clear o1_0 f1_0 o1_1 f1_1 p1_0_0 p1_0_1
  have Xk_5 : Hid (BlockIs V1_1 (g0) 27 [.slice va ls.length vc, .slice vb li.length vd]) := hid (Xk_4.out.on bzz1 Xk_4.out.lt)
  have Qk_5 : Hid (KRows V1_1 (w.heap.size) (.slice va ls.length vc) (.slice vb li.length vd) ls li) := hid (Qk_4.out.on bzz1)
  have Qg_5 : Hid (KRows V1_1 (w2.heap.size) (.slice va3 ms0.length vc3) (.slice vb3 mi0.length vd3) ms0 mi0) := hid (Qg_4.out.on bzz1)
  have B_5 : Hid (Below w.heap.size w V1_1) := hid (below_via B_4.out bzz1)
  clear Xk_4 Qk_4 Qg_4 B_4
  clear bzz1
  have Xg_5 := hN1_0
  refine Calls.mono (CO.out _ _ _ _ _ (sessionR_at Qk_5.out.1) (itemR_at Qk_5.out.2)) ?_
  rintro e w4 ⟨rfl, b_s⟩
  have Xk_6 : Hid (BlockIs w4 (g0) 27 [.slice va ls.length vc, .slice vb li.length vd]) := hid (Xk_5.out.on b_s Xk_5.out.lt)
  have Xg_6 : Hid (BlockIs w4 (g1) 27 [.slice va3 ms0.length vc3, .slice vb3 mi0.length vd3]) := hid (Xg_5.out.on b_s Xg_5.out.lt)
  have Qk_6 : Hid (KRows w4 (w.heap.size) (.slice va ls.length vc) (.slice vb li.length vd) ls li) := hid (Qk_5.out.on b_s)
  have Qg_6 : Hid (KRows w4 (w2.heap.size) (.slice va3 ms0.length vc3) (.slice vb3 mi0.length vd3) ms0 mi0) := hid (Qg_5.out.on b_s)
  have B_6 : Hid (Below w.heap.size w w4) := hid (below_via B_5.out b_s)
  clear Xk_5 Xg_5 Qk_5 Qg_5 B_5
  clear b_s
  clear CO
  have hoo : (ok != ok) = false := by cases ok <;> rfl
  have ck0_2 := Xk_6.out.cell (j := 0) rfl
  have ck1_2 := Xk_6.out.cell (j := 1) rfl
  have cg0_2 := Xg_6.out.cell (j := 0) rfl
  have cg1_2 := Xg_6.out.cell (j := 1) rfl
  skip
  cases ok
  · skip
    clear HM CS
    go_wp2_with fail
    refine (drawReadKeep_any ao len cap hlen hcap _ (bytes_on HBY.out B_6.out)).mono ?_
    rintro e w6 ⟨s, rfl, hs, b_s⟩
    have B_7 : Hid (Below w.heap.size w w6) := hid (below_via B_6.out b_s)
    clear ck0_2 ck1_2 cg0_2 cg1_2
    clear B_6
    clear b_s
    obtain ⟨xs, xi, xb, hx1, hx2, hx3, ⟨hx4, hx5⟩, u, uk, hxa, hxu⟩ := keep_asked s
    have CI' := fun W => implReadKeep_any s (by omega) W
    have CP' := fun W => specReadKeep_any s (by omega) W
    unfold rkDid at CI' CP'
    rw [hx1, hx2, hx3] at CI' CP'
    have CI := hid CI'
    have CP := hid CP'
    have CT' := fun W ao bo ac bc h1 h2 => implKeepText_any ao bo xs xi ac bc (by omega) (by omega) W h1 h2
    rw [hxa] at CT'
    have CT := hid CT'
    have HXU : Hid (xb = true → u = s) := (show _ → _ from hxu)
    clear CI' CP' CT' hx1 hx2 hx3 hx4 hx5 hxa hxu hs
    go_wp2_with fail
    refine Calls.mono (CI.out _) ?_
    rintro e w7 ⟨va4, vc4, vb4, vd4, rfl, q4, b_s⟩
    dsimp only at q4 ⊢
    have B_8 : Hid (Below w.heap.size w w7) := hid (below_via B_7.out b_s)
    clear B_7
    clear b_s
    have Qx_8 : Hid (KRows w7 (w6.heap.size) (.slice va4 xs.length vc4) (.slice vb4 xi.length vd4) xs xi) := hid q4
    clear q4 CI
    obtain ⟨g2, hg2⟩ : ∃ g, w7.heap.size = g := ⟨_, rfl⟩
    obtain ⟨U2, hU2⟩ : ∃ V, (w7.alloc (.cells #[.slice none 0 0, .slice none 0 0] 27)) = V := ⟨_, rfl⟩
    have bz2 : Below g2 w7 U2 := by rw [← hg2, ← hU2]; exact below_more (Below.refl w7.heap.size w7) (.cells #[.slice none 0 0, .slice none 0 0] 27)
    have N2_0_0 : BlockIs U2 (g2) 27 [.slice none 0 0, .slice none 0 0] := by rw [← hg2, ← hU2]; exact heap_alloc_new _ _
    have o2_0 := N2_0_0.cell (j := 0) rfl
    have f2_0 := N2_0_0.thaw 0
    obtain ⟨V2_0, hV2_0⟩ : ∃ V, U2.setCell ⟨g2, 0, none⟩ (.slice va4 xs.length vc4) = V := ⟨_, rfl⟩
    have N2_0_1 : BlockIs V2_0 (g2) 27 [.slice va4 xs.length vc4, .slice none 0 0] := by rw [← hV2_0]; exact N2_0_0.set 0 _
    have bz2 : Below g2 w7 V2_0 := by rw [← hV2_0]; exact bz2.setCell (by show _ ≤ g2; omega) _
    have o2_1 := N2_0_1.cell (j := 1) rfl
    have f2_1 := N2_0_1.thaw 1
    obtain ⟨V2_1, hV2_1⟩ : ∃ V, V2_0.setCell ⟨g2, 1, none⟩ (.slice vb4 xi.length vd4) = V := ⟨_, rfl⟩
    have N2_0_2 : BlockIs V2_1 (g2) 27 [.slice va4 xs.length vc4, .slice vb4 xi.length vd4] := by rw [← hV2_1]; exact N2_0_1.set 1 _
    have bz2 : Below g2 w7 V2_1 := by rw [← hV2_1]; exact bz2.setCell (by show _ ≤ g2; omega) _
    have hN2_0 := hid N2_0_2
    have p2_0_0 := hN2_0.out.cell (j := 0) rfl
    have p2_0_1 := hN2_0.out.cell (j := 1) rfl
    have bzz2 : Below w7.heap.size w7 V2_1 := by have h := bz2; rw [← hg2] at h; exact h
    clear bz2 N2_0_0 N2_0_1 N2_0_2
    have lo2 : w.heap.size ≤ g2 := by rw [← hg2]; exact B_8.out.size
    go_wp2_with fail
    clear o2_0 f2_0 o2_1 f2_1 p2_0_0 p2_0_1
    have Qx_9 : Hid (KRows V2_1 (w6.heap.size) (.slice va4 xs.length vc4) (.slice vb4 xi.length vd4) xs xi) := hid (Qx_8.out.on bzz2)
    have B_9 : Hid (Below w.heap.size w V2_1) := hid (below_via B_8.out bzz2)
    clear Qx_8 B_8
    clear bzz2
    have Xx_9 := hN2_0
    refine Calls.mono (CP.out _) ?_
    rintro e w8 ⟨va5, vc5, vb5, vd5, rfl, q5, b_s⟩
    dsimp only at q5 ⊢
    clear q5 CP
    have Xx_10 : Hid (BlockIs w8 (g2) 27 [.slice va4 xs.length vc4, .slice vb4 xi.length vd4]) := hid (Xx_9.out.on b_s Xx_9.out.lt)
    have Qx_10 : Hid (KRows w8 (w6.heap.size) (.slice va4 xs.length vc4) (.slice vb4 xi.length vd4) xs xi) := hid (Qx_9.out.on b_s)
    have B_10 : Hid (Below w.heap.size w w8) := hid (below_via B_9.out b_s)
    clear Xx_9 Qx_9 B_9
    clear b_s
    obtain ⟨g3, hg3⟩ : ∃ g, w8.heap.size = g := ⟨_, rfl⟩
    obtain ⟨U3, hU3⟩ : ∃ V, (w8.alloc (.cells #[.slice none 0 0, .slice none 0 0] 27)) = V := ⟨_, rfl⟩
    have bz3 : Below g3 w8 U3 := by rw [← hg3, ← hU3]; exact below_more (Below.refl w8.heap.size w8) (.cells #[.slice none 0 0, .slice none 0 0] 27)
    have N3_0_0 : BlockIs U3 (g3) 27 [.slice none 0 0, .slice none 0 0] := by rw [← hg3, ← hU3]; exact heap_alloc_new _ _
    have o3_0 := N3_0_0.cell (j := 0) rfl
    have f3_0 := N3_0_0.thaw 0
    obtain ⟨V3_0, hV3_0⟩ : ∃ V, U3.setCell ⟨g3, 0, none⟩ (.slice va5 xs.length vc5) = V := ⟨_, rfl⟩
    have N3_0_1 : BlockIs V3_0 (g3) 27 [.slice va5 xs.length vc5, .slice none 0 0] := by rw [← hV3_0]; exact N3_0_0.set 0 _
    have bz3 : Below g3 w8 V3_0 := by rw [← hV3_0]; exact bz3.setCell (by show _ ≤ g3; omega) _
    have o3_1 := N3_0_1.cell (j := 1) rfl
    have f3_1 := N3_0_1.thaw 1
    obtain ⟨V3_1, hV3_1⟩ : ∃ V, V3_0.setCell ⟨g3, 1, none⟩ (.slice vb5 xi.length vd5) = V := ⟨_, rfl⟩
    have N3_0_2 : BlockIs V3_1 (g3) 27 [.slice va5 xs.length vc5, .slice vb5 xi.length vd5] := by rw [← hV3_1]; exact N3_0_1.set 1 _
    have bz3 : Below g3 w8 V3_1 := by rw [← hV3_1]; exact bz3.setCell (by show _ ≤ g3; omega) _
    have hN3_0 := hid N3_0_2
    have p3_0_0 := hN3_0.out.cell (j := 0) rfl
    have p3_0_1 := hN3_0.out.cell (j := 1) rfl
    have bzz3 : Below w8.heap.size w8 V3_1 := by have h := bz3; rw [← hg3] at h; exact h
    clear bz3 N3_0_0 N3_0_1 N3_0_2
    have ltx_3 : g2 < g3 := by rw [← hg3]; exact Xx_10.out.lt
    have lo3 : w.heap.size ≤ g3 := by rw [← hg3]; exact B_10.out.size
    have Zx := Xx_10.out.on bzz3 Xx_10.out.lt
    have zx0 := Zx.cell (j := 0) rfl
    have zx1 := Zx.cell (j := 1) rfl
    clear Zx
    go_wp2_with fail
    clear zx0 zx1
    clear o3_0 f3_0 o3_1 f3_1 p3_0_0 p3_0_1
    have Xx_11 : Hid (BlockIs V3_1 (g2) 27 [.slice va4 xs.length vc4, .slice vb4 xi.length vd4]) := hid (Xx_10.out.on bzz3 Xx_10.out.lt)
    have Qx_11 : Hid (KRows V3_1 (w6.heap.size) (.slice va4 xs.length vc4) (.slice vb4 xi.length vd4) xs xi) := hid (Qx_10.out.on bzz3)
    have B_11 : Hid (Below w.heap.size w V3_1) := hid (below_via B_10.out bzz3)
    clear Xx_10 Qx_10 B_10
    clear bzz3
    have Xp_11 := hN3_0
    refine Calls.mono (CT.out _ _ _ _ _ (sessionR_at Qx_11.out.1) (itemR_at Qx_11.out.2)) ?_
    rintro e w9 ⟨rfl, b_s⟩
    have Xx_12 : Hid (BlockIs w9 (g2) 27 [.slice va4 xs.length vc4, .slice vb4 xi.length vd4]) := hid (Xx_11.out.on b_s Xx_11.out.lt)
    have Xp_12 : Hid (BlockIs w9 (g3) 27 [.slice va5 xs.length vc5, .slice vb5 xi.length vd5]) := hid (Xp_11.out.on b_s Xp_11.out.lt)
    have Qx_12 : Hid (KRows w9 (w6.heap.size) (.slice va4 xs.length vc4) (.slice vb4 xi.length vd4) xs xi) := hid (Qx_11.out.on b_s)
    have B_12 : Hid (Below w.heap.size w w9) := hid (below_via B_11.out b_s)
    clear Xx_11 Xp_11 Qx_11 B_11
    clear b_s
    have hxx : (xb != xb) = false := by cases xb <;> rfl
    have huq : xb = true → (u.toList == s.toList) = true ∧ (u.toList != s.toList) = false ∧ (!(u.toList == s.toList)) = false := fun h => by
      rw [HXU.out h]
      simp
    clear HXU CT
    have HUQ := hid huq
    clear huq
    cases xb
    · skip
      go_wp2_with fail
      refine (drawCommandText_any ao len cap hlen hcap _ (bytes_on HBY.out B_12.out)).mono ?_
      rintro e w10 ⟨d, rfl, b_s⟩
      clear HUQ hxx
      have B_13 : Hid (Below w.heap.size w w10) := hid (below_via B_12.out b_s)
      clear B_12
      clear b_s
      obtain ⟨u2, gd, hca, hco, hus, hcr⟩ := cmd_told d
      have CC' := fun W => implCommandText_any d W
      have CO' := fun W => specCommandOk_any d W
      rw [hca] at CC'
      rw [← hco] at CO'
      have CC := hid CC'
      have CO := hid CO'
      clear CC' CO' hca hco
      obtain ⟨y, yb, hya, hyd⟩ : ∃ (y : CommandD) (yb : Bool), readCmdAns u2 = .tuple #[.agg #[.int .i64 y.op, .int .i64 y.token, .int .i64 y.seq, .string y.key, .string y.val, .int .i64 y.ver], .bool yb] ∧ (gd = true → y = d ∧ yb = true) := by
        cases gd with
        | true => exact ⟨d, true, cmd_read_of (hcr rfl).2, fun _ => ⟨rfl, rfl⟩⟩
        | false =>
          obtain ⟨y, yb, hy, _⟩ := cmd_asked u2
          exact ⟨y, yb, hy, fun q => by cases q⟩
      have CY' := fun W => implReadCommand_any u2 (by omega) W
      rw [hya] at CY'
      have CY := hid CY'
      have HYD : Hid (gd = true → y = d ∧ yb = true) := (show _ → _ from hyd)
      clear CY' hya hyd hcr hus
      obtain ⟨g4, hg4⟩ : ∃ g, w10.heap.size = g := ⟨_, rfl⟩
      obtain ⟨U4, hU4⟩ : ∃ V, (w10.alloc (.cells #[.int .i64 0, .int .i64 0, .int .i64 0, .string ⟨#[]⟩, .string ⟨#[]⟩, .int .i64 0] 37)) = V := ⟨_, rfl⟩
      have bz4 : Below g4 w10 U4 := by rw [← hg4, ← hU4]; exact below_more (Below.refl w10.heap.size w10) (.cells #[.int .i64 0, .int .i64 0, .int .i64 0, .string ⟨#[]⟩, .string ⟨#[]⟩, .int .i64 0] 37)
      have N4_0_0 : BlockIs U4 (g4) 37 [.int .i64 0, .int .i64 0, .int .i64 0, .string ⟨#[]⟩, .string ⟨#[]⟩, .int .i64 0] := by rw [← hg4, ← hU4]; exact heap_alloc_new _ _
      have o4_0 := N4_0_0.cell (j := 0) rfl
      have f4_0 := N4_0_0.thaw 0
      obtain ⟨V4_0, hV4_0⟩ : ∃ V, U4.setCell ⟨g4, 0, none⟩ (.int .i64 d.op) = V := ⟨_, rfl⟩
      have N4_0_1 : BlockIs V4_0 (g4) 37 [.int .i64 d.op, .int .i64 0, .int .i64 0, .string ⟨#[]⟩, .string ⟨#[]⟩, .int .i64 0] := by rw [← hV4_0]; exact N4_0_0.set 0 _
      have bz4 : Below g4 w10 V4_0 := by rw [← hV4_0]; exact bz4.setCell (by show _ ≤ g4; omega) _
      have o4_1 := N4_0_1.cell (j := 1) rfl
      have f4_1 := N4_0_1.thaw 1
      obtain ⟨V4_1, hV4_1⟩ : ∃ V, V4_0.setCell ⟨g4, 1, none⟩ (.int .i64 d.token) = V := ⟨_, rfl⟩
      have N4_0_2 : BlockIs V4_1 (g4) 37 [.int .i64 d.op, .int .i64 d.token, .int .i64 0, .string ⟨#[]⟩, .string ⟨#[]⟩, .int .i64 0] := by rw [← hV4_1]; exact N4_0_1.set 1 _
      have bz4 : Below g4 w10 V4_1 := by rw [← hV4_1]; exact bz4.setCell (by show _ ≤ g4; omega) _
      have o4_2 := N4_0_2.cell (j := 2) rfl
      have f4_2 := N4_0_2.thaw 2
      obtain ⟨V4_2, hV4_2⟩ : ∃ V, V4_1.setCell ⟨g4, 2, none⟩ (.int .i64 d.seq) = V := ⟨_, rfl⟩
      have N4_0_3 : BlockIs V4_2 (g4) 37 [.int .i64 d.op, .int .i64 d.token, .int .i64 d.seq, .string ⟨#[]⟩, .string ⟨#[]⟩, .int .i64 0] := by rw [← hV4_2]; exact N4_0_2.set 2 _
      have bz4 : Below g4 w10 V4_2 := by rw [← hV4_2]; exact bz4.setCell (by show _ ≤ g4; omega) _
      have o4_3 := N4_0_3.cell (j := 3) rfl
      have f4_3 := N4_0_3.thaw 3
      obtain ⟨V4_3, hV4_3⟩ : ∃ V, V4_2.setCell ⟨g4, 3, none⟩ (.string d.key) = V := ⟨_, rfl⟩
      have N4_0_4 : BlockIs V4_3 (g4) 37 [.int .i64 d.op, .int .i64 d.token, .int .i64 d.seq, .string d.key, .string ⟨#[]⟩, .int .i64 0] := by rw [← hV4_3]; exact N4_0_3.set 3 _
      have bz4 : Below g4 w10 V4_3 := by rw [← hV4_3]; exact bz4.setCell (by show _ ≤ g4; omega) _
      have o4_4 := N4_0_4.cell (j := 4) rfl
      have f4_4 := N4_0_4.thaw 4
      obtain ⟨V4_4, hV4_4⟩ : ∃ V, V4_3.setCell ⟨g4, 4, none⟩ (.string d.val) = V := ⟨_, rfl⟩
      have N4_0_5 : BlockIs V4_4 (g4) 37 [.int .i64 d.op, .int .i64 d.token, .int .i64 d.seq, .string d.key, .string d.val, .int .i64 0] := by rw [← hV4_4]; exact N4_0_4.set 4 _
      have bz4 : Below g4 w10 V4_4 := by rw [← hV4_4]; exact bz4.setCell (by show _ ≤ g4; omega) _
      have o4_5 := N4_0_5.cell (j := 5) rfl
      have f4_5 := N4_0_5.thaw 5
      obtain ⟨V4_5, hV4_5⟩ : ∃ V, V4_4.setCell ⟨g4, 5, none⟩ (.int .i64 d.ver) = V := ⟨_, rfl⟩
      have N4_0_6 : BlockIs V4_5 (g4) 37 [.int .i64 d.op, .int .i64 d.token, .int .i64 d.seq, .string d.key, .string d.val, .int .i64 d.ver] := by rw [← hV4_5]; exact N4_0_5.set 5 _
      have bz4 : Below g4 w10 V4_5 := by rw [← hV4_5]; exact bz4.setCell (by show _ ≤ g4; omega) _
      have hN4_0 := hid N4_0_6
      have p4_0_0 := hN4_0.out.cell (j := 0) rfl
      have p4_0_1 := hN4_0.out.cell (j := 1) rfl
      have p4_0_2 := hN4_0.out.cell (j := 2) rfl
      have p4_0_3 := hN4_0.out.cell (j := 3) rfl
      have p4_0_4 := hN4_0.out.cell (j := 4) rfl
      have p4_0_5 := hN4_0.out.cell (j := 5) rfl
      have bzz4 : Below w10.heap.size w10 V4_5 := by have h := bz4; rw [← hg4] at h; exact h
      clear bz4 N4_0_0 N4_0_1 N4_0_2 N4_0_3 N4_0_4 N4_0_5 N4_0_6
      have lo4 : w.heap.size ≤ g4 := by rw [← hg4]; exact B_13.out.size
      go_wp2_with fail
      clear o4_0 f4_0 o4_1 f4_1 o4_2 f4_2 o4_3 f4_3 o4_4 f4_4 o4_5 f4_5 p4_0_0 p4_0_1 p4_0_2 p4_0_3 p4_0_4 p4_0_5
      have B_14 : Hid (Below w.heap.size w V4_5) := hid (below_via B_13.out bzz4)
      clear B_13
      clear bzz4
      have Xc_14 := hN4_0
      refine Calls.mono (CC.out _) ?_
      rintro e w11 ⟨rfl, b_s⟩
      have Xc_15 : Hid (BlockIs w11 (g4) 37 [.int .i64 d.op, .int .i64 d.token, .int .i64 d.seq, .string d.key, .string d.val, .int .i64 d.ver]) := hid (Xc_14.out.on b_s Xc_14.out.lt)
      have B_15 : Hid (Below w.heap.size w w11) := hid (below_via B_14.out b_s)
      clear Xc_14 B_14
      clear b_s
      go_wp2_with fail
      refine Calls.mono (CY.out _) ?_
      rintro e w12 ⟨rfl, b_s⟩
      have Xc_16 : Hid (BlockIs w12 (g4) 37 [.int .i64 d.op, .int .i64 d.token, .int .i64 d.seq, .string d.key, .string d.val, .int .i64 d.ver]) := hid (Xc_15.out.on b_s Xc_15.out.lt)
      have B_16 : Hid (Below w.heap.size w w12) := hid (below_via B_15.out b_s)
      clear Xc_15 B_15
      clear b_s
      obtain ⟨g5, hg5⟩ : ∃ g, w12.heap.size = g := ⟨_, rfl⟩
      obtain ⟨U5, hU5⟩ : ∃ V, (w12.alloc (.cells #[.int .i64 0, .int .i64 0, .int .i64 0, .string ⟨#[]⟩, .string ⟨#[]⟩, .int .i64 0] 37)) = V := ⟨_, rfl⟩
      have bz5 : Below g5 w12 U5 := by rw [← hg5, ← hU5]; exact below_more (Below.refl w12.heap.size w12) (.cells #[.int .i64 0, .int .i64 0, .int .i64 0, .string ⟨#[]⟩, .string ⟨#[]⟩, .int .i64 0] 37)
      have N5_0_0 : BlockIs U5 (g5) 37 [.int .i64 0, .int .i64 0, .int .i64 0, .string ⟨#[]⟩, .string ⟨#[]⟩, .int .i64 0] := by rw [← hg5, ← hU5]; exact heap_alloc_new _ _
      have o5_0 := N5_0_0.cell (j := 0) rfl
      have f5_0 := N5_0_0.thaw 0
      obtain ⟨V5_0, hV5_0⟩ : ∃ V, U5.setCell ⟨g5, 0, none⟩ (.int .i64 y.op) = V := ⟨_, rfl⟩
      have N5_0_1 : BlockIs V5_0 (g5) 37 [.int .i64 y.op, .int .i64 0, .int .i64 0, .string ⟨#[]⟩, .string ⟨#[]⟩, .int .i64 0] := by rw [← hV5_0]; exact N5_0_0.set 0 _
      have bz5 : Below g5 w12 V5_0 := by rw [← hV5_0]; exact bz5.setCell (by show _ ≤ g5; omega) _
      have o5_1 := N5_0_1.cell (j := 1) rfl
      have f5_1 := N5_0_1.thaw 1
      obtain ⟨V5_1, hV5_1⟩ : ∃ V, V5_0.setCell ⟨g5, 1, none⟩ (.int .i64 y.token) = V := ⟨_, rfl⟩
      have N5_0_2 : BlockIs V5_1 (g5) 37 [.int .i64 y.op, .int .i64 y.token, .int .i64 0, .string ⟨#[]⟩, .string ⟨#[]⟩, .int .i64 0] := by rw [← hV5_1]; exact N5_0_1.set 1 _
      have bz5 : Below g5 w12 V5_1 := by rw [← hV5_1]; exact bz5.setCell (by show _ ≤ g5; omega) _
      have o5_2 := N5_0_2.cell (j := 2) rfl
      have f5_2 := N5_0_2.thaw 2
      obtain ⟨V5_2, hV5_2⟩ : ∃ V, V5_1.setCell ⟨g5, 2, none⟩ (.int .i64 y.seq) = V := ⟨_, rfl⟩
      have N5_0_3 : BlockIs V5_2 (g5) 37 [.int .i64 y.op, .int .i64 y.token, .int .i64 y.seq, .string ⟨#[]⟩, .string ⟨#[]⟩, .int .i64 0] := by rw [← hV5_2]; exact N5_0_2.set 2 _
      have bz5 : Below g5 w12 V5_2 := by rw [← hV5_2]; exact bz5.setCell (by show _ ≤ g5; omega) _
      have o5_3 := N5_0_3.cell (j := 3) rfl
      have f5_3 := N5_0_3.thaw 3
      obtain ⟨V5_3, hV5_3⟩ : ∃ V, V5_2.setCell ⟨g5, 3, none⟩ (.string y.key) = V := ⟨_, rfl⟩
      have N5_0_4 : BlockIs V5_3 (g5) 37 [.int .i64 y.op, .int .i64 y.token, .int .i64 y.seq, .string y.key, .string ⟨#[]⟩, .int .i64 0] := by rw [← hV5_3]; exact N5_0_3.set 3 _
      have bz5 : Below g5 w12 V5_3 := by rw [← hV5_3]; exact bz5.setCell (by show _ ≤ g5; omega) _
      have o5_4 := N5_0_4.cell (j := 4) rfl
      have f5_4 := N5_0_4.thaw 4
      obtain ⟨V5_4, hV5_4⟩ : ∃ V, V5_3.setCell ⟨g5, 4, none⟩ (.string y.val) = V := ⟨_, rfl⟩
      have N5_0_5 : BlockIs V5_4 (g5) 37 [.int .i64 y.op, .int .i64 y.token, .int .i64 y.seq, .string y.key, .string y.val, .int .i64 0] := by rw [← hV5_4]; exact N5_0_4.set 4 _
      have bz5 : Below g5 w12 V5_4 := by rw [← hV5_4]; exact bz5.setCell (by show _ ≤ g5; omega) _
      have o5_5 := N5_0_5.cell (j := 5) rfl
      have f5_5 := N5_0_5.thaw 5
      obtain ⟨V5_5, hV5_5⟩ : ∃ V, V5_4.setCell ⟨g5, 5, none⟩ (.int .i64 y.ver) = V := ⟨_, rfl⟩
      have N5_0_6 : BlockIs V5_5 (g5) 37 [.int .i64 y.op, .int .i64 y.token, .int .i64 y.seq, .string y.key, .string y.val, .int .i64 y.ver] := by rw [← hV5_5]; exact N5_0_5.set 5 _
      have bz5 : Below g5 w12 V5_5 := by rw [← hV5_5]; exact bz5.setCell (by show _ ≤ g5; omega) _
      have hN5_0 := hid N5_0_6
      have p5_0_0 := hN5_0.out.cell (j := 0) rfl
      have p5_0_1 := hN5_0.out.cell (j := 1) rfl
      have p5_0_2 := hN5_0.out.cell (j := 2) rfl
      have p5_0_3 := hN5_0.out.cell (j := 3) rfl
      have p5_0_4 := hN5_0.out.cell (j := 4) rfl
      have p5_0_5 := hN5_0.out.cell (j := 5) rfl
      have bzz5 : Below w12.heap.size w12 V5_5 := by have h := bz5; rw [← hg5] at h; exact h
      clear bz5 N5_0_0 N5_0_1 N5_0_2 N5_0_3 N5_0_4 N5_0_5 N5_0_6
      have ltc_5 : g4 < g5 := by rw [← hg5]; exact Xc_16.out.lt
      have lo5 : w.heap.size ≤ g5 := by rw [← hg5]; exact B_16.out.size
      go_wp2_with fail
      clear o5_0 f5_0 o5_1 f5_1 o5_2 f5_2 o5_3 f5_3 o5_4 f5_4 o5_5 f5_5 p5_0_0 p5_0_1 p5_0_2 p5_0_3 p5_0_4 p5_0_5
      have Xc_17 : Hid (BlockIs V5_5 (g4) 37 [.int .i64 d.op, .int .i64 d.token, .int .i64 d.seq, .string d.key, .string d.val, .int .i64 d.ver]) := hid (Xc_16.out.on bzz5 Xc_16.out.lt)
      have B_17 : Hid (Below w.heap.size w V5_5) := hid (below_via B_16.out bzz5)
      clear Xc_16 B_16
      clear bzz5
      have Xy_17 := hN5_0
      refine (drawReadCommand_any ao len cap hlen hcap _ (bytes_on HBY.out B_17.out)).mono ?_
      rintro e w13 ⟨v, rfl, hv, b_s⟩
      have Xc_18 : Hid (BlockIs w13 (g4) 37 [.int .i64 d.op, .int .i64 d.token, .int .i64 d.seq, .string d.key, .string d.val, .int .i64 d.ver]) := hid (Xc_17.out.on b_s Xc_17.out.lt)
      have Xy_18 : Hid (BlockIs w13 (g5) 37 [.int .i64 y.op, .int .i64 y.token, .int .i64 y.seq, .string y.key, .string y.val, .int .i64 y.ver]) := hid (Xy_17.out.on b_s Xy_17.out.lt)
      have B_18 : Hid (Below w.heap.size w w13) := hid (below_via B_17.out b_s)
      clear Xc_17 Xy_17 B_17
      clear b_s
      obtain ⟨z, zb, hza, bt, bk, hbk, hbt⟩ := cmd_asked v
      have CZ' := fun W => implReadCommand_any v (by omega) W
      have CQ' := fun W => specReadCommand_any v (by omega) W
      rw [hza] at CZ' CQ'
      have CZ := hid CZ'
      have CQ := hid CQ'
      have CB' := fun W => implCommandText_any z W
      rw [hbk] at CB'
      have CB := hid CB'
      have HBT : Hid (zb = true → bt = v) := (show _ → _ from hbt)
      clear CZ' CQ' CB' hza hbk hbt hv CC CY
      go_wp2_with fail
      refine Calls.mono (CZ.out _) ?_
      rintro e w14 ⟨rfl, b_s⟩
      have Xc_19 : Hid (BlockIs w14 (g4) 37 [.int .i64 d.op, .int .i64 d.token, .int .i64 d.seq, .string d.key, .string d.val, .int .i64 d.ver]) := hid (Xc_18.out.on b_s Xc_18.out.lt)
      have Xy_19 : Hid (BlockIs w14 (g5) 37 [.int .i64 y.op, .int .i64 y.token, .int .i64 y.seq, .string y.key, .string y.val, .int .i64 y.ver]) := hid (Xy_18.out.on b_s Xy_18.out.lt)
      have B_19 : Hid (Below w.heap.size w w14) := hid (below_via B_18.out b_s)
      clear Xc_18 Xy_18 B_18
      clear b_s
      obtain ⟨g6, hg6⟩ : ∃ g, w14.heap.size = g := ⟨_, rfl⟩
      obtain ⟨U6, hU6⟩ : ∃ V, (w14.alloc (.cells #[.int .i64 0, .int .i64 0, .int .i64 0, .string ⟨#[]⟩, .string ⟨#[]⟩, .int .i64 0] 37)) = V := ⟨_, rfl⟩
      have bz6 : Below g6 w14 U6 := by rw [← hg6, ← hU6]; exact below_more (Below.refl w14.heap.size w14) (.cells #[.int .i64 0, .int .i64 0, .int .i64 0, .string ⟨#[]⟩, .string ⟨#[]⟩, .int .i64 0] 37)
      have N6_0_0 : BlockIs U6 (g6) 37 [.int .i64 0, .int .i64 0, .int .i64 0, .string ⟨#[]⟩, .string ⟨#[]⟩, .int .i64 0] := by rw [← hg6, ← hU6]; exact heap_alloc_new _ _
      have o6_0 := N6_0_0.cell (j := 0) rfl
      have f6_0 := N6_0_0.thaw 0
      obtain ⟨V6_0, hV6_0⟩ : ∃ V, U6.setCell ⟨g6, 0, none⟩ (.int .i64 z.op) = V := ⟨_, rfl⟩
      have N6_0_1 : BlockIs V6_0 (g6) 37 [.int .i64 z.op, .int .i64 0, .int .i64 0, .string ⟨#[]⟩, .string ⟨#[]⟩, .int .i64 0] := by rw [← hV6_0]; exact N6_0_0.set 0 _
      have bz6 : Below g6 w14 V6_0 := by rw [← hV6_0]; exact bz6.setCell (by show _ ≤ g6; omega) _
      have o6_1 := N6_0_1.cell (j := 1) rfl
      have f6_1 := N6_0_1.thaw 1
      obtain ⟨V6_1, hV6_1⟩ : ∃ V, V6_0.setCell ⟨g6, 1, none⟩ (.int .i64 z.token) = V := ⟨_, rfl⟩
      have N6_0_2 : BlockIs V6_1 (g6) 37 [.int .i64 z.op, .int .i64 z.token, .int .i64 0, .string ⟨#[]⟩, .string ⟨#[]⟩, .int .i64 0] := by rw [← hV6_1]; exact N6_0_1.set 1 _
      have bz6 : Below g6 w14 V6_1 := by rw [← hV6_1]; exact bz6.setCell (by show _ ≤ g6; omega) _
      have o6_2 := N6_0_2.cell (j := 2) rfl
      have f6_2 := N6_0_2.thaw 2
      obtain ⟨V6_2, hV6_2⟩ : ∃ V, V6_1.setCell ⟨g6, 2, none⟩ (.int .i64 z.seq) = V := ⟨_, rfl⟩
      have N6_0_3 : BlockIs V6_2 (g6) 37 [.int .i64 z.op, .int .i64 z.token, .int .i64 z.seq, .string ⟨#[]⟩, .string ⟨#[]⟩, .int .i64 0] := by rw [← hV6_2]; exact N6_0_2.set 2 _
      have bz6 : Below g6 w14 V6_2 := by rw [← hV6_2]; exact bz6.setCell (by show _ ≤ g6; omega) _
      have o6_3 := N6_0_3.cell (j := 3) rfl
      have f6_3 := N6_0_3.thaw 3
      obtain ⟨V6_3, hV6_3⟩ : ∃ V, V6_2.setCell ⟨g6, 3, none⟩ (.string z.key) = V := ⟨_, rfl⟩
      have N6_0_4 : BlockIs V6_3 (g6) 37 [.int .i64 z.op, .int .i64 z.token, .int .i64 z.seq, .string z.key, .string ⟨#[]⟩, .int .i64 0] := by rw [← hV6_3]; exact N6_0_3.set 3 _
      have bz6 : Below g6 w14 V6_3 := by rw [← hV6_3]; exact bz6.setCell (by show _ ≤ g6; omega) _
      have o6_4 := N6_0_4.cell (j := 4) rfl
      have f6_4 := N6_0_4.thaw 4
      obtain ⟨V6_4, hV6_4⟩ : ∃ V, V6_3.setCell ⟨g6, 4, none⟩ (.string z.val) = V := ⟨_, rfl⟩
      have N6_0_5 : BlockIs V6_4 (g6) 37 [.int .i64 z.op, .int .i64 z.token, .int .i64 z.seq, .string z.key, .string z.val, .int .i64 0] := by rw [← hV6_4]; exact N6_0_4.set 4 _
      have bz6 : Below g6 w14 V6_4 := by rw [← hV6_4]; exact bz6.setCell (by show _ ≤ g6; omega) _
      have o6_5 := N6_0_5.cell (j := 5) rfl
      have f6_5 := N6_0_5.thaw 5
      obtain ⟨V6_5, hV6_5⟩ : ∃ V, V6_4.setCell ⟨g6, 5, none⟩ (.int .i64 z.ver) = V := ⟨_, rfl⟩
      have N6_0_6 : BlockIs V6_5 (g6) 37 [.int .i64 z.op, .int .i64 z.token, .int .i64 z.seq, .string z.key, .string z.val, .int .i64 z.ver] := by rw [← hV6_5]; exact N6_0_5.set 5 _
      have bz6 : Below g6 w14 V6_5 := by rw [← hV6_5]; exact bz6.setCell (by show _ ≤ g6; omega) _
      have hN6_0 := hid N6_0_6
      have p6_0_0 := hN6_0.out.cell (j := 0) rfl
      have p6_0_1 := hN6_0.out.cell (j := 1) rfl
      have p6_0_2 := hN6_0.out.cell (j := 2) rfl
      have p6_0_3 := hN6_0.out.cell (j := 3) rfl
      have p6_0_4 := hN6_0.out.cell (j := 4) rfl
      have p6_0_5 := hN6_0.out.cell (j := 5) rfl
      have bzz6 : Below w14.heap.size w14 V6_5 := by have h := bz6; rw [← hg6] at h; exact h
      clear bz6 N6_0_0 N6_0_1 N6_0_2 N6_0_3 N6_0_4 N6_0_5 N6_0_6
      have ltc_6 : g4 < g6 := by rw [← hg6]; exact Xc_19.out.lt
      have lty_6 : g5 < g6 := by rw [← hg6]; exact Xy_19.out.lt
      have lo6 : w.heap.size ≤ g6 := by rw [← hg6]; exact B_19.out.size
      go_wp2_with fail
      clear o6_0 f6_0 o6_1 f6_1 o6_2 f6_2 o6_3 f6_3 o6_4 f6_4 o6_5 f6_5 p6_0_0 p6_0_1 p6_0_2 p6_0_3 p6_0_4 p6_0_5
      have Xc_20 : Hid (BlockIs V6_5 (g4) 37 [.int .i64 d.op, .int .i64 d.token, .int .i64 d.seq, .string d.key, .string d.val, .int .i64 d.ver]) := hid (Xc_19.out.on bzz6 Xc_19.out.lt)
      have Xy_20 : Hid (BlockIs V6_5 (g5) 37 [.int .i64 y.op, .int .i64 y.token, .int .i64 y.seq, .string y.key, .string y.val, .int .i64 y.ver]) := hid (Xy_19.out.on bzz6 Xy_19.out.lt)
      have B_20 : Hid (Below w.heap.size w V6_5) := hid (below_via B_19.out bzz6)
      clear Xc_19 Xy_19 B_19
      clear bzz6
      have Xz_20 := hN6_0
      refine Calls.mono (CQ.out _) ?_
      rintro e w15 ⟨rfl, b_s⟩
      have Xc_21 : Hid (BlockIs w15 (g4) 37 [.int .i64 d.op, .int .i64 d.token, .int .i64 d.seq, .string d.key, .string d.val, .int .i64 d.ver]) := hid (Xc_20.out.on b_s Xc_20.out.lt)
      have Xy_21 : Hid (BlockIs w15 (g5) 37 [.int .i64 y.op, .int .i64 y.token, .int .i64 y.seq, .string y.key, .string y.val, .int .i64 y.ver]) := hid (Xy_20.out.on b_s Xy_20.out.lt)
      have Xz_21 : Hid (BlockIs w15 (g6) 37 [.int .i64 z.op, .int .i64 z.token, .int .i64 z.seq, .string z.key, .string z.val, .int .i64 z.ver]) := hid (Xz_20.out.on b_s Xz_20.out.lt)
      have B_21 : Hid (Below w.heap.size w w15) := hid (below_via B_20.out b_s)
      clear Xc_20 Xy_20 Xz_20 B_20
      clear b_s
      obtain ⟨g7, hg7⟩ : ∃ g, w15.heap.size = g := ⟨_, rfl⟩
      obtain ⟨U7, hU7⟩ : ∃ V, (w15.alloc (.cells #[.int .i64 0, .int .i64 0, .int .i64 0, .string ⟨#[]⟩, .string ⟨#[]⟩, .int .i64 0] 37)) = V := ⟨_, rfl⟩
      have bz7 : Below g7 w15 U7 := by rw [← hg7, ← hU7]; exact below_more (Below.refl w15.heap.size w15) (.cells #[.int .i64 0, .int .i64 0, .int .i64 0, .string ⟨#[]⟩, .string ⟨#[]⟩, .int .i64 0] 37)
      have N7_0_0 : BlockIs U7 (g7) 37 [.int .i64 0, .int .i64 0, .int .i64 0, .string ⟨#[]⟩, .string ⟨#[]⟩, .int .i64 0] := by rw [← hg7, ← hU7]; exact heap_alloc_new _ _
      have o7_0 := N7_0_0.cell (j := 0) rfl
      have f7_0 := N7_0_0.thaw 0
      obtain ⟨V7_0, hV7_0⟩ : ∃ V, U7.setCell ⟨g7, 0, none⟩ (.int .i64 z.op) = V := ⟨_, rfl⟩
      have N7_0_1 : BlockIs V7_0 (g7) 37 [.int .i64 z.op, .int .i64 0, .int .i64 0, .string ⟨#[]⟩, .string ⟨#[]⟩, .int .i64 0] := by rw [← hV7_0]; exact N7_0_0.set 0 _
      have bz7 : Below g7 w15 V7_0 := by rw [← hV7_0]; exact bz7.setCell (by show _ ≤ g7; omega) _
      have o7_1 := N7_0_1.cell (j := 1) rfl
      have f7_1 := N7_0_1.thaw 1
      obtain ⟨V7_1, hV7_1⟩ : ∃ V, V7_0.setCell ⟨g7, 1, none⟩ (.int .i64 z.token) = V := ⟨_, rfl⟩
      have N7_0_2 : BlockIs V7_1 (g7) 37 [.int .i64 z.op, .int .i64 z.token, .int .i64 0, .string ⟨#[]⟩, .string ⟨#[]⟩, .int .i64 0] := by rw [← hV7_1]; exact N7_0_1.set 1 _
      have bz7 : Below g7 w15 V7_1 := by rw [← hV7_1]; exact bz7.setCell (by show _ ≤ g7; omega) _
      have o7_2 := N7_0_2.cell (j := 2) rfl
      have f7_2 := N7_0_2.thaw 2
      obtain ⟨V7_2, hV7_2⟩ : ∃ V, V7_1.setCell ⟨g7, 2, none⟩ (.int .i64 z.seq) = V := ⟨_, rfl⟩
      have N7_0_3 : BlockIs V7_2 (g7) 37 [.int .i64 z.op, .int .i64 z.token, .int .i64 z.seq, .string ⟨#[]⟩, .string ⟨#[]⟩, .int .i64 0] := by rw [← hV7_2]; exact N7_0_2.set 2 _
      have bz7 : Below g7 w15 V7_2 := by rw [← hV7_2]; exact bz7.setCell (by show _ ≤ g7; omega) _
      have o7_3 := N7_0_3.cell (j := 3) rfl
      have f7_3 := N7_0_3.thaw 3
      obtain ⟨V7_3, hV7_3⟩ : ∃ V, V7_2.setCell ⟨g7, 3, none⟩ (.string z.key) = V := ⟨_, rfl⟩
      have N7_0_4 : BlockIs V7_3 (g7) 37 [.int .i64 z.op, .int .i64 z.token, .int .i64 z.seq, .string z.key, .string ⟨#[]⟩, .int .i64 0] := by rw [← hV7_3]; exact N7_0_3.set 3 _
      have bz7 : Below g7 w15 V7_3 := by rw [← hV7_3]; exact bz7.setCell (by show _ ≤ g7; omega) _
      have o7_4 := N7_0_4.cell (j := 4) rfl
      have f7_4 := N7_0_4.thaw 4
      obtain ⟨V7_4, hV7_4⟩ : ∃ V, V7_3.setCell ⟨g7, 4, none⟩ (.string z.val) = V := ⟨_, rfl⟩
      have N7_0_5 : BlockIs V7_4 (g7) 37 [.int .i64 z.op, .int .i64 z.token, .int .i64 z.seq, .string z.key, .string z.val, .int .i64 0] := by rw [← hV7_4]; exact N7_0_4.set 4 _
      have bz7 : Below g7 w15 V7_4 := by rw [← hV7_4]; exact bz7.setCell (by show _ ≤ g7; omega) _
      have o7_5 := N7_0_5.cell (j := 5) rfl
      have f7_5 := N7_0_5.thaw 5
      obtain ⟨V7_5, hV7_5⟩ : ∃ V, V7_4.setCell ⟨g7, 5, none⟩ (.int .i64 z.ver) = V := ⟨_, rfl⟩
      have N7_0_6 : BlockIs V7_5 (g7) 37 [.int .i64 z.op, .int .i64 z.token, .int .i64 z.seq, .string z.key, .string z.val, .int .i64 z.ver] := by rw [← hV7_5]; exact N7_0_5.set 5 _
      have bz7 : Below g7 w15 V7_5 := by rw [← hV7_5]; exact bz7.setCell (by show _ ≤ g7; omega) _
      have hN7_0 := hid N7_0_6
      have p7_0_0 := hN7_0.out.cell (j := 0) rfl
      have p7_0_1 := hN7_0.out.cell (j := 1) rfl
      have p7_0_2 := hN7_0.out.cell (j := 2) rfl
      have p7_0_3 := hN7_0.out.cell (j := 3) rfl
      have p7_0_4 := hN7_0.out.cell (j := 4) rfl
      have p7_0_5 := hN7_0.out.cell (j := 5) rfl
      have bzz7 : Below w15.heap.size w15 V7_5 := by have h := bz7; rw [← hg7] at h; exact h
      clear bz7 N7_0_0 N7_0_1 N7_0_2 N7_0_3 N7_0_4 N7_0_5 N7_0_6
      have ltc_7 : g4 < g7 := by rw [← hg7]; exact Xc_21.out.lt
      have lty_7 : g5 < g7 := by rw [← hg7]; exact Xy_21.out.lt
      have ltz_7 : g6 < g7 := by rw [← hg7]; exact Xz_21.out.lt
      have lo7 : w.heap.size ≤ g7 := by rw [← hg7]; exact B_21.out.size
      have Zz := Xz_21.out.on bzz7 Xz_21.out.lt
      have zz0 := Zz.cell (j := 0) rfl
      have zz1 := Zz.cell (j := 1) rfl
      have zz2 := Zz.cell (j := 2) rfl
      have zz3 := Zz.cell (j := 3) rfl
      have zz4 := Zz.cell (j := 4) rfl
      have zz5 := Zz.cell (j := 5) rfl
      clear Zz
      go_wp2_with fail
      clear zz0 zz1 zz2 zz3 zz4 zz5
      clear o7_0 f7_0 o7_1 f7_1 o7_2 f7_2 o7_3 f7_3 o7_4 f7_4 o7_5 f7_5 p7_0_0 p7_0_1 p7_0_2 p7_0_3 p7_0_4 p7_0_5
      have Xc_22 : Hid (BlockIs V7_5 (g4) 37 [.int .i64 d.op, .int .i64 d.token, .int .i64 d.seq, .string d.key, .string d.val, .int .i64 d.ver]) := hid (Xc_21.out.on bzz7 Xc_21.out.lt)
      have Xy_22 : Hid (BlockIs V7_5 (g5) 37 [.int .i64 y.op, .int .i64 y.token, .int .i64 y.seq, .string y.key, .string y.val, .int .i64 y.ver]) := hid (Xy_21.out.on bzz7 Xy_21.out.lt)
      have Xz_22 : Hid (BlockIs V7_5 (g6) 37 [.int .i64 z.op, .int .i64 z.token, .int .i64 z.seq, .string z.key, .string z.val, .int .i64 z.ver]) := hid (Xz_21.out.on bzz7 Xz_21.out.lt)
      have B_22 : Hid (Below w.heap.size w V7_5) := hid (below_via B_21.out bzz7)
      clear Xc_21 Xy_21 Xz_21 B_21
      clear bzz7
      have Xo_22 := hN7_0
      refine Calls.mono (CB.out _) ?_
      rintro e w16 ⟨rfl, b_s⟩
      have Xc_23 : Hid (BlockIs w16 (g4) 37 [.int .i64 d.op, .int .i64 d.token, .int .i64 d.seq, .string d.key, .string d.val, .int .i64 d.ver]) := hid (Xc_22.out.on b_s Xc_22.out.lt)
      have Xy_23 : Hid (BlockIs w16 (g5) 37 [.int .i64 y.op, .int .i64 y.token, .int .i64 y.seq, .string y.key, .string y.val, .int .i64 y.ver]) := hid (Xy_22.out.on b_s Xy_22.out.lt)
      have Xz_23 : Hid (BlockIs w16 (g6) 37 [.int .i64 z.op, .int .i64 z.token, .int .i64 z.seq, .string z.key, .string z.val, .int .i64 z.ver]) := hid (Xz_22.out.on b_s Xz_22.out.lt)
      have Xo_23 : Hid (BlockIs w16 (g7) 37 [.int .i64 z.op, .int .i64 z.token, .int .i64 z.seq, .string z.key, .string z.val, .int .i64 z.ver]) := hid (Xo_22.out.on b_s Xo_22.out.lt)
      have B_23 : Hid (Below w.heap.size w w16) := hid (below_via B_22.out b_s)
      clear Xc_22 Xy_22 Xz_22 Xo_22 B_22
      clear b_s
      have cc0_3 := Xc_23.out.cell (j := 0) rfl
      have cc1_3 := Xc_23.out.cell (j := 1) rfl
      have cc2_3 := Xc_23.out.cell (j := 2) rfl
      have cc3_3 := Xc_23.out.cell (j := 3) rfl
      have cc4_3 := Xc_23.out.cell (j := 4) rfl
      have cc5_3 := Xc_23.out.cell (j := 5) rfl
      have cy0_3 := Xy_23.out.cell (j := 0) rfl
      have cy1_3 := Xy_23.out.cell (j := 1) rfl
      have cy2_3 := Xy_23.out.cell (j := 2) rfl
      have cy3_3 := Xy_23.out.cell (j := 3) rfl
      have cy4_3 := Xy_23.out.cell (j := 4) rfl
      have cy5_3 := Xy_23.out.cell (j := 5) rfl
      go_wp2_with fail
      refine Calls.mono (CO.out _) ?_
      rintro e w17 ⟨rfl, b_s⟩
      have Xc_24 : Hid (BlockIs w17 (g4) 37 [.int .i64 d.op, .int .i64 d.token, .int .i64 d.seq, .string d.key, .string d.val, .int .i64 d.ver]) := hid (Xc_23.out.on b_s Xc_23.out.lt)
      have Xy_24 : Hid (BlockIs w17 (g5) 37 [.int .i64 y.op, .int .i64 y.token, .int .i64 y.seq, .string y.key, .string y.val, .int .i64 y.ver]) := hid (Xy_23.out.on b_s Xy_23.out.lt)
      have Xz_24 : Hid (BlockIs w17 (g6) 37 [.int .i64 z.op, .int .i64 z.token, .int .i64 z.seq, .string z.key, .string z.val, .int .i64 z.ver]) := hid (Xz_23.out.on b_s Xz_23.out.lt)
      have Xo_24 : Hid (BlockIs w17 (g7) 37 [.int .i64 z.op, .int .i64 z.token, .int .i64 z.seq, .string z.key, .string z.val, .int .i64 z.ver]) := hid (Xo_23.out.on b_s Xo_23.out.lt)
      have B_24 : Hid (Below w.heap.size w w17) := hid (below_via B_23.out b_s)
      clear cc0_3 cc1_3 cc2_3 cc3_3 cc4_3 cc5_3 cy0_3 cy1_3 cy2_3 cy3_3 cy4_3 cy5_3
      clear Xc_23 Xy_23 Xz_23 Xo_23 B_23
      clear b_s
      clear CZ CQ CB CO
      have heq := fun w => eq_Command y.op y.token y.seq y.key y.val y.ver w
      have hgd := fun a b w => guard_Command a b #[.int .i64 y.op, .int .i64 y.token, .int .i64 y.seq, .string y.key, .string y.val, .int .i64 y.ver] #[.int .i64 y.op, .int .i64 y.token, .int .i64 y.seq, .string y.key, .string y.val, .int .i64 y.ver] w
      have hgg : (gd == gd) = true := by cases gd <;> rfl
      have hzz : (zb == zb) = true := by cases zb <;> rfl
      cases gd
      · skip
        cases zb
        · skip
          go_wp2
          go_ret
          exact ⟨rfl, B_24.out⟩
        · skip
          have hbt := HBT.out rfl
          subst hbt
          have htt : (bt.toList == bt.toList) = true := by simp
          go_wp2
          go_ret
          exact ⟨rfl, B_24.out⟩
      · skip
        obtain ⟨hyd, hyb⟩ := HYD.out rfl
        subst hyd hyb
        have cc0_4 := Xc_24.out.cell (j := 0) rfl
        have cc1_4 := Xc_24.out.cell (j := 1) rfl
        have cc2_4 := Xc_24.out.cell (j := 2) rfl
        have cc3_4 := Xc_24.out.cell (j := 3) rfl
        have cc4_4 := Xc_24.out.cell (j := 4) rfl
        have cc5_4 := Xc_24.out.cell (j := 5) rfl
        have cy0_4 := Xy_24.out.cell (j := 0) rfl
        have cy1_4 := Xy_24.out.cell (j := 1) rfl
        have cy2_4 := Xy_24.out.cell (j := 2) rfl
        have cy3_4 := Xy_24.out.cell (j := 3) rfl
        have cy4_4 := Xy_24.out.cell (j := 4) rfl
        have cy5_4 := Xy_24.out.cell (j := 5) rfl
        cases zb
        · skip
          go_wp2
          go_ret
          exact ⟨rfl, B_24.out⟩
        · skip
          have hbt := HBT.out rfl
          subst hbt
          have htt : (bt.toList == bt.toList) = true := by simp
          go_wp2
          go_ret
          exact ⟨rfl, B_24.out⟩
    · skip
      obtain ⟨hu1, hu2, hu3⟩ := HUQ.out rfl
      go_wp2_with fail
      refine (drawCommandText_any ao len cap hlen hcap _ (bytes_on HBY.out B_12.out)).mono ?_
      rintro e w10 ⟨d, rfl, b_s⟩
      clear hu1 hu2 hu3
      clear HUQ hxx
      have B_13 : Hid (Below w.heap.size w w10) := hid (below_via B_12.out b_s)
      clear B_12
      clear b_s
      obtain ⟨u2, gd, hca, hco, hus, hcr⟩ := cmd_told d
      have CC' := fun W => implCommandText_any d W
      have CO' := fun W => specCommandOk_any d W
      rw [hca] at CC'
      rw [← hco] at CO'
      have CC := hid CC'
      have CO := hid CO'
      clear CC' CO' hca hco
      obtain ⟨y, yb, hya, hyd⟩ : ∃ (y : CommandD) (yb : Bool), readCmdAns u2 = .tuple #[.agg #[.int .i64 y.op, .int .i64 y.token, .int .i64 y.seq, .string y.key, .string y.val, .int .i64 y.ver], .bool yb] ∧ (gd = true → y = d ∧ yb = true) := by
        cases gd with
        | true => exact ⟨d, true, cmd_read_of (hcr rfl).2, fun _ => ⟨rfl, rfl⟩⟩
        | false =>
          obtain ⟨y, yb, hy, _⟩ := cmd_asked u2
          exact ⟨y, yb, hy, fun q => by cases q⟩
      have CY' := fun W => implReadCommand_any u2 (by omega) W
      rw [hya] at CY'
      have CY := hid CY'
      have HYD : Hid (gd = true → y = d ∧ yb = true) := (show _ → _ from hyd)
      clear CY' hya hyd hcr hus
      obtain ⟨g4, hg4⟩ : ∃ g, w10.heap.size = g := ⟨_, rfl⟩
      obtain ⟨U4, hU4⟩ : ∃ V, (w10.alloc (.cells #[.int .i64 0, .int .i64 0, .int .i64 0, .string ⟨#[]⟩, .string ⟨#[]⟩, .int .i64 0] 37)) = V := ⟨_, rfl⟩
      have bz4 : Below g4 w10 U4 := by rw [← hg4, ← hU4]; exact below_more (Below.refl w10.heap.size w10) (.cells #[.int .i64 0, .int .i64 0, .int .i64 0, .string ⟨#[]⟩, .string ⟨#[]⟩, .int .i64 0] 37)
      have N4_0_0 : BlockIs U4 (g4) 37 [.int .i64 0, .int .i64 0, .int .i64 0, .string ⟨#[]⟩, .string ⟨#[]⟩, .int .i64 0] := by rw [← hg4, ← hU4]; exact heap_alloc_new _ _
      have o4_0 := N4_0_0.cell (j := 0) rfl
      have f4_0 := N4_0_0.thaw 0
      obtain ⟨V4_0, hV4_0⟩ : ∃ V, U4.setCell ⟨g4, 0, none⟩ (.int .i64 d.op) = V := ⟨_, rfl⟩
      have N4_0_1 : BlockIs V4_0 (g4) 37 [.int .i64 d.op, .int .i64 0, .int .i64 0, .string ⟨#[]⟩, .string ⟨#[]⟩, .int .i64 0] := by rw [← hV4_0]; exact N4_0_0.set 0 _
      have bz4 : Below g4 w10 V4_0 := by rw [← hV4_0]; exact bz4.setCell (by show _ ≤ g4; omega) _
      have o4_1 := N4_0_1.cell (j := 1) rfl
      have f4_1 := N4_0_1.thaw 1
      obtain ⟨V4_1, hV4_1⟩ : ∃ V, V4_0.setCell ⟨g4, 1, none⟩ (.int .i64 d.token) = V := ⟨_, rfl⟩
      have N4_0_2 : BlockIs V4_1 (g4) 37 [.int .i64 d.op, .int .i64 d.token, .int .i64 0, .string ⟨#[]⟩, .string ⟨#[]⟩, .int .i64 0] := by rw [← hV4_1]; exact N4_0_1.set 1 _
      have bz4 : Below g4 w10 V4_1 := by rw [← hV4_1]; exact bz4.setCell (by show _ ≤ g4; omega) _
      have o4_2 := N4_0_2.cell (j := 2) rfl
      have f4_2 := N4_0_2.thaw 2
      obtain ⟨V4_2, hV4_2⟩ : ∃ V, V4_1.setCell ⟨g4, 2, none⟩ (.int .i64 d.seq) = V := ⟨_, rfl⟩
      have N4_0_3 : BlockIs V4_2 (g4) 37 [.int .i64 d.op, .int .i64 d.token, .int .i64 d.seq, .string ⟨#[]⟩, .string ⟨#[]⟩, .int .i64 0] := by rw [← hV4_2]; exact N4_0_2.set 2 _
      have bz4 : Below g4 w10 V4_2 := by rw [← hV4_2]; exact bz4.setCell (by show _ ≤ g4; omega) _
      have o4_3 := N4_0_3.cell (j := 3) rfl
      have f4_3 := N4_0_3.thaw 3
      obtain ⟨V4_3, hV4_3⟩ : ∃ V, V4_2.setCell ⟨g4, 3, none⟩ (.string d.key) = V := ⟨_, rfl⟩
      have N4_0_4 : BlockIs V4_3 (g4) 37 [.int .i64 d.op, .int .i64 d.token, .int .i64 d.seq, .string d.key, .string ⟨#[]⟩, .int .i64 0] := by rw [← hV4_3]; exact N4_0_3.set 3 _
      have bz4 : Below g4 w10 V4_3 := by rw [← hV4_3]; exact bz4.setCell (by show _ ≤ g4; omega) _
      have o4_4 := N4_0_4.cell (j := 4) rfl
      have f4_4 := N4_0_4.thaw 4
      obtain ⟨V4_4, hV4_4⟩ : ∃ V, V4_3.setCell ⟨g4, 4, none⟩ (.string d.val) = V := ⟨_, rfl⟩
      have N4_0_5 : BlockIs V4_4 (g4) 37 [.int .i64 d.op, .int .i64 d.token, .int .i64 d.seq, .string d.key, .string d.val, .int .i64 0] := by rw [← hV4_4]; exact N4_0_4.set 4 _
      have bz4 : Below g4 w10 V4_4 := by rw [← hV4_4]; exact bz4.setCell (by show _ ≤ g4; omega) _
      have o4_5 := N4_0_5.cell (j := 5) rfl
      have f4_5 := N4_0_5.thaw 5
      obtain ⟨V4_5, hV4_5⟩ : ∃ V, V4_4.setCell ⟨g4, 5, none⟩ (.int .i64 d.ver) = V := ⟨_, rfl⟩
      have N4_0_6 : BlockIs V4_5 (g4) 37 [.int .i64 d.op, .int .i64 d.token, .int .i64 d.seq, .string d.key, .string d.val, .int .i64 d.ver] := by rw [← hV4_5]; exact N4_0_5.set 5 _
      have bz4 : Below g4 w10 V4_5 := by rw [← hV4_5]; exact bz4.setCell (by show _ ≤ g4; omega) _
      have hN4_0 := hid N4_0_6
      have p4_0_0 := hN4_0.out.cell (j := 0) rfl
      have p4_0_1 := hN4_0.out.cell (j := 1) rfl
      have p4_0_2 := hN4_0.out.cell (j := 2) rfl
      have p4_0_3 := hN4_0.out.cell (j := 3) rfl
      have p4_0_4 := hN4_0.out.cell (j := 4) rfl
      have p4_0_5 := hN4_0.out.cell (j := 5) rfl
      have bzz4 : Below w10.heap.size w10 V4_5 := by have h := bz4; rw [← hg4] at h; exact h
      clear bz4 N4_0_0 N4_0_1 N4_0_2 N4_0_3 N4_0_4 N4_0_5 N4_0_6
      have lo4 : w.heap.size ≤ g4 := by rw [← hg4]; exact B_13.out.size
      go_wp2_with fail
      clear o4_0 f4_0 o4_1 f4_1 o4_2 f4_2 o4_3 f4_3 o4_4 f4_4 o4_5 f4_5 p4_0_0 p4_0_1 p4_0_2 p4_0_3 p4_0_4 p4_0_5
      have B_14 : Hid (Below w.heap.size w V4_5) := hid (below_via B_13.out bzz4)
      clear B_13
      clear bzz4
      have Xc_14 := hN4_0
      refine Calls.mono (CC.out _) ?_
      rintro e w11 ⟨rfl, b_s⟩
      have Xc_15 : Hid (BlockIs w11 (g4) 37 [.int .i64 d.op, .int .i64 d.token, .int .i64 d.seq, .string d.key, .string d.val, .int .i64 d.ver]) := hid (Xc_14.out.on b_s Xc_14.out.lt)
      have B_15 : Hid (Below w.heap.size w w11) := hid (below_via B_14.out b_s)
      clear Xc_14 B_14
      clear b_s
      go_wp2_with fail
      refine Calls.mono (CY.out _) ?_
      rintro e w12 ⟨rfl, b_s⟩
      have Xc_16 : Hid (BlockIs w12 (g4) 37 [.int .i64 d.op, .int .i64 d.token, .int .i64 d.seq, .string d.key, .string d.val, .int .i64 d.ver]) := hid (Xc_15.out.on b_s Xc_15.out.lt)
      have B_16 : Hid (Below w.heap.size w w12) := hid (below_via B_15.out b_s)
      clear Xc_15 B_15
      clear b_s
      obtain ⟨g5, hg5⟩ : ∃ g, w12.heap.size = g := ⟨_, rfl⟩
      obtain ⟨U5, hU5⟩ : ∃ V, (w12.alloc (.cells #[.int .i64 0, .int .i64 0, .int .i64 0, .string ⟨#[]⟩, .string ⟨#[]⟩, .int .i64 0] 37)) = V := ⟨_, rfl⟩
      have bz5 : Below g5 w12 U5 := by rw [← hg5, ← hU5]; exact below_more (Below.refl w12.heap.size w12) (.cells #[.int .i64 0, .int .i64 0, .int .i64 0, .string ⟨#[]⟩, .string ⟨#[]⟩, .int .i64 0] 37)
      have N5_0_0 : BlockIs U5 (g5) 37 [.int .i64 0, .int .i64 0, .int .i64 0, .string ⟨#[]⟩, .string ⟨#[]⟩, .int .i64 0] := by rw [← hg5, ← hU5]; exact heap_alloc_new _ _
      have o5_0 := N5_0_0.cell (j := 0) rfl
      have f5_0 := N5_0_0.thaw 0
      obtain ⟨V5_0, hV5_0⟩ : ∃ V, U5.setCell ⟨g5, 0, none⟩ (.int .i64 y.op) = V := ⟨_, rfl⟩
      have N5_0_1 : BlockIs V5_0 (g5) 37 [.int .i64 y.op, .int .i64 0, .int .i64 0, .string ⟨#[]⟩, .string ⟨#[]⟩, .int .i64 0] := by rw [← hV5_0]; exact N5_0_0.set 0 _
      have bz5 : Below g5 w12 V5_0 := by rw [← hV5_0]; exact bz5.setCell (by show _ ≤ g5; omega) _
      have o5_1 := N5_0_1.cell (j := 1) rfl
      have f5_1 := N5_0_1.thaw 1
      obtain ⟨V5_1, hV5_1⟩ : ∃ V, V5_0.setCell ⟨g5, 1, none⟩ (.int .i64 y.token) = V := ⟨_, rfl⟩
      have N5_0_2 : BlockIs V5_1 (g5) 37 [.int .i64 y.op, .int .i64 y.token, .int .i64 0, .string ⟨#[]⟩, .string ⟨#[]⟩, .int .i64 0] := by rw [← hV5_1]; exact N5_0_1.set 1 _
      have bz5 : Below g5 w12 V5_1 := by rw [← hV5_1]; exact bz5.setCell (by show _ ≤ g5; omega) _
      have o5_2 := N5_0_2.cell (j := 2) rfl
      have f5_2 := N5_0_2.thaw 2
      obtain ⟨V5_2, hV5_2⟩ : ∃ V, V5_1.setCell ⟨g5, 2, none⟩ (.int .i64 y.seq) = V := ⟨_, rfl⟩
      have N5_0_3 : BlockIs V5_2 (g5) 37 [.int .i64 y.op, .int .i64 y.token, .int .i64 y.seq, .string ⟨#[]⟩, .string ⟨#[]⟩, .int .i64 0] := by rw [← hV5_2]; exact N5_0_2.set 2 _
      have bz5 : Below g5 w12 V5_2 := by rw [← hV5_2]; exact bz5.setCell (by show _ ≤ g5; omega) _
      have o5_3 := N5_0_3.cell (j := 3) rfl
      have f5_3 := N5_0_3.thaw 3
      obtain ⟨V5_3, hV5_3⟩ : ∃ V, V5_2.setCell ⟨g5, 3, none⟩ (.string y.key) = V := ⟨_, rfl⟩
      have N5_0_4 : BlockIs V5_3 (g5) 37 [.int .i64 y.op, .int .i64 y.token, .int .i64 y.seq, .string y.key, .string ⟨#[]⟩, .int .i64 0] := by rw [← hV5_3]; exact N5_0_3.set 3 _
      have bz5 : Below g5 w12 V5_3 := by rw [← hV5_3]; exact bz5.setCell (by show _ ≤ g5; omega) _
      have o5_4 := N5_0_4.cell (j := 4) rfl
      have f5_4 := N5_0_4.thaw 4
      obtain ⟨V5_4, hV5_4⟩ : ∃ V, V5_3.setCell ⟨g5, 4, none⟩ (.string y.val) = V := ⟨_, rfl⟩
      have N5_0_5 : BlockIs V5_4 (g5) 37 [.int .i64 y.op, .int .i64 y.token, .int .i64 y.seq, .string y.key, .string y.val, .int .i64 0] := by rw [← hV5_4]; exact N5_0_4.set 4 _
      have bz5 : Below g5 w12 V5_4 := by rw [← hV5_4]; exact bz5.setCell (by show _ ≤ g5; omega) _
      have o5_5 := N5_0_5.cell (j := 5) rfl
      have f5_5 := N5_0_5.thaw 5
      obtain ⟨V5_5, hV5_5⟩ : ∃ V, V5_4.setCell ⟨g5, 5, none⟩ (.int .i64 y.ver) = V := ⟨_, rfl⟩
      have N5_0_6 : BlockIs V5_5 (g5) 37 [.int .i64 y.op, .int .i64 y.token, .int .i64 y.seq, .string y.key, .string y.val, .int .i64 y.ver] := by rw [← hV5_5]; exact N5_0_5.set 5 _
      have bz5 : Below g5 w12 V5_5 := by rw [← hV5_5]; exact bz5.setCell (by show _ ≤ g5; omega) _
      have hN5_0 := hid N5_0_6
      have p5_0_0 := hN5_0.out.cell (j := 0) rfl
      have p5_0_1 := hN5_0.out.cell (j := 1) rfl
      have p5_0_2 := hN5_0.out.cell (j := 2) rfl
      have p5_0_3 := hN5_0.out.cell (j := 3) rfl
      have p5_0_4 := hN5_0.out.cell (j := 4) rfl
      have p5_0_5 := hN5_0.out.cell (j := 5) rfl
      have bzz5 : Below w12.heap.size w12 V5_5 := by have h := bz5; rw [← hg5] at h; exact h
      clear bz5 N5_0_0 N5_0_1 N5_0_2 N5_0_3 N5_0_4 N5_0_5 N5_0_6
      have ltc_5 : g4 < g5 := by rw [← hg5]; exact Xc_16.out.lt
      have lo5 : w.heap.size ≤ g5 := by rw [← hg5]; exact B_16.out.size
      go_wp2_with fail
      clear o5_0 f5_0 o5_1 f5_1 o5_2 f5_2 o5_3 f5_3 o5_4 f5_4 o5_5 f5_5 p5_0_0 p5_0_1 p5_0_2 p5_0_3 p5_0_4 p5_0_5
      have Xc_17 : Hid (BlockIs V5_5 (g4) 37 [.int .i64 d.op, .int .i64 d.token, .int .i64 d.seq, .string d.key, .string d.val, .int .i64 d.ver]) := hid (Xc_16.out.on bzz5 Xc_16.out.lt)
      have B_17 : Hid (Below w.heap.size w V5_5) := hid (below_via B_16.out bzz5)
      clear Xc_16 B_16
      clear bzz5
      have Xy_17 := hN5_0
      refine (drawReadCommand_any ao len cap hlen hcap _ (bytes_on HBY.out B_17.out)).mono ?_
      rintro e w13 ⟨v, rfl, hv, b_s⟩
      have Xc_18 : Hid (BlockIs w13 (g4) 37 [.int .i64 d.op, .int .i64 d.token, .int .i64 d.seq, .string d.key, .string d.val, .int .i64 d.ver]) := hid (Xc_17.out.on b_s Xc_17.out.lt)
      have Xy_18 : Hid (BlockIs w13 (g5) 37 [.int .i64 y.op, .int .i64 y.token, .int .i64 y.seq, .string y.key, .string y.val, .int .i64 y.ver]) := hid (Xy_17.out.on b_s Xy_17.out.lt)
      have B_18 : Hid (Below w.heap.size w w13) := hid (below_via B_17.out b_s)
      clear Xc_17 Xy_17 B_17
      clear b_s
      obtain ⟨z, zb, hza, bt, bk, hbk, hbt⟩ := cmd_asked v
      have CZ' := fun W => implReadCommand_any v (by omega) W
      have CQ' := fun W => specReadCommand_any v (by omega) W
      rw [hza] at CZ' CQ'
      have CZ := hid CZ'
      have CQ := hid CQ'
      have CB' := fun W => implCommandText_any z W
      rw [hbk] at CB'
      have CB := hid CB'
      have HBT : Hid (zb = true → bt = v) := (show _ → _ from hbt)
      clear CZ' CQ' CB' hza hbk hbt hv CC CY
      go_wp2_with fail
      refine Calls.mono (CZ.out _) ?_
      rintro e w14 ⟨rfl, b_s⟩
      have Xc_19 : Hid (BlockIs w14 (g4) 37 [.int .i64 d.op, .int .i64 d.token, .int .i64 d.seq, .string d.key, .string d.val, .int .i64 d.ver]) := hid (Xc_18.out.on b_s Xc_18.out.lt)
      have Xy_19 : Hid (BlockIs w14 (g5) 37 [.int .i64 y.op, .int .i64 y.token, .int .i64 y.seq, .string y.key, .string y.val, .int .i64 y.ver]) := hid (Xy_18.out.on b_s Xy_18.out.lt)
      have B_19 : Hid (Below w.heap.size w w14) := hid (below_via B_18.out b_s)
      clear Xc_18 Xy_18 B_18
      clear b_s
      obtain ⟨g6, hg6⟩ : ∃ g, w14.heap.size = g := ⟨_, rfl⟩
      obtain ⟨U6, hU6⟩ : ∃ V, (w14.alloc (.cells #[.int .i64 0, .int .i64 0, .int .i64 0, .string ⟨#[]⟩, .string ⟨#[]⟩, .int .i64 0] 37)) = V := ⟨_, rfl⟩
      have bz6 : Below g6 w14 U6 := by rw [← hg6, ← hU6]; exact below_more (Below.refl w14.heap.size w14) (.cells #[.int .i64 0, .int .i64 0, .int .i64 0, .string ⟨#[]⟩, .string ⟨#[]⟩, .int .i64 0] 37)
      have N6_0_0 : BlockIs U6 (g6) 37 [.int .i64 0, .int .i64 0, .int .i64 0, .string ⟨#[]⟩, .string ⟨#[]⟩, .int .i64 0] := by rw [← hg6, ← hU6]; exact heap_alloc_new _ _
      have o6_0 := N6_0_0.cell (j := 0) rfl
      have f6_0 := N6_0_0.thaw 0
      obtain ⟨V6_0, hV6_0⟩ : ∃ V, U6.setCell ⟨g6, 0, none⟩ (.int .i64 z.op) = V := ⟨_, rfl⟩
      have N6_0_1 : BlockIs V6_0 (g6) 37 [.int .i64 z.op, .int .i64 0, .int .i64 0, .string ⟨#[]⟩, .string ⟨#[]⟩, .int .i64 0] := by rw [← hV6_0]; exact N6_0_0.set 0 _
      have bz6 : Below g6 w14 V6_0 := by rw [← hV6_0]; exact bz6.setCell (by show _ ≤ g6; omega) _
      have o6_1 := N6_0_1.cell (j := 1) rfl
      have f6_1 := N6_0_1.thaw 1
      obtain ⟨V6_1, hV6_1⟩ : ∃ V, V6_0.setCell ⟨g6, 1, none⟩ (.int .i64 z.token) = V := ⟨_, rfl⟩
      have N6_0_2 : BlockIs V6_1 (g6) 37 [.int .i64 z.op, .int .i64 z.token, .int .i64 0, .string ⟨#[]⟩, .string ⟨#[]⟩, .int .i64 0] := by rw [← hV6_1]; exact N6_0_1.set 1 _
      have bz6 : Below g6 w14 V6_1 := by rw [← hV6_1]; exact bz6.setCell (by show _ ≤ g6; omega) _
      have o6_2 := N6_0_2.cell (j := 2) rfl
      have f6_2 := N6_0_2.thaw 2
      obtain ⟨V6_2, hV6_2⟩ : ∃ V, V6_1.setCell ⟨g6, 2, none⟩ (.int .i64 z.seq) = V := ⟨_, rfl⟩
      have N6_0_3 : BlockIs V6_2 (g6) 37 [.int .i64 z.op, .int .i64 z.token, .int .i64 z.seq, .string ⟨#[]⟩, .string ⟨#[]⟩, .int .i64 0] := by rw [← hV6_2]; exact N6_0_2.set 2 _
      have bz6 : Below g6 w14 V6_2 := by rw [← hV6_2]; exact bz6.setCell (by show _ ≤ g6; omega) _
      have o6_3 := N6_0_3.cell (j := 3) rfl
      have f6_3 := N6_0_3.thaw 3
      obtain ⟨V6_3, hV6_3⟩ : ∃ V, V6_2.setCell ⟨g6, 3, none⟩ (.string z.key) = V := ⟨_, rfl⟩
      have N6_0_4 : BlockIs V6_3 (g6) 37 [.int .i64 z.op, .int .i64 z.token, .int .i64 z.seq, .string z.key, .string ⟨#[]⟩, .int .i64 0] := by rw [← hV6_3]; exact N6_0_3.set 3 _
      have bz6 : Below g6 w14 V6_3 := by rw [← hV6_3]; exact bz6.setCell (by show _ ≤ g6; omega) _
      have o6_4 := N6_0_4.cell (j := 4) rfl
      have f6_4 := N6_0_4.thaw 4
      obtain ⟨V6_4, hV6_4⟩ : ∃ V, V6_3.setCell ⟨g6, 4, none⟩ (.string z.val) = V := ⟨_, rfl⟩
      have N6_0_5 : BlockIs V6_4 (g6) 37 [.int .i64 z.op, .int .i64 z.token, .int .i64 z.seq, .string z.key, .string z.val, .int .i64 0] := by rw [← hV6_4]; exact N6_0_4.set 4 _
      have bz6 : Below g6 w14 V6_4 := by rw [← hV6_4]; exact bz6.setCell (by show _ ≤ g6; omega) _
      have o6_5 := N6_0_5.cell (j := 5) rfl
      have f6_5 := N6_0_5.thaw 5
      obtain ⟨V6_5, hV6_5⟩ : ∃ V, V6_4.setCell ⟨g6, 5, none⟩ (.int .i64 z.ver) = V := ⟨_, rfl⟩
      have N6_0_6 : BlockIs V6_5 (g6) 37 [.int .i64 z.op, .int .i64 z.token, .int .i64 z.seq, .string z.key, .string z.val, .int .i64 z.ver] := by rw [← hV6_5]; exact N6_0_5.set 5 _
      have bz6 : Below g6 w14 V6_5 := by rw [← hV6_5]; exact bz6.setCell (by show _ ≤ g6; omega) _
      have hN6_0 := hid N6_0_6
      have p6_0_0 := hN6_0.out.cell (j := 0) rfl
      have p6_0_1 := hN6_0.out.cell (j := 1) rfl
      have p6_0_2 := hN6_0.out.cell (j := 2) rfl
      have p6_0_3 := hN6_0.out.cell (j := 3) rfl
      have p6_0_4 := hN6_0.out.cell (j := 4) rfl
      have p6_0_5 := hN6_0.out.cell (j := 5) rfl
      have bzz6 : Below w14.heap.size w14 V6_5 := by have h := bz6; rw [← hg6] at h; exact h
      clear bz6 N6_0_0 N6_0_1 N6_0_2 N6_0_3 N6_0_4 N6_0_5 N6_0_6
      have ltc_6 : g4 < g6 := by rw [← hg6]; exact Xc_19.out.lt
      have lty_6 : g5 < g6 := by rw [← hg6]; exact Xy_19.out.lt
      have lo6 : w.heap.size ≤ g6 := by rw [← hg6]; exact B_19.out.size
      go_wp2_with fail
      clear o6_0 f6_0 o6_1 f6_1 o6_2 f6_2 o6_3 f6_3 o6_4 f6_4 o6_5 f6_5 p6_0_0 p6_0_1 p6_0_2 p6_0_3 p6_0_4 p6_0_5
      have Xc_20 : Hid (BlockIs V6_5 (g4) 37 [.int .i64 d.op, .int .i64 d.token, .int .i64 d.seq, .string d.key, .string d.val, .int .i64 d.ver]) := hid (Xc_19.out.on bzz6 Xc_19.out.lt)
      have Xy_20 : Hid (BlockIs V6_5 (g5) 37 [.int .i64 y.op, .int .i64 y.token, .int .i64 y.seq, .string y.key, .string y.val, .int .i64 y.ver]) := hid (Xy_19.out.on bzz6 Xy_19.out.lt)
      have B_20 : Hid (Below w.heap.size w V6_5) := hid (below_via B_19.out bzz6)
      clear Xc_19 Xy_19 B_19
      clear bzz6
      have Xz_20 := hN6_0
      refine Calls.mono (CQ.out _) ?_
      rintro e w15 ⟨rfl, b_s⟩
      have Xc_21 : Hid (BlockIs w15 (g4) 37 [.int .i64 d.op, .int .i64 d.token, .int .i64 d.seq, .string d.key, .string d.val, .int .i64 d.ver]) := hid (Xc_20.out.on b_s Xc_20.out.lt)
      have Xy_21 : Hid (BlockIs w15 (g5) 37 [.int .i64 y.op, .int .i64 y.token, .int .i64 y.seq, .string y.key, .string y.val, .int .i64 y.ver]) := hid (Xy_20.out.on b_s Xy_20.out.lt)
      have Xz_21 : Hid (BlockIs w15 (g6) 37 [.int .i64 z.op, .int .i64 z.token, .int .i64 z.seq, .string z.key, .string z.val, .int .i64 z.ver]) := hid (Xz_20.out.on b_s Xz_20.out.lt)
      have B_21 : Hid (Below w.heap.size w w15) := hid (below_via B_20.out b_s)
      clear Xc_20 Xy_20 Xz_20 B_20
      clear b_s
      obtain ⟨g7, hg7⟩ : ∃ g, w15.heap.size = g := ⟨_, rfl⟩
      obtain ⟨U7, hU7⟩ : ∃ V, (w15.alloc (.cells #[.int .i64 0, .int .i64 0, .int .i64 0, .string ⟨#[]⟩, .string ⟨#[]⟩, .int .i64 0] 37)) = V := ⟨_, rfl⟩
      have bz7 : Below g7 w15 U7 := by rw [← hg7, ← hU7]; exact below_more (Below.refl w15.heap.size w15) (.cells #[.int .i64 0, .int .i64 0, .int .i64 0, .string ⟨#[]⟩, .string ⟨#[]⟩, .int .i64 0] 37)
      have N7_0_0 : BlockIs U7 (g7) 37 [.int .i64 0, .int .i64 0, .int .i64 0, .string ⟨#[]⟩, .string ⟨#[]⟩, .int .i64 0] := by rw [← hg7, ← hU7]; exact heap_alloc_new _ _
      have o7_0 := N7_0_0.cell (j := 0) rfl
      have f7_0 := N7_0_0.thaw 0
      obtain ⟨V7_0, hV7_0⟩ : ∃ V, U7.setCell ⟨g7, 0, none⟩ (.int .i64 z.op) = V := ⟨_, rfl⟩
      have N7_0_1 : BlockIs V7_0 (g7) 37 [.int .i64 z.op, .int .i64 0, .int .i64 0, .string ⟨#[]⟩, .string ⟨#[]⟩, .int .i64 0] := by rw [← hV7_0]; exact N7_0_0.set 0 _
      have bz7 : Below g7 w15 V7_0 := by rw [← hV7_0]; exact bz7.setCell (by show _ ≤ g7; omega) _
      have o7_1 := N7_0_1.cell (j := 1) rfl
      have f7_1 := N7_0_1.thaw 1
      obtain ⟨V7_1, hV7_1⟩ : ∃ V, V7_0.setCell ⟨g7, 1, none⟩ (.int .i64 z.token) = V := ⟨_, rfl⟩
      have N7_0_2 : BlockIs V7_1 (g7) 37 [.int .i64 z.op, .int .i64 z.token, .int .i64 0, .string ⟨#[]⟩, .string ⟨#[]⟩, .int .i64 0] := by rw [← hV7_1]; exact N7_0_1.set 1 _
      have bz7 : Below g7 w15 V7_1 := by rw [← hV7_1]; exact bz7.setCell (by show _ ≤ g7; omega) _
      have o7_2 := N7_0_2.cell (j := 2) rfl
      have f7_2 := N7_0_2.thaw 2
      obtain ⟨V7_2, hV7_2⟩ : ∃ V, V7_1.setCell ⟨g7, 2, none⟩ (.int .i64 z.seq) = V := ⟨_, rfl⟩
      have N7_0_3 : BlockIs V7_2 (g7) 37 [.int .i64 z.op, .int .i64 z.token, .int .i64 z.seq, .string ⟨#[]⟩, .string ⟨#[]⟩, .int .i64 0] := by rw [← hV7_2]; exact N7_0_2.set 2 _
      have bz7 : Below g7 w15 V7_2 := by rw [← hV7_2]; exact bz7.setCell (by show _ ≤ g7; omega) _
      have o7_3 := N7_0_3.cell (j := 3) rfl
      have f7_3 := N7_0_3.thaw 3
      obtain ⟨V7_3, hV7_3⟩ : ∃ V, V7_2.setCell ⟨g7, 3, none⟩ (.string z.key) = V := ⟨_, rfl⟩
      have N7_0_4 : BlockIs V7_3 (g7) 37 [.int .i64 z.op, .int .i64 z.token, .int .i64 z.seq, .string z.key, .string ⟨#[]⟩, .int .i64 0] := by rw [← hV7_3]; exact N7_0_3.set 3 _
      have bz7 : Below g7 w15 V7_3 := by rw [← hV7_3]; exact bz7.setCell (by show _ ≤ g7; omega) _
      have o7_4 := N7_0_4.cell (j := 4) rfl
      have f7_4 := N7_0_4.thaw 4
      obtain ⟨V7_4, hV7_4⟩ : ∃ V, V7_3.setCell ⟨g7, 4, none⟩ (.string z.val) = V := ⟨_, rfl⟩
      have N7_0_5 : BlockIs V7_4 (g7) 37 [.int .i64 z.op, .int .i64 z.token, .int .i64 z.seq, .string z.key, .string z.val, .int .i64 0] := by rw [← hV7_4]; exact N7_0_4.set 4 _
      have bz7 : Below g7 w15 V7_4 := by rw [← hV7_4]; exact bz7.setCell (by show _ ≤ g7; omega) _
      have o7_5 := N7_0_5.cell (j := 5) rfl
      have f7_5 := N7_0_5.thaw 5
      obtain ⟨V7_5, hV7_5⟩ : ∃ V, V7_4.setCell ⟨g7, 5, none⟩ (.int .i64 z.ver) = V := ⟨_, rfl⟩
      have N7_0_6 : BlockIs V7_5 (g7) 37 [.int .i64 z.op, .int .i64 z.token, .int .i64 z.seq, .string z.key, .string z.val, .int .i64 z.ver] := by rw [← hV7_5]; exact N7_0_5.set 5 _
      have bz7 : Below g7 w15 V7_5 := by rw [← hV7_5]; exact bz7.setCell (by show _ ≤ g7; omega) _
      have hN7_0 := hid N7_0_6
      have p7_0_0 := hN7_0.out.cell (j := 0) rfl
      have p7_0_1 := hN7_0.out.cell (j := 1) rfl
      have p7_0_2 := hN7_0.out.cell (j := 2) rfl
      have p7_0_3 := hN7_0.out.cell (j := 3) rfl
      have p7_0_4 := hN7_0.out.cell (j := 4) rfl
      have p7_0_5 := hN7_0.out.cell (j := 5) rfl
      have bzz7 : Below w15.heap.size w15 V7_5 := by have h := bz7; rw [← hg7] at h; exact h
      clear bz7 N7_0_0 N7_0_1 N7_0_2 N7_0_3 N7_0_4 N7_0_5 N7_0_6
      have ltc_7 : g4 < g7 := by rw [← hg7]; exact Xc_21.out.lt
      have lty_7 : g5 < g7 := by rw [← hg7]; exact Xy_21.out.lt
      have ltz_7 : g6 < g7 := by rw [← hg7]; exact Xz_21.out.lt
      have lo7 : w.heap.size ≤ g7 := by rw [← hg7]; exact B_21.out.size
      have Zz := Xz_21.out.on bzz7 Xz_21.out.lt
      have zz0 := Zz.cell (j := 0) rfl
      have zz1 := Zz.cell (j := 1) rfl
      have zz2 := Zz.cell (j := 2) rfl
      have zz3 := Zz.cell (j := 3) rfl
      have zz4 := Zz.cell (j := 4) rfl
      have zz5 := Zz.cell (j := 5) rfl
      clear Zz
      go_wp2_with fail
      clear zz0 zz1 zz2 zz3 zz4 zz5
      clear o7_0 f7_0 o7_1 f7_1 o7_2 f7_2 o7_3 f7_3 o7_4 f7_4 o7_5 f7_5 p7_0_0 p7_0_1 p7_0_2 p7_0_3 p7_0_4 p7_0_5
      have Xc_22 : Hid (BlockIs V7_5 (g4) 37 [.int .i64 d.op, .int .i64 d.token, .int .i64 d.seq, .string d.key, .string d.val, .int .i64 d.ver]) := hid (Xc_21.out.on bzz7 Xc_21.out.lt)
      have Xy_22 : Hid (BlockIs V7_5 (g5) 37 [.int .i64 y.op, .int .i64 y.token, .int .i64 y.seq, .string y.key, .string y.val, .int .i64 y.ver]) := hid (Xy_21.out.on bzz7 Xy_21.out.lt)
      have Xz_22 : Hid (BlockIs V7_5 (g6) 37 [.int .i64 z.op, .int .i64 z.token, .int .i64 z.seq, .string z.key, .string z.val, .int .i64 z.ver]) := hid (Xz_21.out.on bzz7 Xz_21.out.lt)
      have B_22 : Hid (Below w.heap.size w V7_5) := hid (below_via B_21.out bzz7)
      clear Xc_21 Xy_21 Xz_21 B_21
      clear bzz7
      have Xo_22 := hN7_0
      refine Calls.mono (CB.out _) ?_
      rintro e w16 ⟨rfl, b_s⟩
      have Xc_23 : Hid (BlockIs w16 (g4) 37 [.int .i64 d.op, .int .i64 d.token, .int .i64 d.seq, .string d.key, .string d.val, .int .i64 d.ver]) := hid (Xc_22.out.on b_s Xc_22.out.lt)
      have Xy_23 : Hid (BlockIs w16 (g5) 37 [.int .i64 y.op, .int .i64 y.token, .int .i64 y.seq, .string y.key, .string y.val, .int .i64 y.ver]) := hid (Xy_22.out.on b_s Xy_22.out.lt)
      have Xz_23 : Hid (BlockIs w16 (g6) 37 [.int .i64 z.op, .int .i64 z.token, .int .i64 z.seq, .string z.key, .string z.val, .int .i64 z.ver]) := hid (Xz_22.out.on b_s Xz_22.out.lt)
      have Xo_23 : Hid (BlockIs w16 (g7) 37 [.int .i64 z.op, .int .i64 z.token, .int .i64 z.seq, .string z.key, .string z.val, .int .i64 z.ver]) := hid (Xo_22.out.on b_s Xo_22.out.lt)
      have B_23 : Hid (Below w.heap.size w w16) := hid (below_via B_22.out b_s)
      clear Xc_22 Xy_22 Xz_22 Xo_22 B_22
      clear b_s
      have cc0_3 := Xc_23.out.cell (j := 0) rfl
      have cc1_3 := Xc_23.out.cell (j := 1) rfl
      have cc2_3 := Xc_23.out.cell (j := 2) rfl
      have cc3_3 := Xc_23.out.cell (j := 3) rfl
      have cc4_3 := Xc_23.out.cell (j := 4) rfl
      have cc5_3 := Xc_23.out.cell (j := 5) rfl
      have cy0_3 := Xy_23.out.cell (j := 0) rfl
      have cy1_3 := Xy_23.out.cell (j := 1) rfl
      have cy2_3 := Xy_23.out.cell (j := 2) rfl
      have cy3_3 := Xy_23.out.cell (j := 3) rfl
      have cy4_3 := Xy_23.out.cell (j := 4) rfl
      have cy5_3 := Xy_23.out.cell (j := 5) rfl
      go_wp2_with fail
      refine Calls.mono (CO.out _) ?_
      rintro e w17 ⟨rfl, b_s⟩
      have Xc_24 : Hid (BlockIs w17 (g4) 37 [.int .i64 d.op, .int .i64 d.token, .int .i64 d.seq, .string d.key, .string d.val, .int .i64 d.ver]) := hid (Xc_23.out.on b_s Xc_23.out.lt)
      have Xy_24 : Hid (BlockIs w17 (g5) 37 [.int .i64 y.op, .int .i64 y.token, .int .i64 y.seq, .string y.key, .string y.val, .int .i64 y.ver]) := hid (Xy_23.out.on b_s Xy_23.out.lt)
      have Xz_24 : Hid (BlockIs w17 (g6) 37 [.int .i64 z.op, .int .i64 z.token, .int .i64 z.seq, .string z.key, .string z.val, .int .i64 z.ver]) := hid (Xz_23.out.on b_s Xz_23.out.lt)
      have Xo_24 : Hid (BlockIs w17 (g7) 37 [.int .i64 z.op, .int .i64 z.token, .int .i64 z.seq, .string z.key, .string z.val, .int .i64 z.ver]) := hid (Xo_23.out.on b_s Xo_23.out.lt)
      have B_24 : Hid (Below w.heap.size w w17) := hid (below_via B_23.out b_s)
      clear cc0_3 cc1_3 cc2_3 cc3_3 cc4_3 cc5_3 cy0_3 cy1_3 cy2_3 cy3_3 cy4_3 cy5_3
      clear Xc_23 Xy_23 Xz_23 Xo_23 B_23
      clear b_s
      clear CZ CQ CB CO
      have heq := fun w => eq_Command y.op y.token y.seq y.key y.val y.ver w
      have hgd := fun a b w => guard_Command a b #[.int .i64 y.op, .int .i64 y.token, .int .i64 y.seq, .string y.key, .string y.val, .int .i64 y.ver] #[.int .i64 y.op, .int .i64 y.token, .int .i64 y.seq, .string y.key, .string y.val, .int .i64 y.ver] w
      have hgg : (gd == gd) = true := by cases gd <;> rfl
      have hzz : (zb == zb) = true := by cases zb <;> rfl
      cases gd
      · skip
        cases zb
        · skip
          go_wp2
          go_ret
          exact ⟨rfl, B_24.out⟩
        · skip
          have hbt := HBT.out rfl
          subst hbt
          have htt : (bt.toList == bt.toList) = true := by simp
          go_wp2
          go_ret
          exact ⟨rfl, B_24.out⟩
      · skip
        obtain ⟨hyd, hyb⟩ := HYD.out rfl
        subst hyd hyb
        have cc0_4 := Xc_24.out.cell (j := 0) rfl
        have cc1_4 := Xc_24.out.cell (j := 1) rfl
        have cc2_4 := Xc_24.out.cell (j := 2) rfl
        have cc3_4 := Xc_24.out.cell (j := 3) rfl
        have cc4_4 := Xc_24.out.cell (j := 4) rfl
        have cc5_4 := Xc_24.out.cell (j := 5) rfl
        have cy0_4 := Xy_24.out.cell (j := 0) rfl
        have cy1_4 := Xy_24.out.cell (j := 1) rfl
        have cy2_4 := Xy_24.out.cell (j := 2) rfl
        have cy3_4 := Xy_24.out.cell (j := 3) rfl
        have cy4_4 := Xy_24.out.cell (j := 4) rfl
        have cy5_4 := Xy_24.out.cell (j := 5) rfl
        cases zb
        · skip
          go_wp2
          go_ret
          exact ⟨rfl, B_24.out⟩
        · skip
          have hbt := HBT.out rfl
          subst hbt
          have htt : (bt.toList == bt.toList) = true := by simp
          go_wp2
          go_ret
          exact ⟨rfl, B_24.out⟩
  · skip
    obtain ⟨rfl, rfl, rfl⟩ := HM.out rfl
    go_wp2_with fail
    refine Calls.mono (CS.out _ _ _ _ _ (sessionR_at Qg_6.out.1) (itemR_at Qg_6.out.2) (sessionR_at Qk_6.out.1) (itemR_at Qk_6.out.2)) ?_
    rintro e w5 ⟨rfl, b_s⟩
    have Xk_7 : Hid (BlockIs w5 (g0) 27 [.slice va ms0.length vc, .slice vb mi0.length vd]) := hid (Xk_6.out.on b_s Xk_6.out.lt)
    have Xg_7 : Hid (BlockIs w5 (g1) 27 [.slice va3 ms0.length vc3, .slice vb3 mi0.length vd3]) := hid (Xg_6.out.on b_s Xg_6.out.lt)
    have Qk_7 : Hid (KRows w5 (w.heap.size) (.slice va ms0.length vc) (.slice vb mi0.length vd) ms0 mi0) := hid (Qk_6.out.on b_s)
    have Qg_7 : Hid (KRows w5 (w2.heap.size) (.slice va3 ms0.length vc3) (.slice vb3 mi0.length vd3) ms0 mi0) := hid (Qg_6.out.on b_s)
    have B_7 : Hid (Below w.heap.size w w5) := hid (below_via B_6.out b_s)
    clear ck0_2 ck1_2 cg0_2 cg1_2
    clear Xk_6 Xg_6 Qk_6 Qg_6 B_6
    clear b_s
    clear HM CS
    go_wp2_with fail
    refine (drawReadKeep_any ao len cap hlen hcap _ (bytes_on HBY.out B_7.out)).mono ?_
    rintro e w6 ⟨s, rfl, hs, b_s⟩
    have B_8 : Hid (Below w.heap.size w w6) := hid (below_via B_7.out b_s)
    clear B_7
    clear b_s
    obtain ⟨xs, xi, xb, hx1, hx2, hx3, ⟨hx4, hx5⟩, u, uk, hxa, hxu⟩ := keep_asked s
    have CI' := fun W => implReadKeep_any s (by omega) W
    have CP' := fun W => specReadKeep_any s (by omega) W
    unfold rkDid at CI' CP'
    rw [hx1, hx2, hx3] at CI' CP'
    have CI := hid CI'
    have CP := hid CP'
    have CT' := fun W ao bo ac bc h1 h2 => implKeepText_any ao bo xs xi ac bc (by omega) (by omega) W h1 h2
    rw [hxa] at CT'
    have CT := hid CT'
    have HXU : Hid (xb = true → u = s) := (show _ → _ from hxu)
    clear CI' CP' CT' hx1 hx2 hx3 hx4 hx5 hxa hxu hs
    go_wp2_with fail
    refine Calls.mono (CI.out _) ?_
    rintro e w7 ⟨va4, vc4, vb4, vd4, rfl, q4, b_s⟩
    dsimp only at q4 ⊢
    have B_9 : Hid (Below w.heap.size w w7) := hid (below_via B_8.out b_s)
    clear B_8
    clear b_s
    have Qx_9 : Hid (KRows w7 (w6.heap.size) (.slice va4 xs.length vc4) (.slice vb4 xi.length vd4) xs xi) := hid q4
    clear q4 CI
    obtain ⟨g2, hg2⟩ : ∃ g, w7.heap.size = g := ⟨_, rfl⟩
    obtain ⟨U2, hU2⟩ : ∃ V, (w7.alloc (.cells #[.slice none 0 0, .slice none 0 0] 27)) = V := ⟨_, rfl⟩
    have bz2 : Below g2 w7 U2 := by rw [← hg2, ← hU2]; exact below_more (Below.refl w7.heap.size w7) (.cells #[.slice none 0 0, .slice none 0 0] 27)
    have N2_0_0 : BlockIs U2 (g2) 27 [.slice none 0 0, .slice none 0 0] := by rw [← hg2, ← hU2]; exact heap_alloc_new _ _
    have o2_0 := N2_0_0.cell (j := 0) rfl
    have f2_0 := N2_0_0.thaw 0
    obtain ⟨V2_0, hV2_0⟩ : ∃ V, U2.setCell ⟨g2, 0, none⟩ (.slice va4 xs.length vc4) = V := ⟨_, rfl⟩
    have N2_0_1 : BlockIs V2_0 (g2) 27 [.slice va4 xs.length vc4, .slice none 0 0] := by rw [← hV2_0]; exact N2_0_0.set 0 _
    have bz2 : Below g2 w7 V2_0 := by rw [← hV2_0]; exact bz2.setCell (by show _ ≤ g2; omega) _
    have o2_1 := N2_0_1.cell (j := 1) rfl
    have f2_1 := N2_0_1.thaw 1
    obtain ⟨V2_1, hV2_1⟩ : ∃ V, V2_0.setCell ⟨g2, 1, none⟩ (.slice vb4 xi.length vd4) = V := ⟨_, rfl⟩
    have N2_0_2 : BlockIs V2_1 (g2) 27 [.slice va4 xs.length vc4, .slice vb4 xi.length vd4] := by rw [← hV2_1]; exact N2_0_1.set 1 _
    have bz2 : Below g2 w7 V2_1 := by rw [← hV2_1]; exact bz2.setCell (by show _ ≤ g2; omega) _
    have hN2_0 := hid N2_0_2
    have p2_0_0 := hN2_0.out.cell (j := 0) rfl
    have p2_0_1 := hN2_0.out.cell (j := 1) rfl
    have bzz2 : Below w7.heap.size w7 V2_1 := by have h := bz2; rw [← hg2] at h; exact h
    clear bz2 N2_0_0 N2_0_1 N2_0_2
    have lo2 : w.heap.size ≤ g2 := by rw [← hg2]; exact B_9.out.size
    go_wp2_with fail
    clear o2_0 f2_0 o2_1 f2_1 p2_0_0 p2_0_1
    have Qx_10 : Hid (KRows V2_1 (w6.heap.size) (.slice va4 xs.length vc4) (.slice vb4 xi.length vd4) xs xi) := hid (Qx_9.out.on bzz2)
    have B_10 : Hid (Below w.heap.size w V2_1) := hid (below_via B_9.out bzz2)
    clear Qx_9 B_9
    clear bzz2
    have Xx_10 := hN2_0
    refine Calls.mono (CP.out _) ?_
    rintro e w8 ⟨va5, vc5, vb5, vd5, rfl, q5, b_s⟩
    dsimp only at q5 ⊢
    clear q5 CP
    have Xx_11 : Hid (BlockIs w8 (g2) 27 [.slice va4 xs.length vc4, .slice vb4 xi.length vd4]) := hid (Xx_10.out.on b_s Xx_10.out.lt)
    have Qx_11 : Hid (KRows w8 (w6.heap.size) (.slice va4 xs.length vc4) (.slice vb4 xi.length vd4) xs xi) := hid (Qx_10.out.on b_s)
    have B_11 : Hid (Below w.heap.size w w8) := hid (below_via B_10.out b_s)
    clear Xx_10 Qx_10 B_10
    clear b_s
    obtain ⟨g3, hg3⟩ : ∃ g, w8.heap.size = g := ⟨_, rfl⟩
    obtain ⟨U3, hU3⟩ : ∃ V, (w8.alloc (.cells #[.slice none 0 0, .slice none 0 0] 27)) = V := ⟨_, rfl⟩
    have bz3 : Below g3 w8 U3 := by rw [← hg3, ← hU3]; exact below_more (Below.refl w8.heap.size w8) (.cells #[.slice none 0 0, .slice none 0 0] 27)
    have N3_0_0 : BlockIs U3 (g3) 27 [.slice none 0 0, .slice none 0 0] := by rw [← hg3, ← hU3]; exact heap_alloc_new _ _
    have o3_0 := N3_0_0.cell (j := 0) rfl
    have f3_0 := N3_0_0.thaw 0
    obtain ⟨V3_0, hV3_0⟩ : ∃ V, U3.setCell ⟨g3, 0, none⟩ (.slice va5 xs.length vc5) = V := ⟨_, rfl⟩
    have N3_0_1 : BlockIs V3_0 (g3) 27 [.slice va5 xs.length vc5, .slice none 0 0] := by rw [← hV3_0]; exact N3_0_0.set 0 _
    have bz3 : Below g3 w8 V3_0 := by rw [← hV3_0]; exact bz3.setCell (by show _ ≤ g3; omega) _
    have o3_1 := N3_0_1.cell (j := 1) rfl
    have f3_1 := N3_0_1.thaw 1
    obtain ⟨V3_1, hV3_1⟩ : ∃ V, V3_0.setCell ⟨g3, 1, none⟩ (.slice vb5 xi.length vd5) = V := ⟨_, rfl⟩
    have N3_0_2 : BlockIs V3_1 (g3) 27 [.slice va5 xs.length vc5, .slice vb5 xi.length vd5] := by rw [← hV3_1]; exact N3_0_1.set 1 _
    have bz3 : Below g3 w8 V3_1 := by rw [← hV3_1]; exact bz3.setCell (by show _ ≤ g3; omega) _
    have hN3_0 := hid N3_0_2
    have p3_0_0 := hN3_0.out.cell (j := 0) rfl
    have p3_0_1 := hN3_0.out.cell (j := 1) rfl
    have bzz3 : Below w8.heap.size w8 V3_1 := by have h := bz3; rw [← hg3] at h; exact h
    clear bz3 N3_0_0 N3_0_1 N3_0_2
    have ltx_3 : g2 < g3 := by rw [← hg3]; exact Xx_11.out.lt
    have lo3 : w.heap.size ≤ g3 := by rw [← hg3]; exact B_11.out.size
    have Zx := Xx_11.out.on bzz3 Xx_11.out.lt
    have zx0 := Zx.cell (j := 0) rfl
    have zx1 := Zx.cell (j := 1) rfl
    clear Zx
    go_wp2_with fail
    clear zx0 zx1
    clear o3_0 f3_0 o3_1 f3_1 p3_0_0 p3_0_1
    have Xx_12 : Hid (BlockIs V3_1 (g2) 27 [.slice va4 xs.length vc4, .slice vb4 xi.length vd4]) := hid (Xx_11.out.on bzz3 Xx_11.out.lt)
    have Qx_12 : Hid (KRows V3_1 (w6.heap.size) (.slice va4 xs.length vc4) (.slice vb4 xi.length vd4) xs xi) := hid (Qx_11.out.on bzz3)
    have B_12 : Hid (Below w.heap.size w V3_1) := hid (below_via B_11.out bzz3)
    clear Xx_11 Qx_11 B_11
    clear bzz3
    have Xp_12 := hN3_0
    refine Calls.mono (CT.out _ _ _ _ _ (sessionR_at Qx_12.out.1) (itemR_at Qx_12.out.2)) ?_
    rintro e w9 ⟨rfl, b_s⟩
    have Xx_13 : Hid (BlockIs w9 (g2) 27 [.slice va4 xs.length vc4, .slice vb4 xi.length vd4]) := hid (Xx_12.out.on b_s Xx_12.out.lt)
    have Xp_13 : Hid (BlockIs w9 (g3) 27 [.slice va5 xs.length vc5, .slice vb5 xi.length vd5]) := hid (Xp_12.out.on b_s Xp_12.out.lt)
    have Qx_13 : Hid (KRows w9 (w6.heap.size) (.slice va4 xs.length vc4) (.slice vb4 xi.length vd4) xs xi) := hid (Qx_12.out.on b_s)
    have B_13 : Hid (Below w.heap.size w w9) := hid (below_via B_12.out b_s)
    clear Xx_12 Xp_12 Qx_12 B_12
    clear b_s
    have hxx : (xb != xb) = false := by cases xb <;> rfl
    have huq : xb = true → (u.toList == s.toList) = true ∧ (u.toList != s.toList) = false ∧ (!(u.toList == s.toList)) = false := fun h => by
      rw [HXU.out h]
      simp
    clear HXU CT
    have HUQ := hid huq
    clear huq
    cases xb
    · skip
      go_wp2_with fail
      refine (drawCommandText_any ao len cap hlen hcap _ (bytes_on HBY.out B_13.out)).mono ?_
      rintro e w10 ⟨d, rfl, b_s⟩
      clear HUQ hxx
      have B_14 : Hid (Below w.heap.size w w10) := hid (below_via B_13.out b_s)
      clear B_13
      clear b_s
      obtain ⟨u2, gd, hca, hco, hus, hcr⟩ := cmd_told d
      have CC' := fun W => implCommandText_any d W
      have CO' := fun W => specCommandOk_any d W
      rw [hca] at CC'
      rw [← hco] at CO'
      have CC := hid CC'
      have CO := hid CO'
      clear CC' CO' hca hco
      obtain ⟨y, yb, hya, hyd⟩ : ∃ (y : CommandD) (yb : Bool), readCmdAns u2 = .tuple #[.agg #[.int .i64 y.op, .int .i64 y.token, .int .i64 y.seq, .string y.key, .string y.val, .int .i64 y.ver], .bool yb] ∧ (gd = true → y = d ∧ yb = true) := by
        cases gd with
        | true => exact ⟨d, true, cmd_read_of (hcr rfl).2, fun _ => ⟨rfl, rfl⟩⟩
        | false =>
          obtain ⟨y, yb, hy, _⟩ := cmd_asked u2
          exact ⟨y, yb, hy, fun q => by cases q⟩
      have CY' := fun W => implReadCommand_any u2 (by omega) W
      rw [hya] at CY'
      have CY := hid CY'
      have HYD : Hid (gd = true → y = d ∧ yb = true) := (show _ → _ from hyd)
      clear CY' hya hyd hcr hus
      obtain ⟨g4, hg4⟩ : ∃ g, w10.heap.size = g := ⟨_, rfl⟩
      obtain ⟨U4, hU4⟩ : ∃ V, (w10.alloc (.cells #[.int .i64 0, .int .i64 0, .int .i64 0, .string ⟨#[]⟩, .string ⟨#[]⟩, .int .i64 0] 37)) = V := ⟨_, rfl⟩
      have bz4 : Below g4 w10 U4 := by rw [← hg4, ← hU4]; exact below_more (Below.refl w10.heap.size w10) (.cells #[.int .i64 0, .int .i64 0, .int .i64 0, .string ⟨#[]⟩, .string ⟨#[]⟩, .int .i64 0] 37)
      have N4_0_0 : BlockIs U4 (g4) 37 [.int .i64 0, .int .i64 0, .int .i64 0, .string ⟨#[]⟩, .string ⟨#[]⟩, .int .i64 0] := by rw [← hg4, ← hU4]; exact heap_alloc_new _ _
      have o4_0 := N4_0_0.cell (j := 0) rfl
      have f4_0 := N4_0_0.thaw 0
      obtain ⟨V4_0, hV4_0⟩ : ∃ V, U4.setCell ⟨g4, 0, none⟩ (.int .i64 d.op) = V := ⟨_, rfl⟩
      have N4_0_1 : BlockIs V4_0 (g4) 37 [.int .i64 d.op, .int .i64 0, .int .i64 0, .string ⟨#[]⟩, .string ⟨#[]⟩, .int .i64 0] := by rw [← hV4_0]; exact N4_0_0.set 0 _
      have bz4 : Below g4 w10 V4_0 := by rw [← hV4_0]; exact bz4.setCell (by show _ ≤ g4; omega) _
      have o4_1 := N4_0_1.cell (j := 1) rfl
      have f4_1 := N4_0_1.thaw 1
      obtain ⟨V4_1, hV4_1⟩ : ∃ V, V4_0.setCell ⟨g4, 1, none⟩ (.int .i64 d.token) = V := ⟨_, rfl⟩
      have N4_0_2 : BlockIs V4_1 (g4) 37 [.int .i64 d.op, .int .i64 d.token, .int .i64 0, .string ⟨#[]⟩, .string ⟨#[]⟩, .int .i64 0] := by rw [← hV4_1]; exact N4_0_1.set 1 _
      have bz4 : Below g4 w10 V4_1 := by rw [← hV4_1]; exact bz4.setCell (by show _ ≤ g4; omega) _
      have o4_2 := N4_0_2.cell (j := 2) rfl
      have f4_2 := N4_0_2.thaw 2
      obtain ⟨V4_2, hV4_2⟩ : ∃ V, V4_1.setCell ⟨g4, 2, none⟩ (.int .i64 d.seq) = V := ⟨_, rfl⟩
      have N4_0_3 : BlockIs V4_2 (g4) 37 [.int .i64 d.op, .int .i64 d.token, .int .i64 d.seq, .string ⟨#[]⟩, .string ⟨#[]⟩, .int .i64 0] := by rw [← hV4_2]; exact N4_0_2.set 2 _
      have bz4 : Below g4 w10 V4_2 := by rw [← hV4_2]; exact bz4.setCell (by show _ ≤ g4; omega) _
      have o4_3 := N4_0_3.cell (j := 3) rfl
      have f4_3 := N4_0_3.thaw 3
      obtain ⟨V4_3, hV4_3⟩ : ∃ V, V4_2.setCell ⟨g4, 3, none⟩ (.string d.key) = V := ⟨_, rfl⟩
      have N4_0_4 : BlockIs V4_3 (g4) 37 [.int .i64 d.op, .int .i64 d.token, .int .i64 d.seq, .string d.key, .string ⟨#[]⟩, .int .i64 0] := by rw [← hV4_3]; exact N4_0_3.set 3 _
      have bz4 : Below g4 w10 V4_3 := by rw [← hV4_3]; exact bz4.setCell (by show _ ≤ g4; omega) _
      have o4_4 := N4_0_4.cell (j := 4) rfl
      have f4_4 := N4_0_4.thaw 4
      obtain ⟨V4_4, hV4_4⟩ : ∃ V, V4_3.setCell ⟨g4, 4, none⟩ (.string d.val) = V := ⟨_, rfl⟩
      have N4_0_5 : BlockIs V4_4 (g4) 37 [.int .i64 d.op, .int .i64 d.token, .int .i64 d.seq, .string d.key, .string d.val, .int .i64 0] := by rw [← hV4_4]; exact N4_0_4.set 4 _
      have bz4 : Below g4 w10 V4_4 := by rw [← hV4_4]; exact bz4.setCell (by show _ ≤ g4; omega) _
      have o4_5 := N4_0_5.cell (j := 5) rfl
      have f4_5 := N4_0_5.thaw 5
      obtain ⟨V4_5, hV4_5⟩ : ∃ V, V4_4.setCell ⟨g4, 5, none⟩ (.int .i64 d.ver) = V := ⟨_, rfl⟩
      have N4_0_6 : BlockIs V4_5 (g4) 37 [.int .i64 d.op, .int .i64 d.token, .int .i64 d.seq, .string d.key, .string d.val, .int .i64 d.ver] := by rw [← hV4_5]; exact N4_0_5.set 5 _
      have bz4 : Below g4 w10 V4_5 := by rw [← hV4_5]; exact bz4.setCell (by show _ ≤ g4; omega) _
      have hN4_0 := hid N4_0_6
      have p4_0_0 := hN4_0.out.cell (j := 0) rfl
      have p4_0_1 := hN4_0.out.cell (j := 1) rfl
      have p4_0_2 := hN4_0.out.cell (j := 2) rfl
      have p4_0_3 := hN4_0.out.cell (j := 3) rfl
      have p4_0_4 := hN4_0.out.cell (j := 4) rfl
      have p4_0_5 := hN4_0.out.cell (j := 5) rfl
      have bzz4 : Below w10.heap.size w10 V4_5 := by have h := bz4; rw [← hg4] at h; exact h
      clear bz4 N4_0_0 N4_0_1 N4_0_2 N4_0_3 N4_0_4 N4_0_5 N4_0_6
      have lo4 : w.heap.size ≤ g4 := by rw [← hg4]; exact B_14.out.size
      go_wp2_with fail
      clear o4_0 f4_0 o4_1 f4_1 o4_2 f4_2 o4_3 f4_3 o4_4 f4_4 o4_5 f4_5 p4_0_0 p4_0_1 p4_0_2 p4_0_3 p4_0_4 p4_0_5
      have B_15 : Hid (Below w.heap.size w V4_5) := hid (below_via B_14.out bzz4)
      clear B_14
      clear bzz4
      have Xc_15 := hN4_0
      refine Calls.mono (CC.out _) ?_
      rintro e w11 ⟨rfl, b_s⟩
      have Xc_16 : Hid (BlockIs w11 (g4) 37 [.int .i64 d.op, .int .i64 d.token, .int .i64 d.seq, .string d.key, .string d.val, .int .i64 d.ver]) := hid (Xc_15.out.on b_s Xc_15.out.lt)
      have B_16 : Hid (Below w.heap.size w w11) := hid (below_via B_15.out b_s)
      clear Xc_15 B_15
      clear b_s
      go_wp2_with fail
      refine Calls.mono (CY.out _) ?_
      rintro e w12 ⟨rfl, b_s⟩
      have Xc_17 : Hid (BlockIs w12 (g4) 37 [.int .i64 d.op, .int .i64 d.token, .int .i64 d.seq, .string d.key, .string d.val, .int .i64 d.ver]) := hid (Xc_16.out.on b_s Xc_16.out.lt)
      have B_17 : Hid (Below w.heap.size w w12) := hid (below_via B_16.out b_s)
      clear Xc_16 B_16
      clear b_s
      obtain ⟨g5, hg5⟩ : ∃ g, w12.heap.size = g := ⟨_, rfl⟩
      obtain ⟨U5, hU5⟩ : ∃ V, (w12.alloc (.cells #[.int .i64 0, .int .i64 0, .int .i64 0, .string ⟨#[]⟩, .string ⟨#[]⟩, .int .i64 0] 37)) = V := ⟨_, rfl⟩
      have bz5 : Below g5 w12 U5 := by rw [← hg5, ← hU5]; exact below_more (Below.refl w12.heap.size w12) (.cells #[.int .i64 0, .int .i64 0, .int .i64 0, .string ⟨#[]⟩, .string ⟨#[]⟩, .int .i64 0] 37)
      have N5_0_0 : BlockIs U5 (g5) 37 [.int .i64 0, .int .i64 0, .int .i64 0, .string ⟨#[]⟩, .string ⟨#[]⟩, .int .i64 0] := by rw [← hg5, ← hU5]; exact heap_alloc_new _ _
      have o5_0 := N5_0_0.cell (j := 0) rfl
      have f5_0 := N5_0_0.thaw 0
      obtain ⟨V5_0, hV5_0⟩ : ∃ V, U5.setCell ⟨g5, 0, none⟩ (.int .i64 y.op) = V := ⟨_, rfl⟩
      have N5_0_1 : BlockIs V5_0 (g5) 37 [.int .i64 y.op, .int .i64 0, .int .i64 0, .string ⟨#[]⟩, .string ⟨#[]⟩, .int .i64 0] := by rw [← hV5_0]; exact N5_0_0.set 0 _
      have bz5 : Below g5 w12 V5_0 := by rw [← hV5_0]; exact bz5.setCell (by show _ ≤ g5; omega) _
      have o5_1 := N5_0_1.cell (j := 1) rfl
      have f5_1 := N5_0_1.thaw 1
      obtain ⟨V5_1, hV5_1⟩ : ∃ V, V5_0.setCell ⟨g5, 1, none⟩ (.int .i64 y.token) = V := ⟨_, rfl⟩
      have N5_0_2 : BlockIs V5_1 (g5) 37 [.int .i64 y.op, .int .i64 y.token, .int .i64 0, .string ⟨#[]⟩, .string ⟨#[]⟩, .int .i64 0] := by rw [← hV5_1]; exact N5_0_1.set 1 _
      have bz5 : Below g5 w12 V5_1 := by rw [← hV5_1]; exact bz5.setCell (by show _ ≤ g5; omega) _
      have o5_2 := N5_0_2.cell (j := 2) rfl
      have f5_2 := N5_0_2.thaw 2
      obtain ⟨V5_2, hV5_2⟩ : ∃ V, V5_1.setCell ⟨g5, 2, none⟩ (.int .i64 y.seq) = V := ⟨_, rfl⟩
      have N5_0_3 : BlockIs V5_2 (g5) 37 [.int .i64 y.op, .int .i64 y.token, .int .i64 y.seq, .string ⟨#[]⟩, .string ⟨#[]⟩, .int .i64 0] := by rw [← hV5_2]; exact N5_0_2.set 2 _
      have bz5 : Below g5 w12 V5_2 := by rw [← hV5_2]; exact bz5.setCell (by show _ ≤ g5; omega) _
      have o5_3 := N5_0_3.cell (j := 3) rfl
      have f5_3 := N5_0_3.thaw 3
      obtain ⟨V5_3, hV5_3⟩ : ∃ V, V5_2.setCell ⟨g5, 3, none⟩ (.string y.key) = V := ⟨_, rfl⟩
      have N5_0_4 : BlockIs V5_3 (g5) 37 [.int .i64 y.op, .int .i64 y.token, .int .i64 y.seq, .string y.key, .string ⟨#[]⟩, .int .i64 0] := by rw [← hV5_3]; exact N5_0_3.set 3 _
      have bz5 : Below g5 w12 V5_3 := by rw [← hV5_3]; exact bz5.setCell (by show _ ≤ g5; omega) _
      have o5_4 := N5_0_4.cell (j := 4) rfl
      have f5_4 := N5_0_4.thaw 4
      obtain ⟨V5_4, hV5_4⟩ : ∃ V, V5_3.setCell ⟨g5, 4, none⟩ (.string y.val) = V := ⟨_, rfl⟩
      have N5_0_5 : BlockIs V5_4 (g5) 37 [.int .i64 y.op, .int .i64 y.token, .int .i64 y.seq, .string y.key, .string y.val, .int .i64 0] := by rw [← hV5_4]; exact N5_0_4.set 4 _
      have bz5 : Below g5 w12 V5_4 := by rw [← hV5_4]; exact bz5.setCell (by show _ ≤ g5; omega) _
      have o5_5 := N5_0_5.cell (j := 5) rfl
      have f5_5 := N5_0_5.thaw 5
      obtain ⟨V5_5, hV5_5⟩ : ∃ V, V5_4.setCell ⟨g5, 5, none⟩ (.int .i64 y.ver) = V := ⟨_, rfl⟩
      have N5_0_6 : BlockIs V5_5 (g5) 37 [.int .i64 y.op, .int .i64 y.token, .int .i64 y.seq, .string y.key, .string y.val, .int .i64 y.ver] := by rw [← hV5_5]; exact N5_0_5.set 5 _
      have bz5 : Below g5 w12 V5_5 := by rw [← hV5_5]; exact bz5.setCell (by show _ ≤ g5; omega) _
      have hN5_0 := hid N5_0_6
      have p5_0_0 := hN5_0.out.cell (j := 0) rfl
      have p5_0_1 := hN5_0.out.cell (j := 1) rfl
      have p5_0_2 := hN5_0.out.cell (j := 2) rfl
      have p5_0_3 := hN5_0.out.cell (j := 3) rfl
      have p5_0_4 := hN5_0.out.cell (j := 4) rfl
      have p5_0_5 := hN5_0.out.cell (j := 5) rfl
      have bzz5 : Below w12.heap.size w12 V5_5 := by have h := bz5; rw [← hg5] at h; exact h
      clear bz5 N5_0_0 N5_0_1 N5_0_2 N5_0_3 N5_0_4 N5_0_5 N5_0_6
      have ltc_5 : g4 < g5 := by rw [← hg5]; exact Xc_17.out.lt
      have lo5 : w.heap.size ≤ g5 := by rw [← hg5]; exact B_17.out.size
      go_wp2_with fail
      clear o5_0 f5_0 o5_1 f5_1 o5_2 f5_2 o5_3 f5_3 o5_4 f5_4 o5_5 f5_5 p5_0_0 p5_0_1 p5_0_2 p5_0_3 p5_0_4 p5_0_5
      have Xc_18 : Hid (BlockIs V5_5 (g4) 37 [.int .i64 d.op, .int .i64 d.token, .int .i64 d.seq, .string d.key, .string d.val, .int .i64 d.ver]) := hid (Xc_17.out.on bzz5 Xc_17.out.lt)
      have B_18 : Hid (Below w.heap.size w V5_5) := hid (below_via B_17.out bzz5)
      clear Xc_17 B_17
      clear bzz5
      have Xy_18 := hN5_0
      refine (drawReadCommand_any ao len cap hlen hcap _ (bytes_on HBY.out B_18.out)).mono ?_
      rintro e w13 ⟨v, rfl, hv, b_s⟩
      have Xc_19 : Hid (BlockIs w13 (g4) 37 [.int .i64 d.op, .int .i64 d.token, .int .i64 d.seq, .string d.key, .string d.val, .int .i64 d.ver]) := hid (Xc_18.out.on b_s Xc_18.out.lt)
      have Xy_19 : Hid (BlockIs w13 (g5) 37 [.int .i64 y.op, .int .i64 y.token, .int .i64 y.seq, .string y.key, .string y.val, .int .i64 y.ver]) := hid (Xy_18.out.on b_s Xy_18.out.lt)
      have B_19 : Hid (Below w.heap.size w w13) := hid (below_via B_18.out b_s)
      clear Xc_18 Xy_18 B_18
      clear b_s
      obtain ⟨z, zb, hza, bt, bk, hbk, hbt⟩ := cmd_asked v
      have CZ' := fun W => implReadCommand_any v (by omega) W
      have CQ' := fun W => specReadCommand_any v (by omega) W
      rw [hza] at CZ' CQ'
      have CZ := hid CZ'
      have CQ := hid CQ'
      have CB' := fun W => implCommandText_any z W
      rw [hbk] at CB'
      have CB := hid CB'
      have HBT : Hid (zb = true → bt = v) := (show _ → _ from hbt)
      clear CZ' CQ' CB' hza hbk hbt hv CC CY
      go_wp2_with fail
      refine Calls.mono (CZ.out _) ?_
      rintro e w14 ⟨rfl, b_s⟩
      have Xc_20 : Hid (BlockIs w14 (g4) 37 [.int .i64 d.op, .int .i64 d.token, .int .i64 d.seq, .string d.key, .string d.val, .int .i64 d.ver]) := hid (Xc_19.out.on b_s Xc_19.out.lt)
      have Xy_20 : Hid (BlockIs w14 (g5) 37 [.int .i64 y.op, .int .i64 y.token, .int .i64 y.seq, .string y.key, .string y.val, .int .i64 y.ver]) := hid (Xy_19.out.on b_s Xy_19.out.lt)
      have B_20 : Hid (Below w.heap.size w w14) := hid (below_via B_19.out b_s)
      clear Xc_19 Xy_19 B_19
      clear b_s
      obtain ⟨g6, hg6⟩ : ∃ g, w14.heap.size = g := ⟨_, rfl⟩
      obtain ⟨U6, hU6⟩ : ∃ V, (w14.alloc (.cells #[.int .i64 0, .int .i64 0, .int .i64 0, .string ⟨#[]⟩, .string ⟨#[]⟩, .int .i64 0] 37)) = V := ⟨_, rfl⟩
      have bz6 : Below g6 w14 U6 := by rw [← hg6, ← hU6]; exact below_more (Below.refl w14.heap.size w14) (.cells #[.int .i64 0, .int .i64 0, .int .i64 0, .string ⟨#[]⟩, .string ⟨#[]⟩, .int .i64 0] 37)
      have N6_0_0 : BlockIs U6 (g6) 37 [.int .i64 0, .int .i64 0, .int .i64 0, .string ⟨#[]⟩, .string ⟨#[]⟩, .int .i64 0] := by rw [← hg6, ← hU6]; exact heap_alloc_new _ _
      have o6_0 := N6_0_0.cell (j := 0) rfl
      have f6_0 := N6_0_0.thaw 0
      obtain ⟨V6_0, hV6_0⟩ : ∃ V, U6.setCell ⟨g6, 0, none⟩ (.int .i64 z.op) = V := ⟨_, rfl⟩
      have N6_0_1 : BlockIs V6_0 (g6) 37 [.int .i64 z.op, .int .i64 0, .int .i64 0, .string ⟨#[]⟩, .string ⟨#[]⟩, .int .i64 0] := by rw [← hV6_0]; exact N6_0_0.set 0 _
      have bz6 : Below g6 w14 V6_0 := by rw [← hV6_0]; exact bz6.setCell (by show _ ≤ g6; omega) _
      have o6_1 := N6_0_1.cell (j := 1) rfl
      have f6_1 := N6_0_1.thaw 1
      obtain ⟨V6_1, hV6_1⟩ : ∃ V, V6_0.setCell ⟨g6, 1, none⟩ (.int .i64 z.token) = V := ⟨_, rfl⟩
      have N6_0_2 : BlockIs V6_1 (g6) 37 [.int .i64 z.op, .int .i64 z.token, .int .i64 0, .string ⟨#[]⟩, .string ⟨#[]⟩, .int .i64 0] := by rw [← hV6_1]; exact N6_0_1.set 1 _
      have bz6 : Below g6 w14 V6_1 := by rw [← hV6_1]; exact bz6.setCell (by show _ ≤ g6; omega) _
      have o6_2 := N6_0_2.cell (j := 2) rfl
      have f6_2 := N6_0_2.thaw 2
      obtain ⟨V6_2, hV6_2⟩ : ∃ V, V6_1.setCell ⟨g6, 2, none⟩ (.int .i64 z.seq) = V := ⟨_, rfl⟩
      have N6_0_3 : BlockIs V6_2 (g6) 37 [.int .i64 z.op, .int .i64 z.token, .int .i64 z.seq, .string ⟨#[]⟩, .string ⟨#[]⟩, .int .i64 0] := by rw [← hV6_2]; exact N6_0_2.set 2 _
      have bz6 : Below g6 w14 V6_2 := by rw [← hV6_2]; exact bz6.setCell (by show _ ≤ g6; omega) _
      have o6_3 := N6_0_3.cell (j := 3) rfl
      have f6_3 := N6_0_3.thaw 3
      obtain ⟨V6_3, hV6_3⟩ : ∃ V, V6_2.setCell ⟨g6, 3, none⟩ (.string z.key) = V := ⟨_, rfl⟩
      have N6_0_4 : BlockIs V6_3 (g6) 37 [.int .i64 z.op, .int .i64 z.token, .int .i64 z.seq, .string z.key, .string ⟨#[]⟩, .int .i64 0] := by rw [← hV6_3]; exact N6_0_3.set 3 _
      have bz6 : Below g6 w14 V6_3 := by rw [← hV6_3]; exact bz6.setCell (by show _ ≤ g6; omega) _
      have o6_4 := N6_0_4.cell (j := 4) rfl
      have f6_4 := N6_0_4.thaw 4
      obtain ⟨V6_4, hV6_4⟩ : ∃ V, V6_3.setCell ⟨g6, 4, none⟩ (.string z.val) = V := ⟨_, rfl⟩
      have N6_0_5 : BlockIs V6_4 (g6) 37 [.int .i64 z.op, .int .i64 z.token, .int .i64 z.seq, .string z.key, .string z.val, .int .i64 0] := by rw [← hV6_4]; exact N6_0_4.set 4 _
      have bz6 : Below g6 w14 V6_4 := by rw [← hV6_4]; exact bz6.setCell (by show _ ≤ g6; omega) _
      have o6_5 := N6_0_5.cell (j := 5) rfl
      have f6_5 := N6_0_5.thaw 5
      obtain ⟨V6_5, hV6_5⟩ : ∃ V, V6_4.setCell ⟨g6, 5, none⟩ (.int .i64 z.ver) = V := ⟨_, rfl⟩
      have N6_0_6 : BlockIs V6_5 (g6) 37 [.int .i64 z.op, .int .i64 z.token, .int .i64 z.seq, .string z.key, .string z.val, .int .i64 z.ver] := by rw [← hV6_5]; exact N6_0_5.set 5 _
      have bz6 : Below g6 w14 V6_5 := by rw [← hV6_5]; exact bz6.setCell (by show _ ≤ g6; omega) _
      have hN6_0 := hid N6_0_6
      have p6_0_0 := hN6_0.out.cell (j := 0) rfl
      have p6_0_1 := hN6_0.out.cell (j := 1) rfl
      have p6_0_2 := hN6_0.out.cell (j := 2) rfl
      have p6_0_3 := hN6_0.out.cell (j := 3) rfl
      have p6_0_4 := hN6_0.out.cell (j := 4) rfl
      have p6_0_5 := hN6_0.out.cell (j := 5) rfl
      have bzz6 : Below w14.heap.size w14 V6_5 := by have h := bz6; rw [← hg6] at h; exact h
      clear bz6 N6_0_0 N6_0_1 N6_0_2 N6_0_3 N6_0_4 N6_0_5 N6_0_6
      have ltc_6 : g4 < g6 := by rw [← hg6]; exact Xc_20.out.lt
      have lty_6 : g5 < g6 := by rw [← hg6]; exact Xy_20.out.lt
      have lo6 : w.heap.size ≤ g6 := by rw [← hg6]; exact B_20.out.size
      go_wp2_with fail
      clear o6_0 f6_0 o6_1 f6_1 o6_2 f6_2 o6_3 f6_3 o6_4 f6_4 o6_5 f6_5 p6_0_0 p6_0_1 p6_0_2 p6_0_3 p6_0_4 p6_0_5
      have Xc_21 : Hid (BlockIs V6_5 (g4) 37 [.int .i64 d.op, .int .i64 d.token, .int .i64 d.seq, .string d.key, .string d.val, .int .i64 d.ver]) := hid (Xc_20.out.on bzz6 Xc_20.out.lt)
      have Xy_21 : Hid (BlockIs V6_5 (g5) 37 [.int .i64 y.op, .int .i64 y.token, .int .i64 y.seq, .string y.key, .string y.val, .int .i64 y.ver]) := hid (Xy_20.out.on bzz6 Xy_20.out.lt)
      have B_21 : Hid (Below w.heap.size w V6_5) := hid (below_via B_20.out bzz6)
      clear Xc_20 Xy_20 B_20
      clear bzz6
      have Xz_21 := hN6_0
      refine Calls.mono (CQ.out _) ?_
      rintro e w15 ⟨rfl, b_s⟩
      have Xc_22 : Hid (BlockIs w15 (g4) 37 [.int .i64 d.op, .int .i64 d.token, .int .i64 d.seq, .string d.key, .string d.val, .int .i64 d.ver]) := hid (Xc_21.out.on b_s Xc_21.out.lt)
      have Xy_22 : Hid (BlockIs w15 (g5) 37 [.int .i64 y.op, .int .i64 y.token, .int .i64 y.seq, .string y.key, .string y.val, .int .i64 y.ver]) := hid (Xy_21.out.on b_s Xy_21.out.lt)
      have Xz_22 : Hid (BlockIs w15 (g6) 37 [.int .i64 z.op, .int .i64 z.token, .int .i64 z.seq, .string z.key, .string z.val, .int .i64 z.ver]) := hid (Xz_21.out.on b_s Xz_21.out.lt)
      have B_22 : Hid (Below w.heap.size w w15) := hid (below_via B_21.out b_s)
      clear Xc_21 Xy_21 Xz_21 B_21
      clear b_s
      obtain ⟨g7, hg7⟩ : ∃ g, w15.heap.size = g := ⟨_, rfl⟩
      obtain ⟨U7, hU7⟩ : ∃ V, (w15.alloc (.cells #[.int .i64 0, .int .i64 0, .int .i64 0, .string ⟨#[]⟩, .string ⟨#[]⟩, .int .i64 0] 37)) = V := ⟨_, rfl⟩
      have bz7 : Below g7 w15 U7 := by rw [← hg7, ← hU7]; exact below_more (Below.refl w15.heap.size w15) (.cells #[.int .i64 0, .int .i64 0, .int .i64 0, .string ⟨#[]⟩, .string ⟨#[]⟩, .int .i64 0] 37)
      have N7_0_0 : BlockIs U7 (g7) 37 [.int .i64 0, .int .i64 0, .int .i64 0, .string ⟨#[]⟩, .string ⟨#[]⟩, .int .i64 0] := by rw [← hg7, ← hU7]; exact heap_alloc_new _ _
      have o7_0 := N7_0_0.cell (j := 0) rfl
      have f7_0 := N7_0_0.thaw 0
      obtain ⟨V7_0, hV7_0⟩ : ∃ V, U7.setCell ⟨g7, 0, none⟩ (.int .i64 z.op) = V := ⟨_, rfl⟩
      have N7_0_1 : BlockIs V7_0 (g7) 37 [.int .i64 z.op, .int .i64 0, .int .i64 0, .string ⟨#[]⟩, .string ⟨#[]⟩, .int .i64 0] := by rw [← hV7_0]; exact N7_0_0.set 0 _
      have bz7 : Below g7 w15 V7_0 := by rw [← hV7_0]; exact bz7.setCell (by show _ ≤ g7; omega) _
      have o7_1 := N7_0_1.cell (j := 1) rfl
      have f7_1 := N7_0_1.thaw 1
      obtain ⟨V7_1, hV7_1⟩ : ∃ V, V7_0.setCell ⟨g7, 1, none⟩ (.int .i64 z.token) = V := ⟨_, rfl⟩
      have N7_0_2 : BlockIs V7_1 (g7) 37 [.int .i64 z.op, .int .i64 z.token, .int .i64 0, .string ⟨#[]⟩, .string ⟨#[]⟩, .int .i64 0] := by rw [← hV7_1]; exact N7_0_1.set 1 _
      have bz7 : Below g7 w15 V7_1 := by rw [← hV7_1]; exact bz7.setCell (by show _ ≤ g7; omega) _
      have o7_2 := N7_0_2.cell (j := 2) rfl
      have f7_2 := N7_0_2.thaw 2
      obtain ⟨V7_2, hV7_2⟩ : ∃ V, V7_1.setCell ⟨g7, 2, none⟩ (.int .i64 z.seq) = V := ⟨_, rfl⟩
      have N7_0_3 : BlockIs V7_2 (g7) 37 [.int .i64 z.op, .int .i64 z.token, .int .i64 z.seq, .string ⟨#[]⟩, .string ⟨#[]⟩, .int .i64 0] := by rw [← hV7_2]; exact N7_0_2.set 2 _
      have bz7 : Below g7 w15 V7_2 := by rw [← hV7_2]; exact bz7.setCell (by show _ ≤ g7; omega) _
      have o7_3 := N7_0_3.cell (j := 3) rfl
      have f7_3 := N7_0_3.thaw 3
      obtain ⟨V7_3, hV7_3⟩ : ∃ V, V7_2.setCell ⟨g7, 3, none⟩ (.string z.key) = V := ⟨_, rfl⟩
      have N7_0_4 : BlockIs V7_3 (g7) 37 [.int .i64 z.op, .int .i64 z.token, .int .i64 z.seq, .string z.key, .string ⟨#[]⟩, .int .i64 0] := by rw [← hV7_3]; exact N7_0_3.set 3 _
      have bz7 : Below g7 w15 V7_3 := by rw [← hV7_3]; exact bz7.setCell (by show _ ≤ g7; omega) _
      have o7_4 := N7_0_4.cell (j := 4) rfl
      have f7_4 := N7_0_4.thaw 4
      obtain ⟨V7_4, hV7_4⟩ : ∃ V, V7_3.setCell ⟨g7, 4, none⟩ (.string z.val) = V := ⟨_, rfl⟩
      have N7_0_5 : BlockIs V7_4 (g7) 37 [.int .i64 z.op, .int .i64 z.token, .int .i64 z.seq, .string z.key, .string z.val, .int .i64 0] := by rw [← hV7_4]; exact N7_0_4.set 4 _
      have bz7 : Below g7 w15 V7_4 := by rw [← hV7_4]; exact bz7.setCell (by show _ ≤ g7; omega) _
      have o7_5 := N7_0_5.cell (j := 5) rfl
      have f7_5 := N7_0_5.thaw 5
      obtain ⟨V7_5, hV7_5⟩ : ∃ V, V7_4.setCell ⟨g7, 5, none⟩ (.int .i64 z.ver) = V := ⟨_, rfl⟩
      have N7_0_6 : BlockIs V7_5 (g7) 37 [.int .i64 z.op, .int .i64 z.token, .int .i64 z.seq, .string z.key, .string z.val, .int .i64 z.ver] := by rw [← hV7_5]; exact N7_0_5.set 5 _
      have bz7 : Below g7 w15 V7_5 := by rw [← hV7_5]; exact bz7.setCell (by show _ ≤ g7; omega) _
      have hN7_0 := hid N7_0_6
      have p7_0_0 := hN7_0.out.cell (j := 0) rfl
      have p7_0_1 := hN7_0.out.cell (j := 1) rfl
      have p7_0_2 := hN7_0.out.cell (j := 2) rfl
      have p7_0_3 := hN7_0.out.cell (j := 3) rfl
      have p7_0_4 := hN7_0.out.cell (j := 4) rfl
      have p7_0_5 := hN7_0.out.cell (j := 5) rfl
      have bzz7 : Below w15.heap.size w15 V7_5 := by have h := bz7; rw [← hg7] at h; exact h
      clear bz7 N7_0_0 N7_0_1 N7_0_2 N7_0_3 N7_0_4 N7_0_5 N7_0_6
      have ltc_7 : g4 < g7 := by rw [← hg7]; exact Xc_22.out.lt
      have lty_7 : g5 < g7 := by rw [← hg7]; exact Xy_22.out.lt
      have ltz_7 : g6 < g7 := by rw [← hg7]; exact Xz_22.out.lt
      have lo7 : w.heap.size ≤ g7 := by rw [← hg7]; exact B_22.out.size
      have Zz := Xz_22.out.on bzz7 Xz_22.out.lt
      have zz0 := Zz.cell (j := 0) rfl
      have zz1 := Zz.cell (j := 1) rfl
      have zz2 := Zz.cell (j := 2) rfl
      have zz3 := Zz.cell (j := 3) rfl
      have zz4 := Zz.cell (j := 4) rfl
      have zz5 := Zz.cell (j := 5) rfl
      clear Zz
      go_wp2_with fail
      clear zz0 zz1 zz2 zz3 zz4 zz5
      clear o7_0 f7_0 o7_1 f7_1 o7_2 f7_2 o7_3 f7_3 o7_4 f7_4 o7_5 f7_5 p7_0_0 p7_0_1 p7_0_2 p7_0_3 p7_0_4 p7_0_5
      have Xc_23 : Hid (BlockIs V7_5 (g4) 37 [.int .i64 d.op, .int .i64 d.token, .int .i64 d.seq, .string d.key, .string d.val, .int .i64 d.ver]) := hid (Xc_22.out.on bzz7 Xc_22.out.lt)
      have Xy_23 : Hid (BlockIs V7_5 (g5) 37 [.int .i64 y.op, .int .i64 y.token, .int .i64 y.seq, .string y.key, .string y.val, .int .i64 y.ver]) := hid (Xy_22.out.on bzz7 Xy_22.out.lt)
      have Xz_23 : Hid (BlockIs V7_5 (g6) 37 [.int .i64 z.op, .int .i64 z.token, .int .i64 z.seq, .string z.key, .string z.val, .int .i64 z.ver]) := hid (Xz_22.out.on bzz7 Xz_22.out.lt)
      have B_23 : Hid (Below w.heap.size w V7_5) := hid (below_via B_22.out bzz7)
      clear Xc_22 Xy_22 Xz_22 B_22
      clear bzz7
      have Xo_23 := hN7_0
      refine Calls.mono (CB.out _) ?_
      rintro e w16 ⟨rfl, b_s⟩
      have Xc_24 : Hid (BlockIs w16 (g4) 37 [.int .i64 d.op, .int .i64 d.token, .int .i64 d.seq, .string d.key, .string d.val, .int .i64 d.ver]) := hid (Xc_23.out.on b_s Xc_23.out.lt)
      have Xy_24 : Hid (BlockIs w16 (g5) 37 [.int .i64 y.op, .int .i64 y.token, .int .i64 y.seq, .string y.key, .string y.val, .int .i64 y.ver]) := hid (Xy_23.out.on b_s Xy_23.out.lt)
      have Xz_24 : Hid (BlockIs w16 (g6) 37 [.int .i64 z.op, .int .i64 z.token, .int .i64 z.seq, .string z.key, .string z.val, .int .i64 z.ver]) := hid (Xz_23.out.on b_s Xz_23.out.lt)
      have Xo_24 : Hid (BlockIs w16 (g7) 37 [.int .i64 z.op, .int .i64 z.token, .int .i64 z.seq, .string z.key, .string z.val, .int .i64 z.ver]) := hid (Xo_23.out.on b_s Xo_23.out.lt)
      have B_24 : Hid (Below w.heap.size w w16) := hid (below_via B_23.out b_s)
      clear Xc_23 Xy_23 Xz_23 Xo_23 B_23
      clear b_s
      have cc0_3 := Xc_24.out.cell (j := 0) rfl
      have cc1_3 := Xc_24.out.cell (j := 1) rfl
      have cc2_3 := Xc_24.out.cell (j := 2) rfl
      have cc3_3 := Xc_24.out.cell (j := 3) rfl
      have cc4_3 := Xc_24.out.cell (j := 4) rfl
      have cc5_3 := Xc_24.out.cell (j := 5) rfl
      have cy0_3 := Xy_24.out.cell (j := 0) rfl
      have cy1_3 := Xy_24.out.cell (j := 1) rfl
      have cy2_3 := Xy_24.out.cell (j := 2) rfl
      have cy3_3 := Xy_24.out.cell (j := 3) rfl
      have cy4_3 := Xy_24.out.cell (j := 4) rfl
      have cy5_3 := Xy_24.out.cell (j := 5) rfl
      go_wp2_with fail
      refine Calls.mono (CO.out _) ?_
      rintro e w17 ⟨rfl, b_s⟩
      have Xc_25 : Hid (BlockIs w17 (g4) 37 [.int .i64 d.op, .int .i64 d.token, .int .i64 d.seq, .string d.key, .string d.val, .int .i64 d.ver]) := hid (Xc_24.out.on b_s Xc_24.out.lt)
      have Xy_25 : Hid (BlockIs w17 (g5) 37 [.int .i64 y.op, .int .i64 y.token, .int .i64 y.seq, .string y.key, .string y.val, .int .i64 y.ver]) := hid (Xy_24.out.on b_s Xy_24.out.lt)
      have Xz_25 : Hid (BlockIs w17 (g6) 37 [.int .i64 z.op, .int .i64 z.token, .int .i64 z.seq, .string z.key, .string z.val, .int .i64 z.ver]) := hid (Xz_24.out.on b_s Xz_24.out.lt)
      have Xo_25 : Hid (BlockIs w17 (g7) 37 [.int .i64 z.op, .int .i64 z.token, .int .i64 z.seq, .string z.key, .string z.val, .int .i64 z.ver]) := hid (Xo_24.out.on b_s Xo_24.out.lt)
      have B_25 : Hid (Below w.heap.size w w17) := hid (below_via B_24.out b_s)
      clear cc0_3 cc1_3 cc2_3 cc3_3 cc4_3 cc5_3 cy0_3 cy1_3 cy2_3 cy3_3 cy4_3 cy5_3
      clear Xc_24 Xy_24 Xz_24 Xo_24 B_24
      clear b_s
      clear CZ CQ CB CO
      have heq := fun w => eq_Command y.op y.token y.seq y.key y.val y.ver w
      have hgd := fun a b w => guard_Command a b #[.int .i64 y.op, .int .i64 y.token, .int .i64 y.seq, .string y.key, .string y.val, .int .i64 y.ver] #[.int .i64 y.op, .int .i64 y.token, .int .i64 y.seq, .string y.key, .string y.val, .int .i64 y.ver] w
      have hgg : (gd == gd) = true := by cases gd <;> rfl
      have hzz : (zb == zb) = true := by cases zb <;> rfl
      cases gd
      · skip
        cases zb
        · skip
          go_wp2
          go_ret
          exact ⟨rfl, B_25.out⟩
        · skip
          have hbt := HBT.out rfl
          subst hbt
          have htt : (bt.toList == bt.toList) = true := by simp
          go_wp2
          go_ret
          exact ⟨rfl, B_25.out⟩
      · skip
        obtain ⟨hyd, hyb⟩ := HYD.out rfl
        subst hyd hyb
        have cc0_4 := Xc_25.out.cell (j := 0) rfl
        have cc1_4 := Xc_25.out.cell (j := 1) rfl
        have cc2_4 := Xc_25.out.cell (j := 2) rfl
        have cc3_4 := Xc_25.out.cell (j := 3) rfl
        have cc4_4 := Xc_25.out.cell (j := 4) rfl
        have cc5_4 := Xc_25.out.cell (j := 5) rfl
        have cy0_4 := Xy_25.out.cell (j := 0) rfl
        have cy1_4 := Xy_25.out.cell (j := 1) rfl
        have cy2_4 := Xy_25.out.cell (j := 2) rfl
        have cy3_4 := Xy_25.out.cell (j := 3) rfl
        have cy4_4 := Xy_25.out.cell (j := 4) rfl
        have cy5_4 := Xy_25.out.cell (j := 5) rfl
        cases zb
        · skip
          go_wp2
          go_ret
          exact ⟨rfl, B_25.out⟩
        · skip
          have hbt := HBT.out rfl
          subst hbt
          have htt : (bt.toList == bt.toList) = true := by simp
          go_wp2
          go_ret
          exact ⟨rfl, B_25.out⟩
    · skip
      obtain ⟨hu1, hu2, hu3⟩ := HUQ.out rfl
      go_wp2_with fail
      refine (drawCommandText_any ao len cap hlen hcap _ (bytes_on HBY.out B_13.out)).mono ?_
      rintro e w10 ⟨d, rfl, b_s⟩
      clear hu1 hu2 hu3
      clear HUQ hxx
      have B_14 : Hid (Below w.heap.size w w10) := hid (below_via B_13.out b_s)
      clear B_13
      clear b_s
      obtain ⟨u2, gd, hca, hco, hus, hcr⟩ := cmd_told d
      have CC' := fun W => implCommandText_any d W
      have CO' := fun W => specCommandOk_any d W
      rw [hca] at CC'
      rw [← hco] at CO'
      have CC := hid CC'
      have CO := hid CO'
      clear CC' CO' hca hco
      obtain ⟨y, yb, hya, hyd⟩ : ∃ (y : CommandD) (yb : Bool), readCmdAns u2 = .tuple #[.agg #[.int .i64 y.op, .int .i64 y.token, .int .i64 y.seq, .string y.key, .string y.val, .int .i64 y.ver], .bool yb] ∧ (gd = true → y = d ∧ yb = true) := by
        cases gd with
        | true => exact ⟨d, true, cmd_read_of (hcr rfl).2, fun _ => ⟨rfl, rfl⟩⟩
        | false =>
          obtain ⟨y, yb, hy, _⟩ := cmd_asked u2
          exact ⟨y, yb, hy, fun q => by cases q⟩
      have CY' := fun W => implReadCommand_any u2 (by omega) W
      rw [hya] at CY'
      have CY := hid CY'
      have HYD : Hid (gd = true → y = d ∧ yb = true) := (show _ → _ from hyd)
      clear CY' hya hyd hcr hus
      obtain ⟨g4, hg4⟩ : ∃ g, w10.heap.size = g := ⟨_, rfl⟩
      obtain ⟨U4, hU4⟩ : ∃ V, (w10.alloc (.cells #[.int .i64 0, .int .i64 0, .int .i64 0, .string ⟨#[]⟩, .string ⟨#[]⟩, .int .i64 0] 37)) = V := ⟨_, rfl⟩
      have bz4 : Below g4 w10 U4 := by rw [← hg4, ← hU4]; exact below_more (Below.refl w10.heap.size w10) (.cells #[.int .i64 0, .int .i64 0, .int .i64 0, .string ⟨#[]⟩, .string ⟨#[]⟩, .int .i64 0] 37)
      have N4_0_0 : BlockIs U4 (g4) 37 [.int .i64 0, .int .i64 0, .int .i64 0, .string ⟨#[]⟩, .string ⟨#[]⟩, .int .i64 0] := by rw [← hg4, ← hU4]; exact heap_alloc_new _ _
      have o4_0 := N4_0_0.cell (j := 0) rfl
      have f4_0 := N4_0_0.thaw 0
      obtain ⟨V4_0, hV4_0⟩ : ∃ V, U4.setCell ⟨g4, 0, none⟩ (.int .i64 d.op) = V := ⟨_, rfl⟩
      have N4_0_1 : BlockIs V4_0 (g4) 37 [.int .i64 d.op, .int .i64 0, .int .i64 0, .string ⟨#[]⟩, .string ⟨#[]⟩, .int .i64 0] := by rw [← hV4_0]; exact N4_0_0.set 0 _
      have bz4 : Below g4 w10 V4_0 := by rw [← hV4_0]; exact bz4.setCell (by show _ ≤ g4; omega) _
      have o4_1 := N4_0_1.cell (j := 1) rfl
      have f4_1 := N4_0_1.thaw 1
      obtain ⟨V4_1, hV4_1⟩ : ∃ V, V4_0.setCell ⟨g4, 1, none⟩ (.int .i64 d.token) = V := ⟨_, rfl⟩
      have N4_0_2 : BlockIs V4_1 (g4) 37 [.int .i64 d.op, .int .i64 d.token, .int .i64 0, .string ⟨#[]⟩, .string ⟨#[]⟩, .int .i64 0] := by rw [← hV4_1]; exact N4_0_1.set 1 _
      have bz4 : Below g4 w10 V4_1 := by rw [← hV4_1]; exact bz4.setCell (by show _ ≤ g4; omega) _
      have o4_2 := N4_0_2.cell (j := 2) rfl
      have f4_2 := N4_0_2.thaw 2
      obtain ⟨V4_2, hV4_2⟩ : ∃ V, V4_1.setCell ⟨g4, 2, none⟩ (.int .i64 d.seq) = V := ⟨_, rfl⟩
      have N4_0_3 : BlockIs V4_2 (g4) 37 [.int .i64 d.op, .int .i64 d.token, .int .i64 d.seq, .string ⟨#[]⟩, .string ⟨#[]⟩, .int .i64 0] := by rw [← hV4_2]; exact N4_0_2.set 2 _
      have bz4 : Below g4 w10 V4_2 := by rw [← hV4_2]; exact bz4.setCell (by show _ ≤ g4; omega) _
      have o4_3 := N4_0_3.cell (j := 3) rfl
      have f4_3 := N4_0_3.thaw 3
      obtain ⟨V4_3, hV4_3⟩ : ∃ V, V4_2.setCell ⟨g4, 3, none⟩ (.string d.key) = V := ⟨_, rfl⟩
      have N4_0_4 : BlockIs V4_3 (g4) 37 [.int .i64 d.op, .int .i64 d.token, .int .i64 d.seq, .string d.key, .string ⟨#[]⟩, .int .i64 0] := by rw [← hV4_3]; exact N4_0_3.set 3 _
      have bz4 : Below g4 w10 V4_3 := by rw [← hV4_3]; exact bz4.setCell (by show _ ≤ g4; omega) _
      have o4_4 := N4_0_4.cell (j := 4) rfl
      have f4_4 := N4_0_4.thaw 4
      obtain ⟨V4_4, hV4_4⟩ : ∃ V, V4_3.setCell ⟨g4, 4, none⟩ (.string d.val) = V := ⟨_, rfl⟩
      have N4_0_5 : BlockIs V4_4 (g4) 37 [.int .i64 d.op, .int .i64 d.token, .int .i64 d.seq, .string d.key, .string d.val, .int .i64 0] := by rw [← hV4_4]; exact N4_0_4.set 4 _
      have bz4 : Below g4 w10 V4_4 := by rw [← hV4_4]; exact bz4.setCell (by show _ ≤ g4; omega) _
      have o4_5 := N4_0_5.cell (j := 5) rfl
      have f4_5 := N4_0_5.thaw 5
      obtain ⟨V4_5, hV4_5⟩ : ∃ V, V4_4.setCell ⟨g4, 5, none⟩ (.int .i64 d.ver) = V := ⟨_, rfl⟩
      have N4_0_6 : BlockIs V4_5 (g4) 37 [.int .i64 d.op, .int .i64 d.token, .int .i64 d.seq, .string d.key, .string d.val, .int .i64 d.ver] := by rw [← hV4_5]; exact N4_0_5.set 5 _
      have bz4 : Below g4 w10 V4_5 := by rw [← hV4_5]; exact bz4.setCell (by show _ ≤ g4; omega) _
      have hN4_0 := hid N4_0_6
      have p4_0_0 := hN4_0.out.cell (j := 0) rfl
      have p4_0_1 := hN4_0.out.cell (j := 1) rfl
      have p4_0_2 := hN4_0.out.cell (j := 2) rfl
      have p4_0_3 := hN4_0.out.cell (j := 3) rfl
      have p4_0_4 := hN4_0.out.cell (j := 4) rfl
      have p4_0_5 := hN4_0.out.cell (j := 5) rfl
      have bzz4 : Below w10.heap.size w10 V4_5 := by have h := bz4; rw [← hg4] at h; exact h
      clear bz4 N4_0_0 N4_0_1 N4_0_2 N4_0_3 N4_0_4 N4_0_5 N4_0_6
      have lo4 : w.heap.size ≤ g4 := by rw [← hg4]; exact B_14.out.size
      go_wp2_with fail
      clear o4_0 f4_0 o4_1 f4_1 o4_2 f4_2 o4_3 f4_3 o4_4 f4_4 o4_5 f4_5 p4_0_0 p4_0_1 p4_0_2 p4_0_3 p4_0_4 p4_0_5
      have B_15 : Hid (Below w.heap.size w V4_5) := hid (below_via B_14.out bzz4)
      clear B_14
      clear bzz4
      have Xc_15 := hN4_0
      refine Calls.mono (CC.out _) ?_
      rintro e w11 ⟨rfl, b_s⟩
      have Xc_16 : Hid (BlockIs w11 (g4) 37 [.int .i64 d.op, .int .i64 d.token, .int .i64 d.seq, .string d.key, .string d.val, .int .i64 d.ver]) := hid (Xc_15.out.on b_s Xc_15.out.lt)
      have B_16 : Hid (Below w.heap.size w w11) := hid (below_via B_15.out b_s)
      clear Xc_15 B_15
      clear b_s
      go_wp2_with fail
      refine Calls.mono (CY.out _) ?_
      rintro e w12 ⟨rfl, b_s⟩
      have Xc_17 : Hid (BlockIs w12 (g4) 37 [.int .i64 d.op, .int .i64 d.token, .int .i64 d.seq, .string d.key, .string d.val, .int .i64 d.ver]) := hid (Xc_16.out.on b_s Xc_16.out.lt)
      have B_17 : Hid (Below w.heap.size w w12) := hid (below_via B_16.out b_s)
      clear Xc_16 B_16
      clear b_s
      obtain ⟨g5, hg5⟩ : ∃ g, w12.heap.size = g := ⟨_, rfl⟩
      obtain ⟨U5, hU5⟩ : ∃ V, (w12.alloc (.cells #[.int .i64 0, .int .i64 0, .int .i64 0, .string ⟨#[]⟩, .string ⟨#[]⟩, .int .i64 0] 37)) = V := ⟨_, rfl⟩
      have bz5 : Below g5 w12 U5 := by rw [← hg5, ← hU5]; exact below_more (Below.refl w12.heap.size w12) (.cells #[.int .i64 0, .int .i64 0, .int .i64 0, .string ⟨#[]⟩, .string ⟨#[]⟩, .int .i64 0] 37)
      have N5_0_0 : BlockIs U5 (g5) 37 [.int .i64 0, .int .i64 0, .int .i64 0, .string ⟨#[]⟩, .string ⟨#[]⟩, .int .i64 0] := by rw [← hg5, ← hU5]; exact heap_alloc_new _ _
      have o5_0 := N5_0_0.cell (j := 0) rfl
      have f5_0 := N5_0_0.thaw 0
      obtain ⟨V5_0, hV5_0⟩ : ∃ V, U5.setCell ⟨g5, 0, none⟩ (.int .i64 y.op) = V := ⟨_, rfl⟩
      have N5_0_1 : BlockIs V5_0 (g5) 37 [.int .i64 y.op, .int .i64 0, .int .i64 0, .string ⟨#[]⟩, .string ⟨#[]⟩, .int .i64 0] := by rw [← hV5_0]; exact N5_0_0.set 0 _
      have bz5 : Below g5 w12 V5_0 := by rw [← hV5_0]; exact bz5.setCell (by show _ ≤ g5; omega) _
      have o5_1 := N5_0_1.cell (j := 1) rfl
      have f5_1 := N5_0_1.thaw 1
      obtain ⟨V5_1, hV5_1⟩ : ∃ V, V5_0.setCell ⟨g5, 1, none⟩ (.int .i64 y.token) = V := ⟨_, rfl⟩
      have N5_0_2 : BlockIs V5_1 (g5) 37 [.int .i64 y.op, .int .i64 y.token, .int .i64 0, .string ⟨#[]⟩, .string ⟨#[]⟩, .int .i64 0] := by rw [← hV5_1]; exact N5_0_1.set 1 _
      have bz5 : Below g5 w12 V5_1 := by rw [← hV5_1]; exact bz5.setCell (by show _ ≤ g5; omega) _
      have o5_2 := N5_0_2.cell (j := 2) rfl
      have f5_2 := N5_0_2.thaw 2
      obtain ⟨V5_2, hV5_2⟩ : ∃ V, V5_1.setCell ⟨g5, 2, none⟩ (.int .i64 y.seq) = V := ⟨_, rfl⟩
      have N5_0_3 : BlockIs V5_2 (g5) 37 [.int .i64 y.op, .int .i64 y.token, .int .i64 y.seq, .string ⟨#[]⟩, .string ⟨#[]⟩, .int .i64 0] := by rw [← hV5_2]; exact N5_0_2.set 2 _
      have bz5 : Below g5 w12 V5_2 := by rw [← hV5_2]; exact bz5.setCell (by show _ ≤ g5; omega) _
      have o5_3 := N5_0_3.cell (j := 3) rfl
      have f5_3 := N5_0_3.thaw 3
      obtain ⟨V5_3, hV5_3⟩ : ∃ V, V5_2.setCell ⟨g5, 3, none⟩ (.string y.key) = V := ⟨_, rfl⟩
      have N5_0_4 : BlockIs V5_3 (g5) 37 [.int .i64 y.op, .int .i64 y.token, .int .i64 y.seq, .string y.key, .string ⟨#[]⟩, .int .i64 0] := by rw [← hV5_3]; exact N5_0_3.set 3 _
      have bz5 : Below g5 w12 V5_3 := by rw [← hV5_3]; exact bz5.setCell (by show _ ≤ g5; omega) _
      have o5_4 := N5_0_4.cell (j := 4) rfl
      have f5_4 := N5_0_4.thaw 4
      obtain ⟨V5_4, hV5_4⟩ : ∃ V, V5_3.setCell ⟨g5, 4, none⟩ (.string y.val) = V := ⟨_, rfl⟩
      have N5_0_5 : BlockIs V5_4 (g5) 37 [.int .i64 y.op, .int .i64 y.token, .int .i64 y.seq, .string y.key, .string y.val, .int .i64 0] := by rw [← hV5_4]; exact N5_0_4.set 4 _
      have bz5 : Below g5 w12 V5_4 := by rw [← hV5_4]; exact bz5.setCell (by show _ ≤ g5; omega) _
      have o5_5 := N5_0_5.cell (j := 5) rfl
      have f5_5 := N5_0_5.thaw 5
      obtain ⟨V5_5, hV5_5⟩ : ∃ V, V5_4.setCell ⟨g5, 5, none⟩ (.int .i64 y.ver) = V := ⟨_, rfl⟩
      have N5_0_6 : BlockIs V5_5 (g5) 37 [.int .i64 y.op, .int .i64 y.token, .int .i64 y.seq, .string y.key, .string y.val, .int .i64 y.ver] := by rw [← hV5_5]; exact N5_0_5.set 5 _
      have bz5 : Below g5 w12 V5_5 := by rw [← hV5_5]; exact bz5.setCell (by show _ ≤ g5; omega) _
      have hN5_0 := hid N5_0_6
      have p5_0_0 := hN5_0.out.cell (j := 0) rfl
      have p5_0_1 := hN5_0.out.cell (j := 1) rfl
      have p5_0_2 := hN5_0.out.cell (j := 2) rfl
      have p5_0_3 := hN5_0.out.cell (j := 3) rfl
      have p5_0_4 := hN5_0.out.cell (j := 4) rfl
      have p5_0_5 := hN5_0.out.cell (j := 5) rfl
      have bzz5 : Below w12.heap.size w12 V5_5 := by have h := bz5; rw [← hg5] at h; exact h
      clear bz5 N5_0_0 N5_0_1 N5_0_2 N5_0_3 N5_0_4 N5_0_5 N5_0_6
      have ltc_5 : g4 < g5 := by rw [← hg5]; exact Xc_17.out.lt
      have lo5 : w.heap.size ≤ g5 := by rw [← hg5]; exact B_17.out.size
      go_wp2_with fail
      clear o5_0 f5_0 o5_1 f5_1 o5_2 f5_2 o5_3 f5_3 o5_4 f5_4 o5_5 f5_5 p5_0_0 p5_0_1 p5_0_2 p5_0_3 p5_0_4 p5_0_5
      have Xc_18 : Hid (BlockIs V5_5 (g4) 37 [.int .i64 d.op, .int .i64 d.token, .int .i64 d.seq, .string d.key, .string d.val, .int .i64 d.ver]) := hid (Xc_17.out.on bzz5 Xc_17.out.lt)
      have B_18 : Hid (Below w.heap.size w V5_5) := hid (below_via B_17.out bzz5)
      clear Xc_17 B_17
      clear bzz5
      have Xy_18 := hN5_0
      refine (drawReadCommand_any ao len cap hlen hcap _ (bytes_on HBY.out B_18.out)).mono ?_
      rintro e w13 ⟨v, rfl, hv, b_s⟩
      have Xc_19 : Hid (BlockIs w13 (g4) 37 [.int .i64 d.op, .int .i64 d.token, .int .i64 d.seq, .string d.key, .string d.val, .int .i64 d.ver]) := hid (Xc_18.out.on b_s Xc_18.out.lt)
      have Xy_19 : Hid (BlockIs w13 (g5) 37 [.int .i64 y.op, .int .i64 y.token, .int .i64 y.seq, .string y.key, .string y.val, .int .i64 y.ver]) := hid (Xy_18.out.on b_s Xy_18.out.lt)
      have B_19 : Hid (Below w.heap.size w w13) := hid (below_via B_18.out b_s)
      clear Xc_18 Xy_18 B_18
      clear b_s
      obtain ⟨z, zb, hza, bt, bk, hbk, hbt⟩ := cmd_asked v
      have CZ' := fun W => implReadCommand_any v (by omega) W
      have CQ' := fun W => specReadCommand_any v (by omega) W
      rw [hza] at CZ' CQ'
      have CZ := hid CZ'
      have CQ := hid CQ'
      have CB' := fun W => implCommandText_any z W
      rw [hbk] at CB'
      have CB := hid CB'
      have HBT : Hid (zb = true → bt = v) := (show _ → _ from hbt)
      clear CZ' CQ' CB' hza hbk hbt hv CC CY
      go_wp2_with fail
      refine Calls.mono (CZ.out _) ?_
      rintro e w14 ⟨rfl, b_s⟩
      have Xc_20 : Hid (BlockIs w14 (g4) 37 [.int .i64 d.op, .int .i64 d.token, .int .i64 d.seq, .string d.key, .string d.val, .int .i64 d.ver]) := hid (Xc_19.out.on b_s Xc_19.out.lt)
      have Xy_20 : Hid (BlockIs w14 (g5) 37 [.int .i64 y.op, .int .i64 y.token, .int .i64 y.seq, .string y.key, .string y.val, .int .i64 y.ver]) := hid (Xy_19.out.on b_s Xy_19.out.lt)
      have B_20 : Hid (Below w.heap.size w w14) := hid (below_via B_19.out b_s)
      clear Xc_19 Xy_19 B_19
      clear b_s
      obtain ⟨g6, hg6⟩ : ∃ g, w14.heap.size = g := ⟨_, rfl⟩
      obtain ⟨U6, hU6⟩ : ∃ V, (w14.alloc (.cells #[.int .i64 0, .int .i64 0, .int .i64 0, .string ⟨#[]⟩, .string ⟨#[]⟩, .int .i64 0] 37)) = V := ⟨_, rfl⟩
      have bz6 : Below g6 w14 U6 := by rw [← hg6, ← hU6]; exact below_more (Below.refl w14.heap.size w14) (.cells #[.int .i64 0, .int .i64 0, .int .i64 0, .string ⟨#[]⟩, .string ⟨#[]⟩, .int .i64 0] 37)
      have N6_0_0 : BlockIs U6 (g6) 37 [.int .i64 0, .int .i64 0, .int .i64 0, .string ⟨#[]⟩, .string ⟨#[]⟩, .int .i64 0] := by rw [← hg6, ← hU6]; exact heap_alloc_new _ _
      have o6_0 := N6_0_0.cell (j := 0) rfl
      have f6_0 := N6_0_0.thaw 0
      obtain ⟨V6_0, hV6_0⟩ : ∃ V, U6.setCell ⟨g6, 0, none⟩ (.int .i64 z.op) = V := ⟨_, rfl⟩
      have N6_0_1 : BlockIs V6_0 (g6) 37 [.int .i64 z.op, .int .i64 0, .int .i64 0, .string ⟨#[]⟩, .string ⟨#[]⟩, .int .i64 0] := by rw [← hV6_0]; exact N6_0_0.set 0 _
      have bz6 : Below g6 w14 V6_0 := by rw [← hV6_0]; exact bz6.setCell (by show _ ≤ g6; omega) _
      have o6_1 := N6_0_1.cell (j := 1) rfl
      have f6_1 := N6_0_1.thaw 1
      obtain ⟨V6_1, hV6_1⟩ : ∃ V, V6_0.setCell ⟨g6, 1, none⟩ (.int .i64 z.token) = V := ⟨_, rfl⟩
      have N6_0_2 : BlockIs V6_1 (g6) 37 [.int .i64 z.op, .int .i64 z.token, .int .i64 0, .string ⟨#[]⟩, .string ⟨#[]⟩, .int .i64 0] := by rw [← hV6_1]; exact N6_0_1.set 1 _
      have bz6 : Below g6 w14 V6_1 := by rw [← hV6_1]; exact bz6.setCell (by show _ ≤ g6; omega) _
      have o6_2 := N6_0_2.cell (j := 2) rfl
      have f6_2 := N6_0_2.thaw 2
      obtain ⟨V6_2, hV6_2⟩ : ∃ V, V6_1.setCell ⟨g6, 2, none⟩ (.int .i64 z.seq) = V := ⟨_, rfl⟩
      have N6_0_3 : BlockIs V6_2 (g6) 37 [.int .i64 z.op, .int .i64 z.token, .int .i64 z.seq, .string ⟨#[]⟩, .string ⟨#[]⟩, .int .i64 0] := by rw [← hV6_2]; exact N6_0_2.set 2 _
      have bz6 : Below g6 w14 V6_2 := by rw [← hV6_2]; exact bz6.setCell (by show _ ≤ g6; omega) _
      have o6_3 := N6_0_3.cell (j := 3) rfl
      have f6_3 := N6_0_3.thaw 3
      obtain ⟨V6_3, hV6_3⟩ : ∃ V, V6_2.setCell ⟨g6, 3, none⟩ (.string z.key) = V := ⟨_, rfl⟩
      have N6_0_4 : BlockIs V6_3 (g6) 37 [.int .i64 z.op, .int .i64 z.token, .int .i64 z.seq, .string z.key, .string ⟨#[]⟩, .int .i64 0] := by rw [← hV6_3]; exact N6_0_3.set 3 _
      have bz6 : Below g6 w14 V6_3 := by rw [← hV6_3]; exact bz6.setCell (by show _ ≤ g6; omega) _
      have o6_4 := N6_0_4.cell (j := 4) rfl
      have f6_4 := N6_0_4.thaw 4
      obtain ⟨V6_4, hV6_4⟩ : ∃ V, V6_3.setCell ⟨g6, 4, none⟩ (.string z.val) = V := ⟨_, rfl⟩
      have N6_0_5 : BlockIs V6_4 (g6) 37 [.int .i64 z.op, .int .i64 z.token, .int .i64 z.seq, .string z.key, .string z.val, .int .i64 0] := by rw [← hV6_4]; exact N6_0_4.set 4 _
      have bz6 : Below g6 w14 V6_4 := by rw [← hV6_4]; exact bz6.setCell (by show _ ≤ g6; omega) _
      have o6_5 := N6_0_5.cell (j := 5) rfl
      have f6_5 := N6_0_5.thaw 5
      obtain ⟨V6_5, hV6_5⟩ : ∃ V, V6_4.setCell ⟨g6, 5, none⟩ (.int .i64 z.ver) = V := ⟨_, rfl⟩
      have N6_0_6 : BlockIs V6_5 (g6) 37 [.int .i64 z.op, .int .i64 z.token, .int .i64 z.seq, .string z.key, .string z.val, .int .i64 z.ver] := by rw [← hV6_5]; exact N6_0_5.set 5 _
      have bz6 : Below g6 w14 V6_5 := by rw [← hV6_5]; exact bz6.setCell (by show _ ≤ g6; omega) _
      have hN6_0 := hid N6_0_6
      have p6_0_0 := hN6_0.out.cell (j := 0) rfl
      have p6_0_1 := hN6_0.out.cell (j := 1) rfl
      have p6_0_2 := hN6_0.out.cell (j := 2) rfl
      have p6_0_3 := hN6_0.out.cell (j := 3) rfl
      have p6_0_4 := hN6_0.out.cell (j := 4) rfl
      have p6_0_5 := hN6_0.out.cell (j := 5) rfl
      have bzz6 : Below w14.heap.size w14 V6_5 := by have h := bz6; rw [← hg6] at h; exact h
      clear bz6 N6_0_0 N6_0_1 N6_0_2 N6_0_3 N6_0_4 N6_0_5 N6_0_6
      have ltc_6 : g4 < g6 := by rw [← hg6]; exact Xc_20.out.lt
      have lty_6 : g5 < g6 := by rw [← hg6]; exact Xy_20.out.lt
      have lo6 : w.heap.size ≤ g6 := by rw [← hg6]; exact B_20.out.size
      go_wp2_with fail
      clear o6_0 f6_0 o6_1 f6_1 o6_2 f6_2 o6_3 f6_3 o6_4 f6_4 o6_5 f6_5 p6_0_0 p6_0_1 p6_0_2 p6_0_3 p6_0_4 p6_0_5
      have Xc_21 : Hid (BlockIs V6_5 (g4) 37 [.int .i64 d.op, .int .i64 d.token, .int .i64 d.seq, .string d.key, .string d.val, .int .i64 d.ver]) := hid (Xc_20.out.on bzz6 Xc_20.out.lt)
      have Xy_21 : Hid (BlockIs V6_5 (g5) 37 [.int .i64 y.op, .int .i64 y.token, .int .i64 y.seq, .string y.key, .string y.val, .int .i64 y.ver]) := hid (Xy_20.out.on bzz6 Xy_20.out.lt)
      have B_21 : Hid (Below w.heap.size w V6_5) := hid (below_via B_20.out bzz6)
      clear Xc_20 Xy_20 B_20
      clear bzz6
      have Xz_21 := hN6_0
      refine Calls.mono (CQ.out _) ?_
      rintro e w15 ⟨rfl, b_s⟩
      have Xc_22 : Hid (BlockIs w15 (g4) 37 [.int .i64 d.op, .int .i64 d.token, .int .i64 d.seq, .string d.key, .string d.val, .int .i64 d.ver]) := hid (Xc_21.out.on b_s Xc_21.out.lt)
      have Xy_22 : Hid (BlockIs w15 (g5) 37 [.int .i64 y.op, .int .i64 y.token, .int .i64 y.seq, .string y.key, .string y.val, .int .i64 y.ver]) := hid (Xy_21.out.on b_s Xy_21.out.lt)
      have Xz_22 : Hid (BlockIs w15 (g6) 37 [.int .i64 z.op, .int .i64 z.token, .int .i64 z.seq, .string z.key, .string z.val, .int .i64 z.ver]) := hid (Xz_21.out.on b_s Xz_21.out.lt)
      have B_22 : Hid (Below w.heap.size w w15) := hid (below_via B_21.out b_s)
      clear Xc_21 Xy_21 Xz_21 B_21
      clear b_s
      obtain ⟨g7, hg7⟩ : ∃ g, w15.heap.size = g := ⟨_, rfl⟩
      obtain ⟨U7, hU7⟩ : ∃ V, (w15.alloc (.cells #[.int .i64 0, .int .i64 0, .int .i64 0, .string ⟨#[]⟩, .string ⟨#[]⟩, .int .i64 0] 37)) = V := ⟨_, rfl⟩
      have bz7 : Below g7 w15 U7 := by rw [← hg7, ← hU7]; exact below_more (Below.refl w15.heap.size w15) (.cells #[.int .i64 0, .int .i64 0, .int .i64 0, .string ⟨#[]⟩, .string ⟨#[]⟩, .int .i64 0] 37)
      have N7_0_0 : BlockIs U7 (g7) 37 [.int .i64 0, .int .i64 0, .int .i64 0, .string ⟨#[]⟩, .string ⟨#[]⟩, .int .i64 0] := by rw [← hg7, ← hU7]; exact heap_alloc_new _ _
      have o7_0 := N7_0_0.cell (j := 0) rfl
      have f7_0 := N7_0_0.thaw 0
      obtain ⟨V7_0, hV7_0⟩ : ∃ V, U7.setCell ⟨g7, 0, none⟩ (.int .i64 z.op) = V := ⟨_, rfl⟩
      have N7_0_1 : BlockIs V7_0 (g7) 37 [.int .i64 z.op, .int .i64 0, .int .i64 0, .string ⟨#[]⟩, .string ⟨#[]⟩, .int .i64 0] := by rw [← hV7_0]; exact N7_0_0.set 0 _
      have bz7 : Below g7 w15 V7_0 := by rw [← hV7_0]; exact bz7.setCell (by show _ ≤ g7; omega) _
      have o7_1 := N7_0_1.cell (j := 1) rfl
      have f7_1 := N7_0_1.thaw 1
      obtain ⟨V7_1, hV7_1⟩ : ∃ V, V7_0.setCell ⟨g7, 1, none⟩ (.int .i64 z.token) = V := ⟨_, rfl⟩
      have N7_0_2 : BlockIs V7_1 (g7) 37 [.int .i64 z.op, .int .i64 z.token, .int .i64 0, .string ⟨#[]⟩, .string ⟨#[]⟩, .int .i64 0] := by rw [← hV7_1]; exact N7_0_1.set 1 _
      have bz7 : Below g7 w15 V7_1 := by rw [← hV7_1]; exact bz7.setCell (by show _ ≤ g7; omega) _
      have o7_2 := N7_0_2.cell (j := 2) rfl
      have f7_2 := N7_0_2.thaw 2
      obtain ⟨V7_2, hV7_2⟩ : ∃ V, V7_1.setCell ⟨g7, 2, none⟩ (.int .i64 z.seq) = V := ⟨_, rfl⟩
      have N7_0_3 : BlockIs V7_2 (g7) 37 [.int .i64 z.op, .int .i64 z.token, .int .i64 z.seq, .string ⟨#[]⟩, .string ⟨#[]⟩, .int .i64 0] := by rw [← hV7_2]; exact N7_0_2.set 2 _
      have bz7 : Below g7 w15 V7_2 := by rw [← hV7_2]; exact bz7.setCell (by show _ ≤ g7; omega) _
      have o7_3 := N7_0_3.cell (j := 3) rfl
      have f7_3 := N7_0_3.thaw 3
      obtain ⟨V7_3, hV7_3⟩ : ∃ V, V7_2.setCell ⟨g7, 3, none⟩ (.string z.key) = V := ⟨_, rfl⟩
      have N7_0_4 : BlockIs V7_3 (g7) 37 [.int .i64 z.op, .int .i64 z.token, .int .i64 z.seq, .string z.key, .string ⟨#[]⟩, .int .i64 0] := by rw [← hV7_3]; exact N7_0_3.set 3 _
      have bz7 : Below g7 w15 V7_3 := by rw [← hV7_3]; exact bz7.setCell (by show _ ≤ g7; omega) _
      have o7_4 := N7_0_4.cell (j := 4) rfl
      have f7_4 := N7_0_4.thaw 4
      obtain ⟨V7_4, hV7_4⟩ : ∃ V, V7_3.setCell ⟨g7, 4, none⟩ (.string z.val) = V := ⟨_, rfl⟩
      have N7_0_5 : BlockIs V7_4 (g7) 37 [.int .i64 z.op, .int .i64 z.token, .int .i64 z.seq, .string z.key, .string z.val, .int .i64 0] := by rw [← hV7_4]; exact N7_0_4.set 4 _
      have bz7 : Below g7 w15 V7_4 := by rw [← hV7_4]; exact bz7.setCell (by show _ ≤ g7; omega) _
      have o7_5 := N7_0_5.cell (j := 5) rfl
      have f7_5 := N7_0_5.thaw 5
      obtain ⟨V7_5, hV7_5⟩ : ∃ V, V7_4.setCell ⟨g7, 5, none⟩ (.int .i64 z.ver) = V := ⟨_, rfl⟩
      have N7_0_6 : BlockIs V7_5 (g7) 37 [.int .i64 z.op, .int .i64 z.token, .int .i64 z.seq, .string z.key, .string z.val, .int .i64 z.ver] := by rw [← hV7_5]; exact N7_0_5.set 5 _
      have bz7 : Below g7 w15 V7_5 := by rw [← hV7_5]; exact bz7.setCell (by show _ ≤ g7; omega) _
      have hN7_0 := hid N7_0_6
      have p7_0_0 := hN7_0.out.cell (j := 0) rfl
      have p7_0_1 := hN7_0.out.cell (j := 1) rfl
      have p7_0_2 := hN7_0.out.cell (j := 2) rfl
      have p7_0_3 := hN7_0.out.cell (j := 3) rfl
      have p7_0_4 := hN7_0.out.cell (j := 4) rfl
      have p7_0_5 := hN7_0.out.cell (j := 5) rfl
      have bzz7 : Below w15.heap.size w15 V7_5 := by have h := bz7; rw [← hg7] at h; exact h
      clear bz7 N7_0_0 N7_0_1 N7_0_2 N7_0_3 N7_0_4 N7_0_5 N7_0_6
      have ltc_7 : g4 < g7 := by rw [← hg7]; exact Xc_22.out.lt
      have lty_7 : g5 < g7 := by rw [← hg7]; exact Xy_22.out.lt
      have ltz_7 : g6 < g7 := by rw [← hg7]; exact Xz_22.out.lt
      have lo7 : w.heap.size ≤ g7 := by rw [← hg7]; exact B_22.out.size
      have Zz := Xz_22.out.on bzz7 Xz_22.out.lt
      have zz0 := Zz.cell (j := 0) rfl
      have zz1 := Zz.cell (j := 1) rfl
      have zz2 := Zz.cell (j := 2) rfl
      have zz3 := Zz.cell (j := 3) rfl
      have zz4 := Zz.cell (j := 4) rfl
      have zz5 := Zz.cell (j := 5) rfl
      clear Zz
      go_wp2_with fail
      clear zz0 zz1 zz2 zz3 zz4 zz5
      clear o7_0 f7_0 o7_1 f7_1 o7_2 f7_2 o7_3 f7_3 o7_4 f7_4 o7_5 f7_5 p7_0_0 p7_0_1 p7_0_2 p7_0_3 p7_0_4 p7_0_5
      have Xc_23 : Hid (BlockIs V7_5 (g4) 37 [.int .i64 d.op, .int .i64 d.token, .int .i64 d.seq, .string d.key, .string d.val, .int .i64 d.ver]) := hid (Xc_22.out.on bzz7 Xc_22.out.lt)
      have Xy_23 : Hid (BlockIs V7_5 (g5) 37 [.int .i64 y.op, .int .i64 y.token, .int .i64 y.seq, .string y.key, .string y.val, .int .i64 y.ver]) := hid (Xy_22.out.on bzz7 Xy_22.out.lt)
      have Xz_23 : Hid (BlockIs V7_5 (g6) 37 [.int .i64 z.op, .int .i64 z.token, .int .i64 z.seq, .string z.key, .string z.val, .int .i64 z.ver]) := hid (Xz_22.out.on bzz7 Xz_22.out.lt)
      have B_23 : Hid (Below w.heap.size w V7_5) := hid (below_via B_22.out bzz7)
      clear Xc_22 Xy_22 Xz_22 B_22
      clear bzz7
      have Xo_23 := hN7_0
      refine Calls.mono (CB.out _) ?_
      rintro e w16 ⟨rfl, b_s⟩
      have Xc_24 : Hid (BlockIs w16 (g4) 37 [.int .i64 d.op, .int .i64 d.token, .int .i64 d.seq, .string d.key, .string d.val, .int .i64 d.ver]) := hid (Xc_23.out.on b_s Xc_23.out.lt)
      have Xy_24 : Hid (BlockIs w16 (g5) 37 [.int .i64 y.op, .int .i64 y.token, .int .i64 y.seq, .string y.key, .string y.val, .int .i64 y.ver]) := hid (Xy_23.out.on b_s Xy_23.out.lt)
      have Xz_24 : Hid (BlockIs w16 (g6) 37 [.int .i64 z.op, .int .i64 z.token, .int .i64 z.seq, .string z.key, .string z.val, .int .i64 z.ver]) := hid (Xz_23.out.on b_s Xz_23.out.lt)
      have Xo_24 : Hid (BlockIs w16 (g7) 37 [.int .i64 z.op, .int .i64 z.token, .int .i64 z.seq, .string z.key, .string z.val, .int .i64 z.ver]) := hid (Xo_23.out.on b_s Xo_23.out.lt)
      have B_24 : Hid (Below w.heap.size w w16) := hid (below_via B_23.out b_s)
      clear Xc_23 Xy_23 Xz_23 Xo_23 B_23
      clear b_s
      have cc0_3 := Xc_24.out.cell (j := 0) rfl
      have cc1_3 := Xc_24.out.cell (j := 1) rfl
      have cc2_3 := Xc_24.out.cell (j := 2) rfl
      have cc3_3 := Xc_24.out.cell (j := 3) rfl
      have cc4_3 := Xc_24.out.cell (j := 4) rfl
      have cc5_3 := Xc_24.out.cell (j := 5) rfl
      have cy0_3 := Xy_24.out.cell (j := 0) rfl
      have cy1_3 := Xy_24.out.cell (j := 1) rfl
      have cy2_3 := Xy_24.out.cell (j := 2) rfl
      have cy3_3 := Xy_24.out.cell (j := 3) rfl
      have cy4_3 := Xy_24.out.cell (j := 4) rfl
      have cy5_3 := Xy_24.out.cell (j := 5) rfl
      go_wp2_with fail
      refine Calls.mono (CO.out _) ?_
      rintro e w17 ⟨rfl, b_s⟩
      have Xc_25 : Hid (BlockIs w17 (g4) 37 [.int .i64 d.op, .int .i64 d.token, .int .i64 d.seq, .string d.key, .string d.val, .int .i64 d.ver]) := hid (Xc_24.out.on b_s Xc_24.out.lt)
      have Xy_25 : Hid (BlockIs w17 (g5) 37 [.int .i64 y.op, .int .i64 y.token, .int .i64 y.seq, .string y.key, .string y.val, .int .i64 y.ver]) := hid (Xy_24.out.on b_s Xy_24.out.lt)
      have Xz_25 : Hid (BlockIs w17 (g6) 37 [.int .i64 z.op, .int .i64 z.token, .int .i64 z.seq, .string z.key, .string z.val, .int .i64 z.ver]) := hid (Xz_24.out.on b_s Xz_24.out.lt)
      have Xo_25 : Hid (BlockIs w17 (g7) 37 [.int .i64 z.op, .int .i64 z.token, .int .i64 z.seq, .string z.key, .string z.val, .int .i64 z.ver]) := hid (Xo_24.out.on b_s Xo_24.out.lt)
      have B_25 : Hid (Below w.heap.size w w17) := hid (below_via B_24.out b_s)
      clear cc0_3 cc1_3 cc2_3 cc3_3 cc4_3 cc5_3 cy0_3 cy1_3 cy2_3 cy3_3 cy4_3 cy5_3
      clear Xc_24 Xy_24 Xz_24 Xo_24 B_24
      clear b_s
      clear CZ CQ CB CO
      have heq := fun w => eq_Command y.op y.token y.seq y.key y.val y.ver w
      have hgd := fun a b w => guard_Command a b #[.int .i64 y.op, .int .i64 y.token, .int .i64 y.seq, .string y.key, .string y.val, .int .i64 y.ver] #[.int .i64 y.op, .int .i64 y.token, .int .i64 y.seq, .string y.key, .string y.val, .int .i64 y.ver] w
      have hgg : (gd == gd) = true := by cases gd <;> rfl
      have hzz : (zb == zb) = true := by cases zb <;> rfl
      cases gd
      · skip
        cases zb
        · skip
          go_wp2
          go_ret
          exact ⟨rfl, B_25.out⟩
        · skip
          have hbt := HBT.out rfl
          subst hbt
          have htt : (bt.toList == bt.toList) = true := by simp
          go_wp2
          go_ret
          exact ⟨rfl, B_25.out⟩
      · skip
        obtain ⟨hyd, hyb⟩ := HYD.out rfl
        subst hyd hyb
        have cc0_4 := Xc_25.out.cell (j := 0) rfl
        have cc1_4 := Xc_25.out.cell (j := 1) rfl
        have cc2_4 := Xc_25.out.cell (j := 2) rfl
        have cc3_4 := Xc_25.out.cell (j := 3) rfl
        have cc4_4 := Xc_25.out.cell (j := 4) rfl
        have cc5_4 := Xc_25.out.cell (j := 5) rfl
        have cy0_4 := Xy_25.out.cell (j := 0) rfl
        have cy1_4 := Xy_25.out.cell (j := 1) rfl
        have cy2_4 := Xy_25.out.cell (j := 2) rfl
        have cy3_4 := Xy_25.out.cell (j := 3) rfl
        have cy4_4 := Xy_25.out.cell (j := 4) rfl
        have cy5_4 := Xy_25.out.cell (j := 5) rfl
        cases zb
        · skip
          go_wp2
          go_ret
          exact ⟨rfl, B_25.out⟩
        · skip
          have hbt := HBT.out rfl
          subst hbt
          have htt : (bt.toList == bt.toList) = true := by simp
          go_wp2
          go_ret
          exact ⟨rfl, B_25.out⟩

theorem own : ownKnob Tryd.prog.godebug = none := by kernel_rfl
theorem laidOut : laidOutB Tryd.prog = true := by kernel_rfl
theorem rowed : varsRowed Tryd.prog Rows.fnKeepTextsSpec.vars = true := by kernel_rfl
set_option maxRecDepth 1000000 in
theorem contract (H : Type) (enc : TypeId × Value → H) (W : World) (base : Nat) (args : Array Value) (ds gs : List (DataW H)) (before : List MemPlace)
    (hval : ∀ (j : Nat) t v, Tryd.f3.params[j]? = some t → args[j]? = some v → Value.okWide Tryd.prog W .any base t v)
    (hW : DataW.Whole enc Tryd.prog Tryd.f3.params.toList Rows.fnKeepTextsSpec.vars false W args.toList ds gs before) (_hL : laidMetH Tryd.prog Rows.fnKeepTextsRow.laid W) :
    Calls Tryd.prog 3 args W fun e W' => ∃ v, e = .returned v ∧ Rows.fnKeepTextsSpec.post enc Tryd.prog Tryd.f3 false true false false W args v W' := by
  have hW' := hW
  obtain ⟨p, q, hA0, hV0, rfl, hfz, hnd⟩ := hW
  have hV : DataW.TrodVars enc Tryd.prog W (fun _ => true) Rows.fnKeepTextsSpec.vars gs q := hV0
  have hA : DataW.TrodAll enc Tryd.prog W 0 (fun _ => true) true Tryd.f3.params.toList args.toList ds p := hA0
  rw [Tryd.params3] at hA hval
  obtain ⟨v0, vs0, d0, ds0, p0, q0, hargs0, rfl, rfl, h0, r0⟩ := trodAll_cons hA
  obtain ⟨rfl, rfl, rfl⟩ := trodAll_nil r0
  obtain rfl : args = #[v0] := by cases args; simp_all
  obtain ⟨a0, len0, cap0, rfl⟩ := okWide_slice Tryd.underlying22 (hval 0 22 v0 rfl rfl)
  have k0 := h0
  have lt0 : ∀ x ∈ p0, x.block < W.heap.size := by obtain ⟨m, hm⟩ := k0; exact DataW.trod_lt m _ _ _ hm
  have hb0 : len0 ≤ cap0 ∧ Bytes W a0 len0 := by
    obtain ⟨fuel, hf⟩ := h0
    rcases open_ints Tryd.underlying22 Tryd.underlying5 (by kernel_rfl) hf with ⟨hcs, _⟩ | ⟨x, l, c, zs, hcs, _, hl, hm, hz, _, hcell, hwz⟩
    · simp [Value.cells] at hcs
      obtain ⟨rfl, rfl, rfl⟩ := hcs
      exact ⟨Nat.le_refl _, fun h => by omega⟩
    · simp [Value.cells] at hcs
      obtain ⟨rfl, rfl, rfl⟩ := hcs
      refine ⟨hl, fun hp => ?_⟩
      have hzl : zs.length = cap0 := by simpa using hz
      obtain ⟨b, off, rfl, hc⟩ := ints_at hcell (by omega)
      refine ⟨b, off, rfl, fun j hj => ?_⟩
      have hjz : j < zs.length := by omega
      have hb8 := bounds_u8 (hwz (zs.getD j 0) (by simp [List.getD, hjz]))
      exact ⟨zs.getD j 0, hb8.1, hb8.2, hc j hjz⟩
  clear hA0 hV0
  obtain ⟨rfl, rfl⟩ := trodVars_none hV
  refine (walk a0 len0 cap0 hb0.1 W hb0.2).mono fun e W' ⟨he, bel⟩ => ?_
  subst he
  exact ⟨_, rfl, _, _, _, [], _, [], hW', trodAll_mk1 (shut_bool Tryd.underlying4 _), trodAll_cons_mk (Below.trod laidOut (by kernel_rfl) (of_decide_eq_true (by kernel_rfl)) k0 bel lt0) (trodAll_mk0), rfl, bel.frame _, fun h => by cases h⟩

def put (cs : Array Value) : Obj → Obj
  | .cells _ t frozen => .cells cs t frozen
  | o => o

/-- a world for the witness: the tables hold what their initialisers lay -/
def laidWorld (w : World) : World := { w with heap := (w.heap.modify 0 (put #[.iface 137 (.pointer (some ⟨6, 0, none⟩))])) }
theorem laid_met (os : Os) : laidMet Tryd.prog Rows.fnKeepTextsRow.laid ((laidWorld (World.holding Tryd.prog os ⟨#[.cells #[.string { data := #[98, 121, 116, 101, 115, 46, 66, 117, 102, 102, 101, 114, 58, 32, 116, 111, 111, 32, 108, 97, 114, 103, 101] }] 152], #[], []⟩)).forCall (fun _ _ => 0) ⟨#[], #[.slice none 0 0], []⟩).memory :=
  laidMet_of_run' 8 (by kernel_rfl) (by kernel_rfl)
theorem reads (os : Os) {H : Type} (enc : TypeId × Value → H) : ∃ places, DataW.whole enc Tryd.prog ((laidWorld (World.holding Tryd.prog os ⟨#[.cells #[.string { data := #[98, 121, 116, 101, 115, 46, 66, 117, 102, 102, 101, 114, 58, 32, 116, 111, 111, 32, 108, 97, 114, 103, 101] }] 152], #[], []⟩)).forCall (fun _ _ => 0) ⟨#[], #[.slice none 0 0], []⟩).memory Tryd.f3.params.toList Rows.fnKeepTextsSpec.vars false #[Value.slice none 0 0].toList 8 = some ([.nil], [], places) :=
  ⟨[], by kernel_rfl⟩

set_option maxRecDepth 1000000 in
theorem lifted (os : Os) (started : os.Started) (H : Type) (enc : TypeId × Value → H) (F : Stop.Interp) :
    ReturnsInHanded {} Tryd.checked os 3 .any ((OpenSpec.ofChange Rows.fnKeepTextsSpec).preRow enc Tryd.prog Tryd.f3 Rows.fnKeepTextsRow.domain false Rows.fnKeepTextsRow.laid) (((OpenSpec.ofChange Rows.fnKeepTextsSpec).at F).post enc Tryd.prog Tryd.f3 false true false false) := by
  obtain ⟨places, hx⟩ := reads os enc
  refine returnsInHanded_of_row (C := Tryd.checked) (s := OpenSpec.ofChange Rows.fnKeepTextsSpec) own started (by kernel_rfl) Tryd.func3
    (witness_row_at (enc := enc) (C := Tryd.checked) false (laidWorld (World.holding Tryd.prog os ⟨#[.cells #[.string { data := #[98, 121, 116, 101, 115, 46, 66, 117, 102, 102, 101, 114, 58, 32, 116, 111, 111, 32, 108, 97, 114, 103, 101] }] 152], #[], []⟩)) #[.slice none 0 0] rfl (by kernel_rfl) (by kernel_rfl) (by kernel_rfl)
      (OpenSpec.preRow_of_cond 8 hx (by kernel_rfl) (fun k hk => by cases hk) (by kernel_rfl) (laid_met os))) ?_
  intro W base args ds gs before hval hW _ _ _ hL _ _
  exact contract H enc W base args ds gs before hval hW hL

theorem said : Rows.FnKeepTextsSaid :=
  OpenClaim.holds_of_cond 3 Tryd.f3 rfl rfl rfl rfl rfl rfl rfl ⟨rfl, rfl, rfl, rfl, rfl⟩ rfl rfl rfl rfl rfl (by kernel_rfl) Tryd.func3 (by kernel_rfl)
    (of_decide_eq_true (by kernel_rfl)) (by unfold Func.isWrapper; first | (rw [if_pos (by decide +kernel)]; kernel_rfl) | (rw [if_neg (by decide +kernel)]; exact ⟨rfl, rfl⟩))
    (fun os started H enc _ F => by rw [OpenClaim.pre_eq_preRow]; exact lifted os started H enc F)

theorem plain (f : FuncId) (fn : Func) (hf : Tryd.pinned.checked.prog.funcNamed "loop.example/g00232/laws.FnKeepTexts" = some f) (hfn : Tryd.pinned.checked.prog.funcs[f]? = some fn) :
    true = Tryd.pinned.checked.prog.looks [] ∧ ∀ (j : Nat) t, fn.params[j]? = some t → Tryd.pinned.checked.prog.wantsStandIn t = false := by
  obtain rfl : f = 3 := Option.some.inj ((show Tryd.prog.funcNamed "loop.example/g00232/laws.FnKeepTexts" = some 3 by kernel_rfl).symm.trans hf) |>.symm
  obtain rfl : fn = Tryd.f3 := (Option.some.inj (Tryd.func3.symm.trans hfn)).symm
  refine ⟨by kernel_rfl, fun j t ht => ?_⟩
  rw [Tryd.params3] at ht
  obtain rfl : t = 22 := by simpa using Array.mem_of_getElem? ht
  exact (show Tryd.prog.wantsStandIn 22 = false by kernel_rfl)

theorem card : Rows.FnKeepTextsCardSaid :=
  Claim7.holds_tied_plain_at .later [] _ _ _ _ said (fun _ h => by cases h) (by kernel_rfl) (fun _ h => by cases h) fnKeepTexts_row_tie rfl ⟨rfl, rfl⟩ (by kernel_rfl) rfl plain (by kernel_rfl)
end Go.Proofs.YtihgkocfgjihhaaDoor.fnKeepTexts
