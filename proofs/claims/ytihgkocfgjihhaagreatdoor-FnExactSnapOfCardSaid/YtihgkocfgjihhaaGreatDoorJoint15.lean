/-
  The walk of laws.szServer.
  The walk of laws.markText: the text by which a place is marked.
  The walks of laws.toPeer, toPeerS: laid anew, in memory of its own.
-/
import Derived.Test.YtihgkocfgjihhaaGreatDoorJoint12
import Derived.Test.YtihgkocfgjihhaaGreatDoorJoint7
import Derived.Test.YtihgkocfgjihhaaGreatDoorJoint14
import Derived.Test.YtihgkocfgjihhaaGreatDoorRows
import Derived.Test.YtihgkocfgjihhaaGreatDoorJoint1
import Derived.BigQuiet
import Derived.Lib.QuietBelow
import Derived.WalkSmall
import Derived.WalkKit
import Derived.OwnWalk
namespace Go.Proofs.YtihgkocfgjihhaaGreatDoor
open Go.ChangeShapes Go.WideShapes Go.RowKit Go.Deep

structure ServD.Small (d : ServD) : Prop where
  node : d.node.Small
  files : d.files.length ≤ 1048576
  ftext : ∀ f ∈ d.files, f.text.size ≤ 1048576
  fname : ∀ f ∈ d.files, f.name.size ≤ 1048576
  jents : d.jents.length ≤ 1048576
  jdata : ∀ f ∈ d.jents, f.data.size ≤ 1048576
  ss : d.ss.length ≤ 1048576
  items : d.items.length ≤ 1048576
  stage : d.stage.size ≤ 1048576
  total : d.node.conf.length + d.node.ents.length + d.node.votes.length + d.node.peers.length + d.files.length + d.jents.length + d.ss.length + d.items.length ≤ 1048576
set_option maxRecDepth 1000000 in
set_option maxHeartbeats 2000000 in
theorem szNode_bd (d : NodeD) (p : NodeL) (hd : d.Fits) (w : World) (ha : NodeAt w d p) :
    Calls Tryz.prog 37 #[.agg #[.int .i64 d.id, .int .i64 d.term, .int .i64 d.vote, .int .i64 d.role, .int .i64 d.lead, .slice p.co d.conf.length p.cc, .int .i64 d.start, .int .i64 d.sterm, .slice p.eo d.ents.length p.ec, .int .i64 d.commit, .int .i64 d.clock, .int .i64 d.limit, .slice p.vo d.votes.length p.vc, .slice p.po d.peers.length p.pc], .int .i64 1048576] w fun e w' => ((1048576 - nodeBulk d < 0 ∧ e = .returned (.int .i64 (-1))) ∨ (0 ≤ 1048576 - nodeBulk d ∧ ∃ x : Int, 0 ≤ x ∧ x + (d.conf.length + d.ents.length + d.votes.length + d.peers.length : Nat) ≤ 1048576 ∧ e = .returned (.int .i64 x))) ∧ Below w.heap.size w w' := by
  have hN := entBulk_nonneg d.ents
  have HS : Hid (nodeBulk d = (d.conf.length : Int) + d.ents.length + entBulk d.ents + d.votes.length + d.peers.length) := rfl
  have hl1 := hd.conf
  have hl2 := hd.ents
  have hl3 := hd.votes
  have hl4 := hd.peers
  unfold maxLen at hl1 hl2 hl3 hl4
  have C := hid (fun w => szIntS_any p.co d.conf.length p.cc 1048576 (by omega) (by omega) hl1 w)
  have D := hid (fun k h0 h1 w ha => szLog_any d.start d.sterm p.eo d.ents p.ec k h0 h1 hl2 hd.each w ha)
  have E := hid (fun k h0 h1 w => szIntS_any p.vo d.votes.length p.vc k h0 h1 hl3 w)
  have F := hid (fun k h0 h1 w => szPeerS_any p.po d.peers p.pc k h0 h1 hl4 w)
  have HX := hid (show BlockIs (w.alloc (.cells #[.int .i64 d.id, .int .i64 d.term, .int .i64 d.vote, .int .i64 d.role, .int .i64 d.lead, .slice p.co d.conf.length p.cc, .int .i64 d.start, .int .i64 d.sterm, .slice p.eo d.ents.length p.ec, .int .i64 d.commit, .int .i64 d.clock, .int .i64 d.limit, .slice p.vo d.votes.length p.vc, .slice p.po d.peers.length p.pc] 39)) w.heap.size 39 [.int .i64 d.id, .int .i64 d.term, .int .i64 d.vote, .int .i64 d.role, .int .i64 d.lead, .slice p.co d.conf.length p.cc, .int .i64 d.start, .int .i64 d.sterm, .slice p.eo d.ents.length p.ec, .int .i64 d.commit, .int .i64 d.clock, .int .i64 d.limit, .slice p.vo d.votes.length p.vc, .slice p.po d.peers.length p.pc] from heap_alloc_new w _)
  have HB := hid (below_more (Below.refl w.heap.size w) (.cells #[.int .i64 d.id, .int .i64 d.term, .int .i64 d.vote, .int .i64 d.role, .int .i64 d.lead, .slice p.co d.conf.length p.cc, .int .i64 d.start, .int .i64 d.sterm, .slice p.eo d.ents.length p.ec, .int .i64 d.commit, .int .i64 d.clock, .int .i64 d.limit, .slice p.vo d.votes.length p.vc, .slice p.po d.peers.length p.pc] 39))
  have HA := hid (ha.on HB.out)
  obtain ⟨W, hW⟩ : ∃ W, w.alloc (.cells #[.int .i64 d.id, .int .i64 d.term, .int .i64 d.vote, .int .i64 d.role, .int .i64 d.lead, .slice p.co d.conf.length p.cc, .int .i64 d.start, .int .i64 d.sterm, .slice p.eo d.ents.length p.ec, .int .i64 d.commit, .int .i64 d.clock, .int .i64 d.limit, .slice p.vo d.votes.length p.vc, .slice p.po d.peers.length p.pc] 39) = W := ⟨_, rfl⟩
  rw [hW] at HX HB HA
  have x5 := HX.out.cell (j := 5) rfl
  have x6 := HX.out.cell (j := 6) rfl
  have x7 := HX.out.cell (j := 7) rfl
  have x8 := HX.out.cell (j := 8) rfl
  clear ha hd
  go_enter Tryz.func37, Tryz.ntmps37
  go_wp2_with fail
  refine (C.out _).mono ?_
  rintro e w1 ⟨(⟨hneg, rfl⟩ | ⟨hnn, rfl⟩), hw⟩
  · rw [hw]
    clear hw C D E F
    go_wp2
    go_ret
    exact ⟨Or.inl ⟨by rw [HS.out]; omega, rfl⟩, HB.out⟩
  · rw [hw]
    clear hw w1
    obtain ⟨q1, hq1⟩ : ∃ q : Int, 1048576 - (d.conf.length : Int) = q := ⟨_, rfl⟩
    have HQ1 := hid hq1
    rw [hq1] at hnn ⊢
    have hq1' : q1 ≤ 1048576 := by omega
    clear hq1 C
    go_wp2_with fail
    refine (D.out q1 hnn hq1' _ HA.out.ents).mono ?_
    rintro e w2 ⟨(⟨hneg, rfl⟩ | ⟨hn2, rfl⟩), b2⟩
    · have B2 := hid (below_via HB.out b2)
      clear b2 D E F
      go_wp2
      go_ret
      exact ⟨Or.inl ⟨by have := HQ1.out; rw [HS.out]; omega, rfl⟩, B2.out⟩
    · have B2 := hid (below_via HB.out b2)
      have X2 := hid (HX.out.on b2 HX.out.lt)
      have y12 := X2.out.cell (j := 12) rfl
      have y13 := X2.out.cell (j := 13) rfl
      obtain ⟨q2, hq2⟩ : ∃ q : Int, q1 - (d.ents.length : Int) - entBulk d.ents = q := ⟨_, rfl⟩
      have HQ2 := hid hq2
      rw [hq2] at hn2 ⊢
      have hq2' : q2 ≤ 1048576 := by omega
      clear hq2 D b2 x5 x6 x7 x8 HX hW
      go_wp2_with fail
      refine (E.out q2 hn2 hq2' _).mono ?_
      rintro e w3 ⟨(⟨hneg, rfl⟩ | ⟨hn3, rfl⟩), hw⟩
      · rw [hw]
        clear hw E F
        go_wp2
        go_ret
        exact ⟨Or.inl ⟨by have := HQ1.out; have := HQ2.out; rw [HS.out]; omega, rfl⟩, B2.out⟩
      · rw [hw]
        clear hw w3
        obtain ⟨q3, hq3⟩ : ∃ q : Int, q2 - (d.votes.length : Int) = q := ⟨_, rfl⟩
        have HQ3 := hid hq3
        rw [hq3] at hn3 ⊢
        have hq3' : q3 ≤ 1048576 := by omega
        clear hq3 E
        have hpb := peerBulk_zero d.peers
        go_wp2_with fail
        refine (F.out q3 hn3 hq3' _).mono ?_
        rintro e w4 ⟨(⟨hneg, rfl⟩ | ⟨hn4, rfl⟩), hw⟩
        · rw [hw]
          clear hw F
          go_wp2
          go_ret
          exact ⟨Or.inl ⟨by have := HQ1.out; have := HQ2.out; have := HQ3.out; rw [HS.out]; omega, rfl⟩, B2.out⟩
        · rw [hw]
          clear hw w4
          obtain ⟨q4, hq4⟩ : ∃ q : Int, q3 - (d.peers.length : Int) = q := ⟨_, rfl⟩
          have HQ4 := hid hq4
          rw [hq4] at ⊢
          have hq4' : 0 ≤ q4 := by omega
          have hq4b : q4 + (d.conf.length + d.ents.length + d.votes.length + d.peers.length : Nat) ≤ 1048576 := by have := HQ1.out; have := HQ2.out; have := HQ3.out; have := HQ4.out; omega
          clear hq4 F
          go_wp2
          go_ret
          exact ⟨Or.inr ⟨by have := HQ1.out; have := HQ2.out; have := HQ3.out; have := HQ4.out; rw [HS.out]; omega, q4, hq4', hq4b, rfl⟩, B2.out⟩

set_option maxRecDepth 1000000 in
set_option maxHeartbeats 4000000 in
theorem szServer_any (d : ServD) (p : ServL) (hf : d.Fits) (w : World) (ha : ServAt w d p) :
    Calls Tryz.prog 13 #[.agg #[.int .i64 d.node.id, .int .i64 d.node.term, .int .i64 d.node.vote, .int .i64 d.node.role, .int .i64 d.node.lead, .slice p.node.co d.node.conf.length p.node.cc, .int .i64 d.node.start, .int .i64 d.node.sterm, .slice p.node.eo d.node.ents.length p.node.ec, .int .i64 d.node.commit, .int .i64 d.node.clock, .int .i64 d.node.limit, .slice p.node.vo d.node.votes.length p.node.vc, .slice p.node.po d.node.peers.length p.node.pc, .slice p.fo d.files.length p.fc, .int .i64 d.jn, .int .i64 d.jtm, .int .i64 d.jvt, .int .i64 d.js, .int .i64 d.jt, .slice p.jo d.jents.length p.jc, .slice p.so d.ss.length p.sc, .slice p.io d.items.length p.ic, .int .i64 d.applied, .string d.stage, .int .i64 d.sat, .int .i64 d.sterm], .int .i64 1048576] w fun e w' => (e = .returned (.int .i64 (-1)) ∨ (d.Small ∧ ∃ x : Int, 0 ≤ x ∧ e = .returned (.int .i64 x))) ∧ Below w.heap.size w w' := by
  have HA := hid ha
  obtain ⟨fnode, ffl, ffe, fjl, fje, fsl, fse, fil, fie, fst0, _, _, _, _, _, _, _, _⟩ := hf
  have fst1 : d.stage.size ≤ 9223372036854775807 := fst0
  clear ha
  have B_0 : Hid (Below w.heap.size w w) := hid (Below.refl w.heap.size w)
  obtain ⟨g0, hg0⟩ : ∃ g, w.heap.size = g := ⟨_, rfl⟩
  obtain ⟨U0, hU0⟩ : ∃ V, (w.alloc (.cells #[.int .i64 d.node.id, .int .i64 d.node.term, .int .i64 d.node.vote, .int .i64 d.node.role, .int .i64 d.node.lead, .slice p.node.co d.node.conf.length p.node.cc, .int .i64 d.node.start, .int .i64 d.node.sterm, .slice p.node.eo d.node.ents.length p.node.ec, .int .i64 d.node.commit, .int .i64 d.node.clock, .int .i64 d.node.limit, .slice p.node.vo d.node.votes.length p.node.vc, .slice p.node.po d.node.peers.length p.node.pc, .slice p.fo d.files.length p.fc, .int .i64 d.jn, .int .i64 d.jtm, .int .i64 d.jvt, .int .i64 d.js, .int .i64 d.jt, .slice p.jo d.jents.length p.jc, .slice p.so d.ss.length p.sc, .slice p.io d.items.length p.ic, .int .i64 d.applied, .string d.stage, .int .i64 d.sat, .int .i64 d.sterm] 50)) = V := ⟨_, rfl⟩
  have bz0 : Below g0 w U0 := by rw [← hg0, ← hU0]; exact below_more (Below.refl w.heap.size w) (.cells #[.int .i64 d.node.id, .int .i64 d.node.term, .int .i64 d.node.vote, .int .i64 d.node.role, .int .i64 d.node.lead, .slice p.node.co d.node.conf.length p.node.cc, .int .i64 d.node.start, .int .i64 d.node.sterm, .slice p.node.eo d.node.ents.length p.node.ec, .int .i64 d.node.commit, .int .i64 d.node.clock, .int .i64 d.node.limit, .slice p.node.vo d.node.votes.length p.node.vc, .slice p.node.po d.node.peers.length p.node.pc, .slice p.fo d.files.length p.fc, .int .i64 d.jn, .int .i64 d.jtm, .int .i64 d.jvt, .int .i64 d.js, .int .i64 d.jt, .slice p.jo d.jents.length p.jc, .slice p.so d.ss.length p.sc, .slice p.io d.items.length p.ic, .int .i64 d.applied, .string d.stage, .int .i64 d.sat, .int .i64 d.sterm] 50)
  have N0_0_0 : BlockIs U0 (g0) 50 [.int .i64 d.node.id, .int .i64 d.node.term, .int .i64 d.node.vote, .int .i64 d.node.role, .int .i64 d.node.lead, .slice p.node.co d.node.conf.length p.node.cc, .int .i64 d.node.start, .int .i64 d.node.sterm, .slice p.node.eo d.node.ents.length p.node.ec, .int .i64 d.node.commit, .int .i64 d.node.clock, .int .i64 d.node.limit, .slice p.node.vo d.node.votes.length p.node.vc, .slice p.node.po d.node.peers.length p.node.pc, .slice p.fo d.files.length p.fc, .int .i64 d.jn, .int .i64 d.jtm, .int .i64 d.jvt, .int .i64 d.js, .int .i64 d.jt, .slice p.jo d.jents.length p.jc, .slice p.so d.ss.length p.sc, .slice p.io d.items.length p.ic, .int .i64 d.applied, .string d.stage, .int .i64 d.sat, .int .i64 d.sterm] := by rw [← hg0, ← hU0]; exact heap_alloc_new _ _
  have hN0_0 := hid N0_0_0
  have bzz0 : Below w.heap.size w U0 := by have h := bz0; rw [← hg0] at h; exact h
  clear bz0 N0_0_0
  have lo0 : w.heap.size ≤ g0 := by rw [← hg0]; exact B_0.out.size
  have cz0 := hN0_0.out.cell (j := 0) rfl
  have cz1 := hN0_0.out.cell (j := 1) rfl
  have cz2 := hN0_0.out.cell (j := 2) rfl
  have cz3 := hN0_0.out.cell (j := 3) rfl
  have cz4 := hN0_0.out.cell (j := 4) rfl
  have cz5 := hN0_0.out.cell (j := 5) rfl
  have cz6 := hN0_0.out.cell (j := 6) rfl
  have cz7 := hN0_0.out.cell (j := 7) rfl
  have cz8 := hN0_0.out.cell (j := 8) rfl
  have cz9 := hN0_0.out.cell (j := 9) rfl
  have cz10 := hN0_0.out.cell (j := 10) rfl
  have cz11 := hN0_0.out.cell (j := 11) rfl
  have cz12 := hN0_0.out.cell (j := 12) rfl
  have cz13 := hN0_0.out.cell (j := 13) rfl
  have CN := hid (fun W h => szNode_bd d.node p.node fnode W h)
  go_enter Tryz.func13, Tryz.ntmps13
  go_wp2_with fail
  have B_1 : Hid (Below w.heap.size w U0) := hid (below_via B_0.out bzz0)
  clear B_0
  clear bzz0
  have Xa_1 := hN0_0
  refine Calls.mono (CN.out _ (HA.out.node.on B_1.out)) ?_
  rintro e w1 ⟨hor, b_s⟩
  clear CN
  have Xa_2 : Hid (BlockIs w1 (g0) 50 [.int .i64 d.node.id, .int .i64 d.node.term, .int .i64 d.node.vote, .int .i64 d.node.role, .int .i64 d.node.lead, .slice p.node.co d.node.conf.length p.node.cc, .int .i64 d.node.start, .int .i64 d.node.sterm, .slice p.node.eo d.node.ents.length p.node.ec, .int .i64 d.node.commit, .int .i64 d.node.clock, .int .i64 d.node.limit, .slice p.node.vo d.node.votes.length p.node.vc, .slice p.node.po d.node.peers.length p.node.pc, .slice p.fo d.files.length p.fc, .int .i64 d.jn, .int .i64 d.jtm, .int .i64 d.jvt, .int .i64 d.js, .int .i64 d.jt, .slice p.jo d.jents.length p.jc, .slice p.so d.ss.length p.sc, .slice p.io d.items.length p.ic, .int .i64 d.applied, .string d.stage, .int .i64 d.sat, .int .i64 d.sterm]) := hid (Xa_1.out.on b_s Xa_1.out.lt)
  have B_2 : Hid (Below w.heap.size w w1) := hid (below_via B_1.out b_s)
  clear Xa_1 B_1
  clear b_s
  clear cz0 cz1 cz2 cz3 cz4 cz5 cz6 cz7 cz8 cz9 cz10 cz11 cz12 cz13
  have cz14 := Xa_2.out.cell (j := 14) rfl
  rcases hor with ⟨hneg, rfl⟩ | ⟨hnn, x1, hx1, hy1, rfl⟩
  · go_wp2
    go_ret
    exact ⟨Or.inl rfl, by first | exact B_2.out | (rw [← hg0]; exact B_2.out)⟩
  have hs1 := nodeSmall hnn
  obtain ⟨NC, hNC⟩ : ∃ n : Nat, d.node.conf.length + d.node.ents.length + d.node.votes.length + d.node.peers.length = n := ⟨_, rfl⟩
  rw [hNC] at hy1
  have HNC := hid hNC
  clear hNC
  have HY1 := hid hy1
  have hy1 : x1 ≤ 1048576 := by omega
  have hx1n : ¬ x1 < 0 := by omega
  have CF := hid (fun W h => szDisk_any p.fo d.files p.fc x1 hx1 hy1 ffl ffe W h)
  go_wp2_with fail
  refine Calls.mono (CF.out _ (HA.out.files.on B_2.out)) ?_
  rintro e w2 ⟨hor, b_s⟩
  clear CF
  have Xa_3 : Hid (BlockIs w2 (g0) 50 [.int .i64 d.node.id, .int .i64 d.node.term, .int .i64 d.node.vote, .int .i64 d.node.role, .int .i64 d.node.lead, .slice p.node.co d.node.conf.length p.node.cc, .int .i64 d.node.start, .int .i64 d.node.sterm, .slice p.node.eo d.node.ents.length p.node.ec, .int .i64 d.node.commit, .int .i64 d.node.clock, .int .i64 d.node.limit, .slice p.node.vo d.node.votes.length p.node.vc, .slice p.node.po d.node.peers.length p.node.pc, .slice p.fo d.files.length p.fc, .int .i64 d.jn, .int .i64 d.jtm, .int .i64 d.jvt, .int .i64 d.js, .int .i64 d.jt, .slice p.jo d.jents.length p.jc, .slice p.so d.ss.length p.sc, .slice p.io d.items.length p.ic, .int .i64 d.applied, .string d.stage, .int .i64 d.sat, .int .i64 d.sterm]) := hid (Xa_2.out.on b_s Xa_2.out.lt)
  have B_3 : Hid (Below w.heap.size w w2) := hid (below_via B_2.out b_s)
  clear Xa_2 B_2
  clear b_s
  clear cz14
  have cz15 := Xa_3.out.cell (j := 15) rfl
  have cz16 := Xa_3.out.cell (j := 16) rfl
  have cz17 := Xa_3.out.cell (j := 17) rfl
  have cz18 := Xa_3.out.cell (j := 18) rfl
  have cz19 := Xa_3.out.cell (j := 19) rfl
  have cz20 := Xa_3.out.cell (j := 20) rfl
  rcases hor with ⟨hneg, rfl⟩ | ⟨hnn2, rfl⟩
  · go_wp2
    go_ret
    exact ⟨Or.inl rfl, by first | exact B_3.out | (rw [← hg0]; exact B_3.out)⟩
  have hfb := fileBulk_nonneg d.files
  have hs2 := filesSmall (l := d.files) (by omega)
  have HT2 : Hid (x1 - d.files.length - fileBulk d.files + (NC + d.files.length : Nat) ≤ 1048576) := (show _ ≤ _ by have := HY1.out; omega)
  obtain ⟨x2, hx2⟩ : ∃ x, x1 - d.files.length - fileBulk d.files = x := ⟨_, rfl⟩
  rw [hx2] at hnn2 HT2 ⊢
  have hy2 : x2 ≤ 1048576 := by omega
  have hx2n : ¬ x2 < 0 := by omega
  clear hx2 hx1 hy1 hx1n hfb
  have CJ := hid (fun W h => szJour_any d.jn d.jtm d.jvt d.js d.jt p.jo d.jents p.jc x2 hnn2 hy2 fjl fje W h)
  go_wp2_with fail
  refine Calls.mono (CJ.out _ (HA.out.jents.on B_3.out)) ?_
  rintro e w3 ⟨hor, b_s⟩
  clear CJ
  have Xa_4 : Hid (BlockIs w3 (g0) 50 [.int .i64 d.node.id, .int .i64 d.node.term, .int .i64 d.node.vote, .int .i64 d.node.role, .int .i64 d.node.lead, .slice p.node.co d.node.conf.length p.node.cc, .int .i64 d.node.start, .int .i64 d.node.sterm, .slice p.node.eo d.node.ents.length p.node.ec, .int .i64 d.node.commit, .int .i64 d.node.clock, .int .i64 d.node.limit, .slice p.node.vo d.node.votes.length p.node.vc, .slice p.node.po d.node.peers.length p.node.pc, .slice p.fo d.files.length p.fc, .int .i64 d.jn, .int .i64 d.jtm, .int .i64 d.jvt, .int .i64 d.js, .int .i64 d.jt, .slice p.jo d.jents.length p.jc, .slice p.so d.ss.length p.sc, .slice p.io d.items.length p.ic, .int .i64 d.applied, .string d.stage, .int .i64 d.sat, .int .i64 d.sterm]) := hid (Xa_3.out.on b_s Xa_3.out.lt)
  have B_4 : Hid (Below w.heap.size w w3) := hid (below_via B_3.out b_s)
  clear Xa_3 B_3
  clear b_s
  clear cz15 cz16 cz17 cz18 cz19 cz20
  have cz21 := Xa_4.out.cell (j := 21) rfl
  have cz22 := Xa_4.out.cell (j := 22) rfl
  rcases hor with ⟨hneg, rfl⟩ | ⟨hnn3, rfl⟩
  · go_wp2
    go_ret
    exact ⟨Or.inl rfl, by first | exact B_4.out | (rw [← hg0]; exact B_4.out)⟩
  have hfb := entBulk_nonneg d.jents
  have hs3 := entsSmall (l := d.jents) (by omega)
  have HT3 : Hid (x2 - d.jents.length - entBulk d.jents + (NC + d.files.length + d.jents.length : Nat) ≤ 1048576) := (show _ ≤ _ by have := HT2.out; omega)
  obtain ⟨x3, hx3⟩ : ∃ x, x2 - d.jents.length - entBulk d.jents = x := ⟨_, rfl⟩
  rw [hx3] at hnn3 HT3 ⊢
  have hy3 : x3 ≤ 1048576 := by omega
  have hx3n : ¬ x3 < 0 := by omega
  clear hx3 hnn2 hy2 hx2n hfb
  have CK := hid (fun W h1 h2 => szKeep_at p.so p.io d.ss d.items p.sc p.ic fsl fil fse fie x3 hnn3 hy3 W h1 h2)
  go_wp2_with fail
  refine Calls.mono (CK.out _ (HA.out.ss.on B_4.out) (HA.out.items.on B_4.out)) ?_
  rintro e w4 ⟨hor, b_s⟩
  clear CK
  have Xa_5 : Hid (BlockIs w4 (g0) 50 [.int .i64 d.node.id, .int .i64 d.node.term, .int .i64 d.node.vote, .int .i64 d.node.role, .int .i64 d.node.lead, .slice p.node.co d.node.conf.length p.node.cc, .int .i64 d.node.start, .int .i64 d.node.sterm, .slice p.node.eo d.node.ents.length p.node.ec, .int .i64 d.node.commit, .int .i64 d.node.clock, .int .i64 d.node.limit, .slice p.node.vo d.node.votes.length p.node.vc, .slice p.node.po d.node.peers.length p.node.pc, .slice p.fo d.files.length p.fc, .int .i64 d.jn, .int .i64 d.jtm, .int .i64 d.jvt, .int .i64 d.js, .int .i64 d.jt, .slice p.jo d.jents.length p.jc, .slice p.so d.ss.length p.sc, .slice p.io d.items.length p.ic, .int .i64 d.applied, .string d.stage, .int .i64 d.sat, .int .i64 d.sterm]) := hid (Xa_4.out.on b_s Xa_4.out.lt)
  have B_5 : Hid (Below w.heap.size w w4) := hid (below_via B_4.out b_s)
  clear Xa_4 B_4
  clear b_s
  clear cz21 cz22
  have cz24 := Xa_5.out.cell (j := 24) rfl
  rcases hor with ⟨hneg, rfl⟩ | ⟨hnn4, rfl⟩
  · go_wp2
    go_ret
    exact ⟨Or.inl rfl, by first | exact B_5.out | (rw [← hg0]; exact B_5.out)⟩
  have n1 := sessionBulk_nonneg d.ss
  have n2 := itemBulk_nonneg d.items
  have hs4 : d.ss.length ≤ 1048576 ∧ d.items.length ≤ 1048576 := by unfold keepBulk at hnn4; omega
  have HT4 : Hid (NC + d.files.length + d.jents.length + d.ss.length + d.items.length ≤ 1048576) := (show _ ≤ _ by have := HT3.out; unfold keepBulk at hnn4; omega)
  obtain ⟨x4, hx4⟩ : ∃ x, x3 - keepBulk d.ss d.items = x := ⟨_, rfl⟩
  rw [hx4] at hnn4 ⊢
  have hkb : 0 ≤ keepBulk d.ss d.items := by unfold keepBulk; omega
  have hy4 : x4 ≤ 1048576 := by omega
  have hx4n : ¬ x4 < 0 := by omega
  clear hx4 hnn3 hy3 hx3n n1 n2 hkb
  by_cases hst : x4 - (d.stage.size : Int) < 0
  · go_wp2
    go_ret
    exact ⟨Or.inl rfl, by first | exact B_5.out | (rw [← hg0]; exact B_5.out)⟩
  go_wp2
  go_ret
  exact ⟨Or.inr ⟨⟨hs1, hs2.1, fun f hf => (hs2.2 f hf).2, fun f hf => (hs2.2 f hf).1, hs3.1, hs3.2, hs4.1, hs4.2, by omega, by have := HT4.out; have := HNC.out; omega⟩, _, by omega, rfl⟩, by first | exact B_5.out | (rw [← hg0]; exact B_5.out)⟩
end Go.Proofs.YtihgkocfgjihhaaGreatDoor

namespace Go.Proofs.YtihgkocfgjihhaaGreatDoor
open Go.RowKit Go.Sort

/-- the text by which a place is marked -/
def mtx (m : Nat) : ByteArray := if m = 0 then ⟨#[109, 48]⟩ else ⟨#[109]⟩ ++ ⟨(dd m).toArray⟩

/-- the last figure of m -/
def mdig (m : Nat) : UInt8 := UInt8.ofNat (48 + m % 10)

theorem mark_one (m : Nat) (w : World) :
    (convert 112 9 (.slice (some ⟨w.heap.size, 0, none⟩) 1 1)).run Tryz.prog (w.alloc (.cells #[.int .u8 (48 + (m : Int) % 10)] 5)) = .ok (.string ⟨#[mdig m]⟩) (w.alloc (.cells #[.int .u8 (48 + (m : Int) % 10)] 5)) := by
  have := run_convert_bytes_back (P := Tryz.prog) (w.alloc (.cells #[.int .u8 (48 + (m : Int) % 10)] 5)) 112 9 5 ⟨w.heap.size, 0, none⟩ 1 [mdig m] Tryz.underlying112 Tryz.underlying5 Tryz.underlying9
    (by
      intro j hj
      have hj0 : j = 0 := by simpa using hj
      subst hj0
      have e : ((mdig m).toNat : Int) = 48 + (m : Int) % 10 := by unfold mdig; rw [UInt8.toNat_ofNat']; omega
      show (w.alloc (.cells #[.int .u8 (48 + (m : Int) % 10)] 5)).cell? ⟨w.heap.size, 0, none⟩ = some (.int .u8 ((mdig m).toNat : Int))
      rw [e]
      simp)
  exact this

theorem mark_step {n m : Nat} {acc : List UInt8} (hm : 0 < m) (h : dd m ++ acc = dd n) : dd (m / 10) ++ (mdig m :: acc) = dd n := by
  rw [← h, dd_pos hm]
  simp [mdig]

theorem ret_i64 {a b : Int} (h : a = b) : Ending.returned (.int .i64 a) = .returned (.int .i64 b) := by rw [h]

theorem cons_text (x : UInt8) (acc : List UInt8) : (⟨#[x]⟩ : ByteArray) ++ ⟨acc.toArray⟩ = ⟨(x :: acc).toArray⟩ := ByteArray.mk_append_mk [x] acc

theorem ret_mark {a b : List UInt8} (h : a = b) : Ending.returned (.string (⟨#[109]⟩ ++ ⟨a.toArray⟩)) = .returned (.string (⟨#[109]⟩ ++ ⟨b.toArray⟩)) := by rw [h]

set_option maxRecDepth 1000000 in
set_option maxHeartbeats 1000000 in
theorem markText_any (n : Nat) (hn : n < 1000000000000000000) (w : World) :
    Calls Tryz.prog 84 #[.int .i64 n] w fun e w' => e = .returned (.string (mtx n)) ∧ Below w.heap.size w w' := by
  by_cases h0 : n = 0
  · subst h0
    have e : mtx 0 = ⟨#[109, 48]⟩ := rfl
    rw [e]
    clear e
    go_enter Tryz.func84, Tryz.ntmps84
    go_wp2
    go_ret
    exact ⟨rfl, Below.refl _ _⟩
  · have g0 : ¬ (n : Int) ≤ 0 := by omega
    have hdl := dd_len 19 n (by omega)
    have hde : mtx n = ⟨#[109]⟩ ++ ⟨(dd n).toArray⟩ := by unfold mtx; rw [if_neg h0]
    rw [hde]
    clear hde
    go_enter Tryz.func84, Tryz.ntmps84
    go_wp2
    go_loopw [0, 3] (fun x t wr => ∃ (m : Nat) (acc : List UInt8), m ≤ n ∧ x = .int .i64 m ∧ t = .string ⟨acc.toArray⟩ ∧ Hid (dd m ++ acc = dd n) ∧ acc.length ≤ 19 ∧ Below w.heap.size w wr) (fun x _ _ => (intOf x).toNat)
    case atStart => exact ⟨n, [], Nat.le_refl _, rfl, rfl, by simp [Hid], by simp, Below.refl _ _⟩
    case round =>
      obtain ⟨m, acc, hm, rfl, rfl, HA, hal, hb⟩ := hrel
      have hsz := hb.size
      by_cases hm0 : 0 < (m : Int)
      · have ht := mark_one m
        have HS := (show Hid _ from mark_step (by omega) HA.out)
        have HL : Hid ((mdig m :: acc).length ≤ 19) := by
          have := congrArg List.length HS.out
          simp only [List.length_append] at this
          show _ ≤ _
          omega
        go_wp2
        go_roundw
        case rel => exact ⟨m / 10, mdig m :: acc, by omega, by go_num, congrArg Value.string (cons_text _ _), HS, HL.out, hb.alloc hb.size _⟩
        case measure => simp [intOf]; omega
      · have HE : Hid (acc = dd n) := by
          have h := HA.out
          have e : m = 0 := by omega
          rw [e, dd_zero] at h
          exact h
        go_wp2
        go_ret
        exact ⟨ret_mark HE.out, hb⟩
end Go.Proofs.YtihgkocfgjihhaaGreatDoor

namespace Go.Proofs.YtihgkocfgjihhaaGreatDoor
open Go.RowKit

set_option maxRecDepth 1000000 in
theorem toPeer_any (d : PeerD) (w : World) :
    Calls Tryz.prog 144 #[.agg #[.int .i64 d.pid, .int .i64 d.next, .int .i64 d.upto, .int .i64 d.sent]] w fun e w' => e = .returned (.agg #[.int .i64 d.pid, .int .i64 d.next, .int .i64 d.upto, .int .i64 d.sent]) ∧ Below w.heap.size w w' := by
  go_enter Tryz.func144, Tryz.ntmps144
  go_wp2
  refine bodyPost_ret (v := .agg #[.int .i64 d.pid, .int .i64 d.next, .int .i64 d.upto, .int .i64 d.sent]) (by simp [results, Tryz.results144, go_sem]) rfl ⟨rfl, below_more (below_more (below_more (Below.refl _ w) _) _) _⟩

set_option maxRecDepth 1000000 in
set_option maxHeartbeats 1000000 in
theorem toPeerS_any (ao : Option Addr) (l : List PeerD) (cap : Nat) (hl : l.length ≤ 1048576) (w : World) (ha : PeersAt w ao l) :
    Calls Tryz.prog 95 #[.slice ao l.length cap] w fun e w' => e = .returned (.slice (some ⟨w.heap.size, 0, none⟩) l.length l.length) ∧ BlockIs w' w.heap.size 195 (peerCells l) ∧ Below w.heap.size w w' := by
  obtain ⟨i0, hi, hz0, hz1, hz2⟩ := info_parts toPeer_info
  have HA := hid ha
  clear ha
  go_enter Tryz.func95, Tryz.ntmps95
  go_wp2_with (at_make; refine wpList_make_full _ rfl (.tmp 6) (.tmp 6) 59 rfl w.heap.size 195 i0 (.agg #[.int .i64 0, .int .i64 0, .int .i64 0, .int .i64 0]) 4 Tryz.underlying59 hi hz0 hz1 _ _ _ _ l.length rfl rfl rfl rfl ?b2 ?b3 ?b4 ?_)
  case b2 => rw [hz2]; omega
  case b3 => unfold maxLen; omega
  case b4 => exact Nat.le_refl _
  intro w1 hown hgrow
  have HM := hid (BlockIs.made hown)
  have hB1 := (Below.refl w.heap.size w).grown hgrow (Nat.le_refl _) (fun k h => by cases h)
  have B1 := hid hB1
  clear hown hgrow hB1
  go_wp2
  go_loopg [4] l.length (fun g i wr => ∃ (k : Nat), k + g = l.length ∧ i = .int .i64 k ∧ Hid (Below w.heap.size w wr) ∧ ∃ rest, Hid (rest.length = (l.length - k) * 4) ∧ Hid (BlockIs wr w.heap.size 195 (peerCells (l.take k) ++ rest)))
  case atStart => exact ⟨0, by omega, rfl, B1, _, made_peer l.length, HM⟩
  case round =>
    obtain ⟨k, hkg, rfl, BR, rest, hrl, FP⟩ := hrel
    clear HM B1
    cases gk with
    | zero =>
      have hlt : ¬ (k : Int) < (l.length : Int) := by omega
      have HP : Hid (BlockIs wr w.heap.size 195 (peerCells l)) := by
        have h0 : rest = [] := List.length_eq_zero_iff.1 (by rw [hrl.out, show l.length - k = 0 by omega, Nat.zero_mul])
        have := FP.out
        rw [h0, List.append_nil, List.take_of_length_le (by omega)] at this
        exact this
      clear FP hrl
      go_wp2
      go_ret
      exact ⟨rfl, HP.out, BR.out⟩
    | succ g =>
      have hlt : k < l.length := by omega
      have hlt' : (k : Int) < (l.length : Int) := by omega
      have hne : l ≠ [] := by intro e; rw [e] at hlt; simp at hlt
      obtain ⟨b, off, rfl, hc⟩ := HA.out.on BR.out hne
      obtain ⟨x0, x1, x2, x3⟩ := hc k hlt
      clear hc
      have C := hid (toPeer_any l[k])
      go_wp2_with fail
      refine (C.out _).mono ?_
      rintro e w2 ⟨rfl, b2⟩
      obtain ⟨⟨z0, z1, z2, z3, y0, y1, y2, y3⟩, hf, r', hr', hnew⟩ := put_peer hlt FP.out hrl.out b2 FP.out.lt
      have B2 := hid (below_via BR.out b2)
      have f0 := hf (k * 4)
      have f1 := hf (k * 4 + 1)
      have f2 := hf (k * 4 + 2)
      have f3 := hf (k * 4 + 3)
      have HN := hid hnew
      have HR := hid hr'
      clear x0 x1 x2 x3 C hf hnew hr' b2 FP hrl BR
      go_wp2
      go_roundg g
      case measure => omega
      case rel => exact ⟨k + 1, by omega, by go_num, (((B2.out.setCell (Nat.le_refl _) _).setCell (Nat.le_refl _) _).setCell (Nat.le_refl _) _).setCell (Nat.le_refl _) _, r', HR, HN⟩
end Go.Proofs.YtihgkocfgjihhaaGreatDoor
