/-
  For every node and every index, laws.FnExactSettle returns true: impl.Settle and spec.Settle answer alike, no argument is written, and the answer owns its memory; nothing that was in memory is written.
-/
import Derived.Test.YtglibbpigmpanaaRows
import Derived.Test.YtglibbpigmpanaaJoint9
import Derived.Test.YtglibbpigmpanaaJoint10
import Derived.Test.YtglibbpigmpanaaJoint12
import Derived.Test.YtglibbpigmpanaaJoint15
import Derived.Test.YtglibbpigmpanaaJoint24
import Derived.Test.YtglibbpigmpanaaJoint45
import Derived.Test.YtglibbpigmpanaaJoint48
import Derived.Deep.RegionWith
import Derived.Deep.DeepCutAuto
import Derived.WalkSmall
import Derived.WalkKit
import Derived.ProofKit
import Derived.OpenShut
import Derived.OpenVars
import Derived.Deep.DeepHandedRow
import Derived.Lib.LaidTab
import Derived.Stop.LaidErr
namespace Go.Proofs.Ytglibbpigmpanaa.fnExactSettle
open Go.ChangeShapes Go.WideShapes Go.ChangeAt Go.ChangeMaps Go.RowKit

set_option maxRecDepth 1000000 in
theorem lnode_size : (Try.prog.info? 28).map (·.size) = some 14 := by kernel_rfl
set_option maxRecDepth 1000000 in
set_option maxHeartbeats 16000000 in
theorem walk (d : NodeD) (hd : d.Fits) (p : NodeL) (x : Int) (_hi : (Lit.int .i64 x).wf = true) (w : World) (ha : NodeAt w d p) :
    Calls Try.prog 3 #[.agg #[.int .i64 d.id, .int .i64 d.term, .int .i64 d.vote, .int .i64 d.role, .int .i64 d.lead, .slice p.co d.conf.length p.cc, .int .i64 d.start, .int .i64 d.sterm, .slice p.eo d.ents.length p.ec, .int .i64 d.commit, .int .i64 d.clock, .int .i64 d.limit, .slice p.vo d.votes.length p.vc, .slice p.po d.peers.length p.pc], .int .i64 x] w fun e w' => e = .returned (.bool true) ∧ Below w.heap.size w w' := by
  have HA := hid ha
  have cSz := hid (fun w ha => szNode_any d p hd w ha)
  have HX := hid (show BlockIs (w.alloc (.cells #[.int .i64 d.id, .int .i64 d.term, .int .i64 d.vote, .int .i64 d.role, .int .i64 d.lead, .slice p.co d.conf.length p.cc, .int .i64 d.start, .int .i64 d.sterm, .slice p.eo d.ents.length p.ec, .int .i64 d.commit, .int .i64 d.clock, .int .i64 d.limit, .slice p.vo d.votes.length p.vc, .slice p.po d.peers.length p.pc] 28)) w.heap.size 28 [.int .i64 d.id, .int .i64 d.term, .int .i64 d.vote, .int .i64 d.role, .int .i64 d.lead, .slice p.co d.conf.length p.cc, .int .i64 d.start, .int .i64 d.sterm, .slice p.eo d.ents.length p.ec, .int .i64 d.commit, .int .i64 d.clock, .int .i64 d.limit, .slice p.vo d.votes.length p.vc, .slice p.po d.peers.length p.pc] from heap_alloc_new w _)
  have HB := hid (below_more (Below.refl w.heap.size w) (.cells #[.int .i64 d.id, .int .i64 d.term, .int .i64 d.vote, .int .i64 d.role, .int .i64 d.lead, .slice p.co d.conf.length p.cc, .int .i64 d.start, .int .i64 d.sterm, .slice p.eo d.ents.length p.ec, .int .i64 d.commit, .int .i64 d.clock, .int .i64 d.limit, .slice p.vo d.votes.length p.vc, .slice p.po d.peers.length p.pc] 28))
  have hx : -9223372036854775808 ≤ x ∧ x ≤ 9223372036854775807 := bounds_i64 _hi
  clear ha
  go_enter Try.func3, Try.ntmps3
  go_wp2_with fail
  refine (cSz.out _ (HA.out.on HB.out)).mono ?_
  rintro e w1 ⟨(⟨hneg, rfl⟩ | ⟨hnn, sz, hx0, rfl⟩), b1⟩
  · have B1 := hid (below_via HB.out b1)
    clear b1 cSz HB HX hneg
    go_wp2
    go_ret
    exact ⟨rfl, B1.out⟩
  · have B1 := hid (below_via HB.out b1)
    have P1 := hid (HX.out.on b1 HX.out.lt)
    have HSM := hid (nodeSmall hnn)
    have HDS := hid (setR_small x HSM.out)
    obtain ⟨ok, hok⟩ : ∃ b, setOk d x = b := ⟨_, rfl⟩
    obtain ⟨D, hD⟩ : ∃ D, setR d x = D := ⟨_, rfl⟩
    have CS' := fun q hf hec hem w ha => specSettle_any d q x hx HSM.out hf hec hem w ha
    have CI' := fun q hf hec hem w ha => implSettle_any d q x hx HSM.out hf hec hem w ha
    rw [hok, hD] at CS' CI'
    rw [hD] at HDS
    have CS := hid CS'
    have CI := hid CI'
    have CT := hid (fun w ha => toNode_any d p HSM.out w ha)
    have hle := HSM.out.ents
    have HEM : Hid (d.ents.length ≤ maxLen) := (show _ ≤ _ by unfold maxLen; omega)
    have hbt : (ok == ok) = true := beq_self_eq_true ok
    have hbf : (ok != ok) = false := by simp
    have HLW : Hid (w.heap.size < w1.heap.size) := P1.out.lt
    clear b1 cSz HB HX hnn CS' CI' hok hD hx _hi hle
    go_wp2_with (first | (refine wpList_load_whole Try.underlying28 lnode_size P1.out rfl rfl _ rfl rfl ?_) | fail)
    refine (CT.out _ (HA.out.on B1.out)).mono ?_
    rintro e w2 ⟨g2, h2, i2, j2, hg2, hh2, hi2, hj2, rfl, k2, b2⟩
    have F2 := hid k2.at
    have B2 := hid (below_via B1.out b2)
    have P2 := hid (P1.out.on b2 P1.out.lt)
    clear k2 b2 hg2 hh2 hi2 hj2 B1 P1
    go_wp2_with fail
    refine (CS.out (nodeNew d g2 h2 i2 j2) (newLies _ _ _ _ _) (Nat.le_refl _) HEM.out _ F2.out).mono ?_
    rintro e w3 ⟨q3, rfl, rr, b3⟩
    have bb := b3
    have RW3 := hid rr.own
    have HW1 : Hid (w.heap.size < w2.heap.size) := P2.out.lt
    have hl23 : w2.heap.size ≤ w3.heap.size := b3.size
    have B3 := hid (below_via B2.out b3)
    have P3 := hid (P2.out.on b3 P2.out.lt)
    clear bb b3 rr F2 B2 P2
    have bn := below_more (Below.refl w3.heap.size w3) (.cells #[.int .i64 D.id, .int .i64 D.term, .int .i64 D.vote, .int .i64 D.role, .int .i64 D.lead, .slice q3.co D.conf.length q3.cc, .int .i64 D.start, .int .i64 D.sterm, .slice q3.eo D.ents.length q3.ec, .int .i64 D.commit, .int .i64 D.clock, .int .i64 D.limit, .slice q3.vo D.votes.length q3.vc, .slice q3.po D.peers.length q3.pc] 35)
    have nn : BlockIs (w3.alloc (.cells #[.int .i64 D.id, .int .i64 D.term, .int .i64 D.vote, .int .i64 D.role, .int .i64 D.lead, .slice q3.co D.conf.length q3.cc, .int .i64 D.start, .int .i64 D.sterm, .slice q3.eo D.ents.length q3.ec, .int .i64 D.commit, .int .i64 D.clock, .int .i64 D.limit, .slice q3.vo D.votes.length q3.vc, .slice q3.po D.peers.length q3.pc] 35)) w3.heap.size 35 [.int .i64 D.id, .int .i64 D.term, .int .i64 D.vote, .int .i64 D.role, .int .i64 D.lead, .slice q3.co D.conf.length q3.cc, .int .i64 D.start, .int .i64 D.sterm, .slice q3.eo D.ents.length q3.ec, .int .i64 D.commit, .int .i64 D.clock, .int .i64 D.limit, .slice q3.vo D.votes.length q3.vc, .slice q3.po D.peers.length q3.pc] := heap_alloc_new w3 _
    obtain ⟨U3, hU3⟩ : ∃ W, w3.alloc (.cells #[.int .i64 0, .int .i64 0, .int .i64 0, .int .i64 0, .int .i64 0, .slice none 0 0, .int .i64 0, .int .i64 0, .slice none 0 0, .int .i64 0, .int .i64 0, .int .i64 0, .slice none 0 0, .slice none 0 0] 35) = W := ⟨_, rfl⟩
    have KZ3 : BlockIs U3 w3.heap.size 35 [.int .i64 0, .int .i64 0, .int .i64 0, .int .i64 0, .int .i64 0, .slice none 0 0, .int .i64 0, .int .i64 0, .slice none 0 0, .int .i64 0, .int .i64 0, .int .i64 0, .slice none 0 0, .slice none 0 0] := by rw [← hU3]; exact heap_alloc_new _ _
    obtain ⟨w4, hw4⟩ : ∃ W, U3.setRow w3.heap.size #[.int .i64 D.id, .int .i64 D.term, .int .i64 D.vote, .int .i64 D.role, .int .i64 D.lead, .slice q3.co D.conf.length q3.cc, .int .i64 D.start, .int .i64 D.sterm, .slice q3.eo D.ents.length q3.ec, .int .i64 D.commit, .int .i64 D.clock, .int .i64 D.limit, .slice q3.vo D.votes.length q3.vc, .slice q3.po D.peers.length q3.pc] = W := ⟨_, rfl⟩
    have hov : w3.alloc (.cells #[.int .i64 D.id, .int .i64 D.term, .int .i64 D.vote, .int .i64 D.role, .int .i64 D.lead, .slice q3.co D.conf.length q3.cc, .int .i64 D.start, .int .i64 D.sterm, .slice q3.eo D.ents.length q3.ec, .int .i64 D.commit, .int .i64 D.clock, .int .i64 D.limit, .slice q3.vo D.votes.length q3.vc, .slice q3.po D.peers.length q3.pc] 35) = w4 := by rw [← hw4, ← hU3, whole_over]
    rw [hov] at bn nn
    have Y4 := hid nn
    have hl34 : w3.heap.size < w4.heap.size := Y4.out.lt
    have B4 := hid (below_via B3.out bn)
    have P4 := hid (P3.out.on bn P3.out.lt)
    have RW4 := hid (RW3.out.on bn)
    clear bn nn hov B3 P3 RW3
    go_wp2_with (first | (refine wpList_store_whole node_size KZ3 rfl rfl _ _ rfl _ rfl rfl rfl (by simp [Value.oneCell']) ?_; rw [hw4]) | (refine wpList_load_whole Try.underlying28 lnode_size P4.out rfl rfl _ rfl rfl ?_) | fail)
    refine (CT.out _ (HA.out.on B4.out)).mono ?_
    rintro e w5 ⟨g5, h5, i5, j5, hg5, hh5, hi5, hj5, rfl, k5, b5⟩
    have RX5 := hid (k5.own hg5 hh5 hi5 hj5)
    have hl45 : w4.heap.size ≤ w5.heap.size := b5.size
    have B5 := hid (below_via B4.out b5)
    have P5 := hid (P4.out.on b5 P4.out.lt)
    have Y5 := hid (Y4.out.on b5 Y4.out.lt)
    have RW5 := hid (RW4.out.on b5)
    clear k5 b5 hg5 hh5 hi5 hj5 B4 P4 Y4 RW4 hw4 hU3 KZ3
    have bn := below_more (Below.refl w5.heap.size w5) (.cells #[.int .i64 d.id, .int .i64 d.term, .int .i64 d.vote, .int .i64 d.role, .int .i64 d.lead, .slice (some ⟨g5, 0, none⟩) d.conf.length d.conf.length, .int .i64 d.start, .int .i64 d.sterm, .slice (some ⟨h5, 0, none⟩) d.ents.length d.ents.length, .int .i64 d.commit, .int .i64 d.clock, .int .i64 d.limit, .slice (some ⟨i5, 0, none⟩) d.votes.length d.votes.length, .slice (some ⟨j5, 0, none⟩) d.peers.length d.peers.length] 35)
    have nn : BlockIs (w5.alloc (.cells #[.int .i64 d.id, .int .i64 d.term, .int .i64 d.vote, .int .i64 d.role, .int .i64 d.lead, .slice (some ⟨g5, 0, none⟩) d.conf.length d.conf.length, .int .i64 d.start, .int .i64 d.sterm, .slice (some ⟨h5, 0, none⟩) d.ents.length d.ents.length, .int .i64 d.commit, .int .i64 d.clock, .int .i64 d.limit, .slice (some ⟨i5, 0, none⟩) d.votes.length d.votes.length, .slice (some ⟨j5, 0, none⟩) d.peers.length d.peers.length] 35)) w5.heap.size 35 [.int .i64 d.id, .int .i64 d.term, .int .i64 d.vote, .int .i64 d.role, .int .i64 d.lead, .slice (some ⟨g5, 0, none⟩) d.conf.length d.conf.length, .int .i64 d.start, .int .i64 d.sterm, .slice (some ⟨h5, 0, none⟩) d.ents.length d.ents.length, .int .i64 d.commit, .int .i64 d.clock, .int .i64 d.limit, .slice (some ⟨i5, 0, none⟩) d.votes.length d.votes.length, .slice (some ⟨j5, 0, none⟩) d.peers.length d.peers.length] := heap_alloc_new w5 _
    obtain ⟨w6, hw6⟩ : ∃ W, w5.alloc (.cells #[.int .i64 d.id, .int .i64 d.term, .int .i64 d.vote, .int .i64 d.role, .int .i64 d.lead, .slice (some ⟨g5, 0, none⟩) d.conf.length d.conf.length, .int .i64 d.start, .int .i64 d.sterm, .slice (some ⟨h5, 0, none⟩) d.ents.length d.ents.length, .int .i64 d.commit, .int .i64 d.clock, .int .i64 d.limit, .slice (some ⟨i5, 0, none⟩) d.votes.length d.votes.length, .slice (some ⟨j5, 0, none⟩) d.peers.length d.peers.length] 35) = W := ⟨_, rfl⟩
    have XA := hid nn
    rw [hw6] at bn nn
    have X6 := hid nn
    have hl56 : w5.heap.size < w6.heap.size := nn.lt
    have B6 := hid (below_via B5.out bn)
    have P6 := hid (P5.out.on bn P5.out.lt)
    have Y6 := hid (Y5.out.on bn Y5.out.lt)
    have RW6 := hid (RW5.out.on bn)
    have RX6 := hid (RX5.out.on bn)
    clear bn nn B5 P5 Y5 RW5 RX5
    go_wp2_with (first | (refine wpList_load_whole Try.underlying35 node_size X6.out rfl rfl _ rfl rfl ?_) | (refine wpList_load_whole Try.underlying35 node_size XA.out rfl rfl _ rfl rfl ?_) | fail)
    try rw [hw6]
    clear XA
    refine (CI.out (nodeNew d g5 h5 i5 j5) (newLies _ _ _ _ _) (Nat.le_refl _) HEM.out _ RX6.out.at).mono ?_
    rintro e w7 ⟨q7, rfl, rr, b7⟩
    have RG7 := hid rr.own
    have hl67 : w6.heap.size ≤ w7.heap.size := b7.size
    have B7 := hid (below_via B6.out b7)
    have P7 := hid (P6.out.on b7 P6.out.lt)
    have Y7 := hid (Y6.out.on b7 Y6.out.lt)
    have X7 := hid (X6.out.on b7 X6.out.lt)
    have RW7 := hid (RW6.out.on b7)
    have RX7 := hid (RX6.out.on b7)
    clear b7 rr hw6 B6 P6 Y6 X6 RW6 RX6
    have bn := below_more (Below.refl w7.heap.size w7) (.cells #[.int .i64 D.id, .int .i64 D.term, .int .i64 D.vote, .int .i64 D.role, .int .i64 D.lead, .slice q7.co D.conf.length q7.cc, .int .i64 D.start, .int .i64 D.sterm, .slice q7.eo D.ents.length q7.ec, .int .i64 D.commit, .int .i64 D.clock, .int .i64 D.limit, .slice q7.vo D.votes.length q7.vc, .slice q7.po D.peers.length q7.pc] 35)
    have nn : BlockIs (w7.alloc (.cells #[.int .i64 D.id, .int .i64 D.term, .int .i64 D.vote, .int .i64 D.role, .int .i64 D.lead, .slice q7.co D.conf.length q7.cc, .int .i64 D.start, .int .i64 D.sterm, .slice q7.eo D.ents.length q7.ec, .int .i64 D.commit, .int .i64 D.clock, .int .i64 D.limit, .slice q7.vo D.votes.length q7.vc, .slice q7.po D.peers.length q7.pc] 35)) w7.heap.size 35 [.int .i64 D.id, .int .i64 D.term, .int .i64 D.vote, .int .i64 D.role, .int .i64 D.lead, .slice q7.co D.conf.length q7.cc, .int .i64 D.start, .int .i64 D.sterm, .slice q7.eo D.ents.length q7.ec, .int .i64 D.commit, .int .i64 D.clock, .int .i64 D.limit, .slice q7.vo D.votes.length q7.vc, .slice q7.po D.peers.length q7.pc] := heap_alloc_new w7 _
    obtain ⟨U7, hU7⟩ : ∃ W, w7.alloc (.cells #[.int .i64 0, .int .i64 0, .int .i64 0, .int .i64 0, .int .i64 0, .slice none 0 0, .int .i64 0, .int .i64 0, .slice none 0 0, .int .i64 0, .int .i64 0, .int .i64 0, .slice none 0 0, .slice none 0 0] 35) = W := ⟨_, rfl⟩
    have KZ7 : BlockIs U7 w7.heap.size 35 [.int .i64 0, .int .i64 0, .int .i64 0, .int .i64 0, .int .i64 0, .slice none 0 0, .int .i64 0, .int .i64 0, .slice none 0 0, .int .i64 0, .int .i64 0, .int .i64 0, .slice none 0 0, .slice none 0 0] := by rw [← hU7]; exact heap_alloc_new _ _
    obtain ⟨w8, hw8⟩ : ∃ W, U7.setRow w7.heap.size #[.int .i64 D.id, .int .i64 D.term, .int .i64 D.vote, .int .i64 D.role, .int .i64 D.lead, .slice q7.co D.conf.length q7.cc, .int .i64 D.start, .int .i64 D.sterm, .slice q7.eo D.ents.length q7.ec, .int .i64 D.commit, .int .i64 D.clock, .int .i64 D.limit, .slice q7.vo D.votes.length q7.vc, .slice q7.po D.peers.length q7.pc] = W := ⟨_, rfl⟩
    have hov : w7.alloc (.cells #[.int .i64 D.id, .int .i64 D.term, .int .i64 D.vote, .int .i64 D.role, .int .i64 D.lead, .slice q7.co D.conf.length q7.cc, .int .i64 D.start, .int .i64 D.sterm, .slice q7.eo D.ents.length q7.ec, .int .i64 D.commit, .int .i64 D.clock, .int .i64 D.limit, .slice q7.vo D.votes.length q7.vc, .slice q7.po D.peers.length q7.pc] 35) = w8 := by rw [← hw8, ← hU7, whole_over]
    rw [hov] at bn nn
    have Z8 := hid nn
    have hl78 : w7.heap.size < w8.heap.size := Z8.out.lt
    have B8 := hid (below_via B7.out bn)
    have P8 := hid (P7.out.on bn P7.out.lt)
    have Y8 := hid (Y7.out.on bn Y7.out.lt)
    have X8 := hid (X7.out.on bn X7.out.lt)
    have RW8 := hid (RW7.out.on bn)
    have RX8 := hid (RX7.out.on bn)
    have RG8 := hid (RG7.out.on bn)
    clear bn nn hov B7 P7 Y7 X7 RW7 RX7 RG7
    go_wp2_with (first | (refine wpList_store_whole node_size KZ7 rfl rfl _ _ rfl _ rfl rfl rfl (by simp [Value.oneCell']) ?_; rw [hw8]) | (refine wpList_load_whole Try.underlying35 node_size Z8.out rfl rfl _ rfl rfl ?_) | (refine wpList_load_whole Try.underlying35 node_size Y8.out rfl rfl _ rfl rfl ?_) | fail)
    refine (eqNode_same D q7 q3 HDS.out _ RG8.out.at RW8.out.at).mono ?_
    rintro e w9 ⟨rfl, b9⟩
    have B9 := hid (below_via B8.out b9)
    have P9 := hid (P8.out.on b9 P8.out.lt)
    have Y9 := hid (Y8.out.on b9 Y8.out.lt)
    have Z9 := hid (Z8.out.on b9 Z8.out.lt)
    have X9 := hid (X8.out.on b9 X8.out.lt)
    have RW9 := hid (RW8.out.on b9)
    have RX9 := hid (RX8.out.on b9)
    have RG9 := hid (RG8.out.on b9)
    clear b9 hw8 hU7 KZ7 B8 P8 Y8 Z8 X8 RW8 RX8 RG8
    have p0_9 := P9.out.cell (j := 0) rfl
    have p1_9 := P9.out.cell (j := 1) rfl
    have p2_9 := P9.out.cell (j := 2) rfl
    have p3_9 := P9.out.cell (j := 3) rfl
    have p4_9 := P9.out.cell (j := 4) rfl
    have p5_9 := P9.out.cell (j := 5) rfl
    have p6_9 := P9.out.cell (j := 6) rfl
    have p7_9 := P9.out.cell (j := 7) rfl
    have p8_9 := P9.out.cell (j := 8) rfl
    have p9_9 := P9.out.cell (j := 9) rfl
    have p10_9 := P9.out.cell (j := 10) rfl
    have p11_9 := P9.out.cell (j := 11) rfl
    have p12_9 := P9.out.cell (j := 12) rfl
    have p13_9 := P9.out.cell (j := 13) rfl
    have x0_9 := X9.out.cell (j := 0) rfl
    have x1_9 := X9.out.cell (j := 1) rfl
    have x2_9 := X9.out.cell (j := 2) rfl
    have x3_9 := X9.out.cell (j := 3) rfl
    have x4_9 := X9.out.cell (j := 4) rfl
    have x5_9 := X9.out.cell (j := 5) rfl
    have x6_9 := X9.out.cell (j := 6) rfl
    have x7_9 := X9.out.cell (j := 7) rfl
    have x8_9 := X9.out.cell (j := 8) rfl
    have x9_9 := X9.out.cell (j := 9) rfl
    have x10_9 := X9.out.cell (j := 10) rfl
    have x11_9 := X9.out.cell (j := 11) rfl
    have x12_9 := X9.out.cell (j := 12) rfl
    have x13_9 := X9.out.cell (j := 13) rfl
    have CR : Hid (Calls Try.prog 6 #[.agg #[.int .i64 d.id, .int .i64 d.term, .int .i64 d.vote, .int .i64 d.role, .int .i64 d.lead, .slice p.co d.conf.length p.cc, .int .i64 d.start, .int .i64 d.sterm, .slice p.eo d.ents.length p.ec, .int .i64 d.commit, .int .i64 d.clock, .int .i64 d.limit, .slice p.vo d.votes.length p.vc, .slice p.po d.peers.length p.pc]] w9.drew fun e w10 => ∃ g10 h10 i10 j10, e = .returned (.agg #[.int .i64 d.id, .int .i64 d.term, .int .i64 d.vote, .int .i64 d.role, .int .i64 d.lead, .slice (some ⟨g10, 0, none⟩) d.conf.length d.conf.length, .int .i64 d.start, .int .i64 d.sterm, .slice (some ⟨h10, 0, none⟩) d.ents.length d.ents.length, .int .i64 d.commit, .int .i64 d.clock, .int .i64 d.limit, .slice (some ⟨i10, 0, none⟩) d.votes.length d.votes.length, .slice (some ⟨j10, 0, none⟩) d.peers.length d.peers.length]) ∧ (w10.cell? ⟨w5.heap.size, 0, none⟩ = some (.int .i64 d.id) ∧ w10.cell? ⟨w5.heap.size, 1, none⟩ = some (.int .i64 d.term) ∧ w10.cell? ⟨w5.heap.size, 2, none⟩ = some (.int .i64 d.vote) ∧ w10.cell? ⟨w5.heap.size, 3, none⟩ = some (.int .i64 d.role) ∧ w10.cell? ⟨w5.heap.size, 4, none⟩ = some (.int .i64 d.lead) ∧ w10.cell? ⟨w5.heap.size, 5, none⟩ = some (.slice (some ⟨g5, 0, none⟩) d.conf.length d.conf.length) ∧ w10.cell? ⟨w5.heap.size, 6, none⟩ = some (.int .i64 d.start) ∧ w10.cell? ⟨w5.heap.size, 7, none⟩ = some (.int .i64 d.sterm) ∧ w10.cell? ⟨w5.heap.size, 8, none⟩ = some (.slice (some ⟨h5, 0, none⟩) d.ents.length d.ents.length) ∧ w10.cell? ⟨w5.heap.size, 9, none⟩ = some (.int .i64 d.commit) ∧ w10.cell? ⟨w5.heap.size, 10, none⟩ = some (.int .i64 d.clock) ∧ w10.cell? ⟨w5.heap.size, 11, none⟩ = some (.int .i64 d.limit) ∧ w10.cell? ⟨w5.heap.size, 12, none⟩ = some (.slice (some ⟨i5, 0, none⟩) d.votes.length d.votes.length) ∧ w10.cell? ⟨w5.heap.size, 13, none⟩ = some (.slice (some ⟨j5, 0, none⟩) d.peers.length d.peers.length)) ∧ Hid (Below w9.heap.size w9 w10 ∧ NodeAt w10 d (nodeNew d g5 h5 i5 j5) ∧ NodeAt w10 d (nodeNew d g10 h10 i10 j10))) := by
      have hdr : Below w9.heap.size w9 w9.drew := below_drewN (Below.refl _ _) 1
      refine Calls.mono (CT.out w9.drew (HA.out.on (below_via B9.out hdr))) ?_
      rintro e w10 ⟨g10, h10, i10, j10, _, _, _, _, rfl, k10, b10⟩
      have h67 := below_via hdr b10
      have k6 := X9.out.on h67 X9.out.lt
      exact ⟨g10, h10, i10, j10, rfl, ⟨k6.cell (j := 0) rfl, k6.cell (j := 1) rfl, k6.cell (j := 2) rfl, k6.cell (j := 3) rfl, k6.cell (j := 4) rfl, k6.cell (j := 5) rfl, k6.cell (j := 6) rfl, k6.cell (j := 7) rfl, k6.cell (j := 8) rfl, k6.cell (j := 9) rfl, k6.cell (j := 10) rfl, k6.cell (j := 11) rfl, k6.cell (j := 12) rfl, k6.cell (j := 13) rfl⟩, h67, RX9.out.at.on h67, k10.at⟩
    skip
    go_upto_region 10 with fail
    go_cut [49] (fun sa wx => sa = .bool false ∧ Hid (Below w9.heap.size w9 wx))
    case first =>
      go_region_with (first | (go_at_call 6; refine Calls.mono CR.out ?_; rintro e w10 ⟨g10, h10, i10, j10, rfl, ⟨x0_10, x1_10, x2_10, x3_10, x4_10, x5_10, x6_10, x7_10, x8_10, x9_10, x10_10, x11_10, x12_10, x13_10⟩, H10⟩) | (go_at_call 8; refine (eqNode_same d (nodeNew d g5 h5 i5 j5) (nodeNew d g10 h10 i10 j10) HSM.out _ H10.out.2.1 H10.out.2.2).mono ?_; rintro e w11 ⟨rfl, b11⟩))
      all_goals
        go_wp2_with fail
        go_meet
        exact ⟨rfl, below_via H10.out.1 b11⟩
    case rest =>
      obtain ⟨w11, hwc⟩ : ∃ W, W = wc := ⟨_, rfl⟩
      subst hwc
      obtain ⟨rfl, hcb⟩ := hcut
      have bb := hcb.out
      have B11 := hid (below_via B9.out bb)
      have P11 := hid (P9.out.on bb P9.out.lt)
      have Y11 := hid (Y9.out.on bb Y9.out.lt)
      have Z11 := hid (Z9.out.on bb Z9.out.lt)
      have X11 := hid (X9.out.on bb X9.out.lt)
      have RW11 := hid (RW9.out.on bb)
      have RX11 := hid (RX9.out.on bb)
      have RG11 := hid (RG9.out.on bb)
      clear bb hcb CR B9 P9 Y9 Z9 X9 RW9 RX9 RG9 p0_9 p1_9 p2_9 p3_9 p4_9 p5_9 p6_9 p7_9 p8_9 p9_9 p10_9 p11_9 p12_9 p13_9 x0_9 x1_9 x2_9 x3_9 x4_9 x5_9 x6_9 x7_9 x8_9 x9_9 x10_9 x11_9 x12_9 x13_9
      go_wp2_with (first | (refine wpList_load_whole Try.underlying35 node_size X11.out rfl rfl _ rfl rfl ?_) | fail)
      refine (markNode_own d (nodeNew d g5 h5 i5 j5) w4.heap.size w5.heap.size HSM.out _ (by have := B11.out.size; have := Y11.out.lt; have := X11.out.lt; omega) RX11.out).mono ?_
      rintro e w12 ⟨rfl, _, kk, kb⟩
      have B12 := hid (B11.out.trans (kb.mono (by have := HLW.out; have := HW1.out; omega)))
      have P12 := hid (P11.out.kept kk (by have := HLW.out; have := HW1.out; omega))
      have Y12 := hid (Y11.out.kept kk (by have := HLW.out; have := HW1.out; omega))
      have Z12 := hid (Z11.out.kept kk (by have := HLW.out; have := HW1.out; omega))
      have RW12 := hid (RW11.out.kept kk (by have := HLW.out; have := HW1.out; omega))
      have RG12 := hid (RG11.out.kept kk (by have := HLW.out; have := HW1.out; omega))
      obtain ⟨M, hM⟩ : ∃ M : Nat, 1 + d.conf.length + 3 * d.ents.length + d.votes.length + 4 * d.peers.length = M := ⟨_, rfl⟩
      have hp1 : ¬ ((1 + d.conf.length + 3 * d.ents.length + d.votes.length + 4 * d.peers.length : Nat) : Int) < 0 := by omega
      rw [hM] at hp1 ⊢
      clear hM kk kb B11 P11 Y11 Z11 X11 RW11 RX11 RG11 
      have y0_12 := Y12.out.cell (j := 0) rfl
      have y1_12 := Y12.out.cell (j := 1) rfl
      have y2_12 := Y12.out.cell (j := 2) rfl
      have y3_12 := Y12.out.cell (j := 3) rfl
      have y4_12 := Y12.out.cell (j := 4) rfl
      have y5_12 := Y12.out.cell (j := 5) rfl
      have y6_12 := Y12.out.cell (j := 6) rfl
      have y7_12 := Y12.out.cell (j := 7) rfl
      have y8_12 := Y12.out.cell (j := 8) rfl
      have y9_12 := Y12.out.cell (j := 9) rfl
      have y10_12 := Y12.out.cell (j := 10) rfl
      have y11_12 := Y12.out.cell (j := 11) rfl
      have y12_12 := Y12.out.cell (j := 12) rfl
      have y13_12 := Y12.out.cell (j := 13) rfl
      have z0_12 := Z12.out.cell (j := 0) rfl
      have z1_12 := Z12.out.cell (j := 1) rfl
      have z2_12 := Z12.out.cell (j := 2) rfl
      have z3_12 := Z12.out.cell (j := 3) rfl
      have z4_12 := Z12.out.cell (j := 4) rfl
      have z5_12 := Z12.out.cell (j := 5) rfl
      have z6_12 := Z12.out.cell (j := 6) rfl
      have z7_12 := Z12.out.cell (j := 7) rfl
      have z8_12 := Z12.out.cell (j := 8) rfl
      have z9_12 := Z12.out.cell (j := 9) rfl
      have z10_12 := Z12.out.cell (j := 10) rfl
      have z11_12 := Z12.out.cell (j := 11) rfl
      have z12_12 := Z12.out.cell (j := 12) rfl
      have z13_12 := Z12.out.cell (j := 13) rfl
      go_wp2_with fail
      refine (eqNode_same D q7 q3 HDS.out _ RG12.out.at RW12.out.at).mono ?_
      rintro e w13 ⟨rfl, b13⟩
      have B13 := hid (below_via B12.out b13)
      have P13 := hid (P12.out.on b13 P12.out.lt)
      have Y13 := hid (Y12.out.on b13 Y12.out.lt)
      have Z13 := hid (Z12.out.on b13 Z12.out.lt)
      have RW13 := hid (RW12.out.on b13)
      have RG13 := hid (RG12.out.on b13)
      clear b13 B12 P12 Y12 Z12 RW12 RG12 y0_12 y1_12 y2_12 y3_12 y4_12 y5_12 y6_12 y7_12 y8_12 y9_12 y10_12 y11_12 y12_12 y13_12 z0_12 z1_12 z2_12 z3_12 z4_12 z5_12 z6_12 z7_12 z8_12 z9_12 z10_12 z11_12 z12_12 z13_12
      go_wp2_with (first | (refine wpList_load_whole Try.underlying35 node_size Z13.out rfl rfl _ rfl rfl ?_) | fail)
      refine (markNode_own D q7 w6.heap.size w7.heap.size HDS.out _ (by have := Z13.out.lt; omega) RG13.out).mono ?_
      rintro e w14 ⟨rfl, ms, kk, kb⟩
      have B14 := hid (B13.out.trans (kb.mono (by have := HLW.out; have := HW1.out; omega)))
      have P14 := hid (P13.out.kept kk (by have := HLW.out; have := HW1.out; omega))
      have Y14 := hid (Y13.out.kept kk (by have := HLW.out; have := HW1.out; omega))
      have Z14 := hid (Z13.out.kept kk (by have := HLW.out; have := HW1.out; omega))
      have RW14 := hid (RW13.out.kept kk (by have := HLW.out; have := HW1.out; omega))
      have MS14 := hid ms
      have HS' := fun w h => heldNode_own D q7 HDS.out w h
      have hp2 : ¬ ((1 + D.conf.length + 3 * D.ents.length + D.votes.length + 4 * D.peers.length : Nat) : Int) < 0 := by omega
      obtain ⟨K, hK⟩ : ∃ K : Nat, 1 + D.conf.length + 3 * D.ents.length + D.votes.length + 4 * D.peers.length = K := ⟨_, rfl⟩
      rw [hK] at HS' hp2 ⊢
      have HS := hid HS'
      clear HS' hK ms kk kb B13 P13 Y13 Z13 RW13 RG13 
      go_wp2_with (first | (refine wpList_load_whole Try.underlying35 node_size Z14.out rfl rfl _ rfl rfl ?_) | fail)
      refine (HS.out _ MS14.out).mono ?_
      rintro e w15 ⟨rfl, b15⟩
      have B15 := hid (below_via B14.out b15)
      have P15 := hid (P14.out.on b15 P14.out.lt)
      have Y15 := hid (Y14.out.on b15 Y14.out.lt)
      have Z15 := hid (Z14.out.on b15 Z14.out.lt)
      have RW15 := hid (RW14.out.on b15)
      have MS15 := hid (MS14.out.on b15)
      clear b15 B14 P14 Y14 Z14 RW14 MS14 
      go_wp2_with (first | (refine wpList_load_whole Try.underlying28 lnode_size P15.out rfl rfl _ rfl rfl ?_) | fail)
      refine (CT.out _ (HA.out.on B15.out)).mono ?_
      rintro e w16 ⟨g16, h16, i16, j16, hg16, hh16, hi16, hj16, rfl, k16, b16⟩
      have F16 := hid k16.at
      have B16 := hid (below_via B15.out b16)
      have Y16 := hid (Y15.out.on b16 Y15.out.lt)
      have Z16 := hid (Z15.out.on b16 Z15.out.lt)
      have RW16 := hid (RW15.out.on b16)
      have MS16 := hid (MS15.out.on b16)
      clear k16 b16 hg16 hh16 hi16 hj16 B15 P15 Y15 Z15 RW15 MS15 
      go_wp2_with fail
      refine (CI.out (nodeNew d g16 h16 i16 j16) (newLies _ _ _ _ _) (Nat.le_refl _) HEM.out _ F16.out).mono ?_
      rintro e w17 ⟨q17, rfl, rr, b17⟩
      have VR17 := hid rr.own
      have B17 := hid (below_via B16.out b17)
      have Y17 := hid (Y16.out.on b17 Y16.out.lt)
      have Z17 := hid (Z16.out.on b17 Z16.out.lt)
      have RW17 := hid (RW16.out.on b17)
      have MS17 := hid (MS16.out.on b17)
      clear b17 rr F16 B16 Y16 Z16 RW16 MS16
      have bn := below_more (Below.refl w17.heap.size w17) (.cells #[.int .i64 D.id, .int .i64 D.term, .int .i64 D.vote, .int .i64 D.role, .int .i64 D.lead, .slice q17.co D.conf.length q17.cc, .int .i64 D.start, .int .i64 D.sterm, .slice q17.eo D.ents.length q17.ec, .int .i64 D.commit, .int .i64 D.clock, .int .i64 D.limit, .slice q17.vo D.votes.length q17.vc, .slice q17.po D.peers.length q17.pc] 35)
      have nn : BlockIs (w17.alloc (.cells #[.int .i64 D.id, .int .i64 D.term, .int .i64 D.vote, .int .i64 D.role, .int .i64 D.lead, .slice q17.co D.conf.length q17.cc, .int .i64 D.start, .int .i64 D.sterm, .slice q17.eo D.ents.length q17.ec, .int .i64 D.commit, .int .i64 D.clock, .int .i64 D.limit, .slice q17.vo D.votes.length q17.vc, .slice q17.po D.peers.length q17.pc] 35)) w17.heap.size 35 [.int .i64 D.id, .int .i64 D.term, .int .i64 D.vote, .int .i64 D.role, .int .i64 D.lead, .slice q17.co D.conf.length q17.cc, .int .i64 D.start, .int .i64 D.sterm, .slice q17.eo D.ents.length q17.ec, .int .i64 D.commit, .int .i64 D.clock, .int .i64 D.limit, .slice q17.vo D.votes.length q17.vc, .slice q17.po D.peers.length q17.pc] := heap_alloc_new w17 _
      obtain ⟨U17, hU17⟩ : ∃ W, w17.alloc (.cells #[.int .i64 0, .int .i64 0, .int .i64 0, .int .i64 0, .int .i64 0, .slice none 0 0, .int .i64 0, .int .i64 0, .slice none 0 0, .int .i64 0, .int .i64 0, .int .i64 0, .slice none 0 0, .slice none 0 0] 35) = W := ⟨_, rfl⟩
      have KZ17 : BlockIs U17 w17.heap.size 35 [.int .i64 0, .int .i64 0, .int .i64 0, .int .i64 0, .int .i64 0, .slice none 0 0, .int .i64 0, .int .i64 0, .slice none 0 0, .int .i64 0, .int .i64 0, .int .i64 0, .slice none 0 0, .slice none 0 0] := by rw [← hU17]; exact heap_alloc_new _ _
      obtain ⟨w18, hw18⟩ : ∃ W, U17.setRow w17.heap.size #[.int .i64 D.id, .int .i64 D.term, .int .i64 D.vote, .int .i64 D.role, .int .i64 D.lead, .slice q17.co D.conf.length q17.cc, .int .i64 D.start, .int .i64 D.sterm, .slice q17.eo D.ents.length q17.ec, .int .i64 D.commit, .int .i64 D.clock, .int .i64 D.limit, .slice q17.vo D.votes.length q17.vc, .slice q17.po D.peers.length q17.pc] = W := ⟨_, rfl⟩
      have hov : w17.alloc (.cells #[.int .i64 D.id, .int .i64 D.term, .int .i64 D.vote, .int .i64 D.role, .int .i64 D.lead, .slice q17.co D.conf.length q17.cc, .int .i64 D.start, .int .i64 D.sterm, .slice q17.eo D.ents.length q17.ec, .int .i64 D.commit, .int .i64 D.clock, .int .i64 D.limit, .slice q17.vo D.votes.length q17.vc, .slice q17.po D.peers.length q17.pc] 35) = w18 := by rw [← hw18, ← hU17, whole_over]
      rw [hov] at bn nn
      have V18 := hid nn
      have B18 := hid (below_via B17.out bn)
      have Y18 := hid (Y17.out.on bn Y17.out.lt)
      have Z18 := hid (Z17.out.on bn Z17.out.lt)
      have RW18 := hid (RW17.out.on bn)
      have MS18 := hid (MS17.out.on bn)
      have VR18 := hid (VR17.out.on bn)
      clear bn nn hov B17 Y17 Z17 RW17 MS17 VR17
      go_wp2_with (first | (refine wpList_store_whole node_size KZ17 rfl rfl _ _ rfl _ rfl rfl rfl (by simp [Value.oneCell']) ?_; rw [hw18]) | (refine wpList_load_whole Try.underlying35 node_size V18.out rfl rfl _ rfl rfl ?_) | (refine wpList_load_whole Try.underlying35 node_size Y18.out rfl rfl _ rfl rfl ?_) | fail)
      refine (eqNode_same D q17 q3 HDS.out _ VR18.out.at RW18.out.at).mono ?_
      rintro e w19 ⟨rfl, b19⟩
      have B19 := hid (below_via B18.out b19)
      have Z19 := hid (Z18.out.on b19 Z18.out.lt)
      have MS19 := hid (MS18.out.on b19)
      clear b19 hw18 hU17 KZ17 V18 VR18 RW18 Y18 B18 Z18 MS18 
      go_wp2_with (first | (refine wpList_load_whole Try.underlying35 node_size Z19.out rfl rfl _ rfl rfl ?_) | fail)
      refine (HS.out _ MS19.out).mono ?_
      rintro e w20 ⟨rfl, b20⟩
      have B20 := hid (below_via B19.out b20)
      clear b20
      go_wp2
      go_ret
      exact ⟨rfl, B20.out⟩

theorem own : ownKnob Try.prog.godebug = none := by kernel_rfl
theorem laidOut : laidOutB Try.prog = true := by kernel_rfl
theorem rowed : varsRowed Try.prog Rows.fnExactSettleSpec.vars = true := by kernel_rfl
set_option maxRecDepth 1000000 in
theorem contract (H : Type) (enc : TypeId × Value → H) (W : World) (base : Nat) (args : Array Value) (ds gs : List (DataW H)) (before : List MemPlace)
    (hval : ∀ (j : Nat) t v, Try.f3.params[j]? = some t → args[j]? = some v → Value.okWide Try.prog W .any base t v)
    (hW : DataW.Whole enc Try.prog Try.f3.params.toList Rows.fnExactSettleSpec.vars false W args.toList ds gs before) (_hL : laidMetH Try.prog Rows.fnExactSettleRow.laid W) :
    Calls Try.prog 3 args W fun e W' => ∃ v, e = .returned v ∧ Rows.fnExactSettleSpec.post enc Try.prog Try.f3 false true false false W args v W' := by
  have hW' := hW
  obtain ⟨p, q, hA0, hV0, rfl, hfz, hnd⟩ := hW
  have hV : DataW.TrodVars enc Try.prog W (fun _ => true) Rows.fnExactSettleSpec.vars gs q := hV0
  have hA : DataW.TrodAll enc Try.prog W 0 (fun _ => true) true Try.f3.params.toList args.toList ds p := hA0
  rw [Try.params3] at hA hval
  obtain ⟨v0, vs0, d0, ds0, p0, q0, hargs0, rfl, rfl, h0, r0⟩ := trodAll_cons hA
  obtain ⟨v1, vs1, d1, ds1, p1, q1, hargs1, rfl, rfl, h1, r1⟩ := trodAll_cons r0
  subst hargs1
  obtain ⟨rfl, rfl, rfl⟩ := trodAll_nil r1
  obtain rfl : args = #[v0, v1] := by cases args; simp_all
  have k0 := h0
  have lt0 : ∀ x ∈ p0, x.block < W.heap.size := by obtain ⟨m, hm⟩ := k0; exact DataW.trod_lt m _ _ _ hm
  obtain ⟨a0, q0, rfl, hfd0, hat0⟩ := open_node (hval 0 28 v0 rfl rfl) h0
  obtain ⟨a1, rfl, rfl, rfl, w1⟩ := open_int Try.underlying3 (hval 1 3 v1 rfl rfl) h1
  clear hA0 hV0
  obtain ⟨rfl, rfl⟩ := trodVars_none hV
  refine (walk a0 hfd0 q0 a1 w1 W hat0).mono fun e W' ⟨he, bel⟩ => ?_
  subst he
  exact ⟨_, rfl, _, _, _, [], _, [], hW', trodAll_mk1 (shut_bool Try.underlying4 _), trodAll_cons_mk (Below.trod laidOut (by kernel_rfl) (of_decide_eq_true (by kernel_rfl)) k0 bel lt0) (trodAll_cons_mk (shut_int Try.underlying3 w1) (trodAll_mk0)), rfl, bel.frame _, fun h => by cases h⟩

def put (cs : Array Value) : Obj → Obj
  | .cells _ t frozen => .cells cs t frozen
  | o => o

/-- a world for the witness: the tables hold what their initialisers lay -/
def laidWorld (w : World) : World := { w with heap := w.heap }
theorem laid_met (os : Os) : laidMet Try.prog Rows.fnExactSettleRow.laid ((laidWorld (World.holding Try.prog os ⟨#[], #[], []⟩)).forCall (fun _ _ => 0) ⟨#[], #[.agg #[.int .i64 0, .int .i64 0, .int .i64 0, .int .i64 0, .int .i64 0, .slice none 0 0, .int .i64 0, .int .i64 0, .slice none 0 0, .int .i64 0, .int .i64 0, .int .i64 0, .slice none 0 0, .slice none 0 0], .int .i64 0], []⟩).memory :=
  laidMet_of_run' 8 (by kernel_rfl) (by kernel_rfl)
theorem reads (os : Os) {H : Type} (enc : TypeId × Value → H) : ∃ places, DataW.whole enc Try.prog ((laidWorld (World.holding Try.prog os ⟨#[], #[], []⟩)).forCall (fun _ _ => 0) ⟨#[], #[.agg #[.int .i64 0, .int .i64 0, .int .i64 0, .int .i64 0, .int .i64 0, .slice none 0 0, .int .i64 0, .int .i64 0, .slice none 0 0, .int .i64 0, .int .i64 0, .int .i64 0, .slice none 0 0, .slice none 0 0], .int .i64 0], []⟩).memory Try.f3.params.toList Rows.fnExactSettleSpec.vars false #[Value.agg #[.int .i64 0, .int .i64 0, .int .i64 0, .int .i64 0, .int .i64 0, .slice none 0 0, .int .i64 0, .int .i64 0, .slice none 0 0, .int .i64 0, .int .i64 0, .int .i64 0, .slice none 0 0, .slice none 0 0], .int .i64 0].toList 8 = some ([.agg [.lit (.int .i64 0), .lit (.int .i64 0), .lit (.int .i64 0), .lit (.int .i64 0), .lit (.int .i64 0), .nil, .agg [.lit (.int .i64 0), .lit (.int .i64 0), .nil], .lit (.int .i64 0), .lit (.int .i64 0), .lit (.int .i64 0), .nil, .nil], .lit (.int .i64 0)], [], places) :=
  ⟨[], by kernel_rfl⟩

set_option maxRecDepth 1000000 in
theorem lifted (os : Os) (started : os.Started) (H : Type) (enc : TypeId × Value → H) (F : Stop.Interp) :
    ReturnsInHanded {} Try.checked os 3 .any ((OpenSpec.ofChange Rows.fnExactSettleSpec).preRow enc Try.prog Try.f3 Rows.fnExactSettleRow.domain false Rows.fnExactSettleRow.laid) (((OpenSpec.ofChange Rows.fnExactSettleSpec).at F).post enc Try.prog Try.f3 false true false false) := by
  obtain ⟨places, hx⟩ := reads os enc
  refine returnsInHanded_of_row (C := Try.checked) (s := OpenSpec.ofChange Rows.fnExactSettleSpec) own started (by kernel_rfl) Try.func3
    (witness_row_at (enc := enc) (C := Try.checked) false (laidWorld (World.holding Try.prog os ⟨#[], #[], []⟩)) #[.agg #[.int .i64 0, .int .i64 0, .int .i64 0, .int .i64 0, .int .i64 0, .slice none 0 0, .int .i64 0, .int .i64 0, .slice none 0 0, .int .i64 0, .int .i64 0, .int .i64 0, .slice none 0 0, .slice none 0 0], .int .i64 0] rfl (by kernel_rfl) (by kernel_rfl) (by kernel_rfl)
      (OpenSpec.preRow_of_cond 8 hx (by kernel_rfl) (fun k hk => by cases hk) (by kernel_rfl) (laid_met os))) ?_
  intro W base args ds gs before hval hW _ _ _ hL _ _
  exact contract H enc W base args ds gs before hval hW hL

theorem said : Rows.FnExactSettleSaid :=
  OpenClaim.holds_of_cond 3 Try.f3 rfl rfl rfl rfl rfl rfl rfl ⟨rfl, rfl, rfl, rfl, rfl⟩ rfl rfl rfl rfl rfl (by kernel_rfl) Try.func3 (by kernel_rfl)
    (of_decide_eq_true (by kernel_rfl)) (by unfold Func.isWrapper; first | (rw [if_pos (by decide +kernel)]; kernel_rfl) | (rw [if_neg (by decide +kernel)]; exact ⟨rfl, rfl⟩))
    (fun os started H enc _ F => by rw [OpenClaim.pre_eq_preRow]; exact lifted os started H enc F)

end Go.Proofs.Ytglibbpigmpanaa.fnExactSettle
