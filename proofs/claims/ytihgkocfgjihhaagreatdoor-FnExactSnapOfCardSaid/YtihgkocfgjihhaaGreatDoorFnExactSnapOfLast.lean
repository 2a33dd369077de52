/-
  For every server, laws.FnExactSnapOf returns true: impl.SnapOf and spec.SnapOf answer alike, and the answer owns its memory; nothing that was in memory is written. The table that impl reads is tied to the program's text (the card).
-/
import Derived.Test.YtihgkocfgjihhaaGreatDoorCards
import Derived.Test.YtihgkocfgjihhaaGreatDoorTie
import Derived.Test.YtihgkocfgjihhaaGreatDoorJoint15
import Derived.Test.YtihgkocfgjihhaaGreatDoorJoint21
import Derived.Test.YtihgkocfgjihhaaGreatDoorJoint24
import Derived.Test.YtihgkocfgjihhaaGreatDoorJoint28
import Derived.Test.YtihgkocfgjihhaaGreatDoorJoint48
import Derived.Test.YtihgkocfgjihhaaGreatDoorJoint49
import Derived.Test.YtihgkocfgjihhaaGreatDoorJoint29
import Derived.Test.YtihgkocfgjihhaaGreatDoorJoint50
import Derived.Deep.DeepCutAuto
import Derived.Deep.RegionWith
import Derived.WalkSmall
import Derived.WalkKit
import Derived.ProofKit
import Derived.OpenShut
import Derived.OpenVars
import Derived.Deep.DeepHandedRow
import Derived.Lib.LaidTab
import Derived.Stop.LaidErr
namespace Go.Proofs.YtihgkocfgjihhaaGreatDoor.fnExactSnapOf
open Go.ChangeShapes Go.WideShapes Go.ChangeAt Go.ChangeMaps Go.RowKit

set_option maxRecDepth 1000000 in
set_option maxHeartbeats 8000000 in
theorem walk (d : ServD) (hf : d.Fits) (p : ServL) (w : World) (ha : ServAt w d p) (ht : Steps w) :
    Calls Tryz.prog 4 #[.agg #[.int .i64 d.node.id, .int .i64 d.node.term, .int .i64 d.node.vote, .int .i64 d.node.role, .int .i64 d.node.lead, .slice p.node.co d.node.conf.length p.node.cc, .int .i64 d.node.start, .int .i64 d.node.sterm, .slice p.node.eo d.node.ents.length p.node.ec, .int .i64 d.node.commit, .int .i64 d.node.clock, .int .i64 d.node.limit, .slice p.node.vo d.node.votes.length p.node.vc, .slice p.node.po d.node.peers.length p.node.pc, .slice p.fo d.files.length p.fc, .int .i64 d.jn, .int .i64 d.jtm, .int .i64 d.jvt, .int .i64 d.js, .int .i64 d.jt, .slice p.jo d.jents.length p.jc, .slice p.so d.ss.length p.sc, .slice p.io d.items.length p.ic, .int .i64 d.applied, .string d.stage, .int .i64 d.sat, .int .i64 d.sterm]] w fun e w' => e = .returned (.bool true) ∧ Below w.heap.size w w' := by
  have HA := hid ha
  have HT := hid ht
  clear ha ht
  have XD_0 : Hid (BlockIs (w.alloc (.cells #[.int .i64 d.node.id, .int .i64 d.node.term, .int .i64 d.node.vote, .int .i64 d.node.role, .int .i64 d.node.lead, .slice p.node.co d.node.conf.length p.node.cc, .int .i64 d.node.start, .int .i64 d.node.sterm, .slice p.node.eo d.node.ents.length p.node.ec, .int .i64 d.node.commit, .int .i64 d.node.clock, .int .i64 d.node.limit, .slice p.node.vo d.node.votes.length p.node.vc, .slice p.node.po d.node.peers.length p.node.pc, .slice p.fo d.files.length p.fc, .int .i64 d.jn, .int .i64 d.jtm, .int .i64 d.jvt, .int .i64 d.js, .int .i64 d.jt, .slice p.jo d.jents.length p.jc, .slice p.so d.ss.length p.sc, .slice p.io d.items.length p.ic, .int .i64 d.applied, .string d.stage, .int .i64 d.sat, .int .i64 d.sterm] 50)) (w.heap.size) 50 [.int .i64 d.node.id, .int .i64 d.node.term, .int .i64 d.node.vote, .int .i64 d.node.role, .int .i64 d.node.lead, .slice p.node.co d.node.conf.length p.node.cc, .int .i64 d.node.start, .int .i64 d.node.sterm, .slice p.node.eo d.node.ents.length p.node.ec, .int .i64 d.node.commit, .int .i64 d.node.clock, .int .i64 d.node.limit, .slice p.node.vo d.node.votes.length p.node.vc, .slice p.node.po d.node.peers.length p.node.pc, .slice p.fo d.files.length p.fc, .int .i64 d.jn, .int .i64 d.jtm, .int .i64 d.jvt, .int .i64 d.js, .int .i64 d.jt, .slice p.jo d.jents.length p.jc, .slice p.so d.ss.length p.sc, .slice p.io d.items.length p.ic, .int .i64 d.applied, .string d.stage, .int .i64 d.sat, .int .i64 d.sterm]) := hid (heap_alloc_new w _)
  have B_0 : Hid (Below w.heap.size w (w.alloc (.cells #[.int .i64 d.node.id, .int .i64 d.node.term, .int .i64 d.node.vote, .int .i64 d.node.role, .int .i64 d.node.lead, .slice p.node.co d.node.conf.length p.node.cc, .int .i64 d.node.start, .int .i64 d.node.sterm, .slice p.node.eo d.node.ents.length p.node.ec, .int .i64 d.node.commit, .int .i64 d.node.clock, .int .i64 d.node.limit, .slice p.node.vo d.node.votes.length p.node.vc, .slice p.node.po d.node.peers.length p.node.pc, .slice p.fo d.files.length p.fc, .int .i64 d.jn, .int .i64 d.jtm, .int .i64 d.jvt, .int .i64 d.js, .int .i64 d.jt, .slice p.jo d.jents.length p.jc, .slice p.so d.ss.length p.sc, .slice p.io d.items.length p.ic, .int .i64 d.applied, .string d.stage, .int .i64 d.sat, .int .i64 d.sterm] 50))) := hid (below_more (Below.refl w.heap.size w) _)
  obtain ⟨w0, hw0⟩ : ∃ V, w.alloc (.cells #[.int .i64 d.node.id, .int .i64 d.node.term, .int .i64 d.node.vote, .int .i64 d.node.role, .int .i64 d.node.lead, .slice p.node.co d.node.conf.length p.node.cc, .int .i64 d.node.start, .int .i64 d.node.sterm, .slice p.node.eo d.node.ents.length p.node.ec, .int .i64 d.node.commit, .int .i64 d.node.clock, .int .i64 d.node.limit, .slice p.node.vo d.node.votes.length p.node.vc, .slice p.node.po d.node.peers.length p.node.pc, .slice p.fo d.files.length p.fc, .int .i64 d.jn, .int .i64 d.jtm, .int .i64 d.jvt, .int .i64 d.js, .int .i64 d.jt, .slice p.jo d.jents.length p.jc, .slice p.so d.ss.length p.sc, .slice p.io d.items.length p.ic, .int .i64 d.applied, .string d.stage, .int .i64 d.sat, .int .i64 d.sterm] 50) = V := ⟨_, rfl⟩
  rw [hw0] at XD_0 B_0
  have O_0 : Hid (w.heap.size < w0.heap.size) := hid XD_0.out.lt
  go_enter Tryz.func4, Tryz.ntmps4
  go_wp2_with (first | (refine wpList_load_whole Tryz.underlying50 lserv_size XD_0.out rfl rfl _ rfl rfl ?_) | fail)
  refine Calls.mono (szServer_any d p hf _ (HA.out.on B_0.out)) ?_
  rintro e w1 ⟨hor, b1⟩
  clear hw0
  have XD_1 : Hid (BlockIs w1 (w.heap.size) 50 [.int .i64 d.node.id, .int .i64 d.node.term, .int .i64 d.node.vote, .int .i64 d.node.role, .int .i64 d.node.lead, .slice p.node.co d.node.conf.length p.node.cc, .int .i64 d.node.start, .int .i64 d.node.sterm, .slice p.node.eo d.node.ents.length p.node.ec, .int .i64 d.node.commit, .int .i64 d.node.clock, .int .i64 d.node.limit, .slice p.node.vo d.node.votes.length p.node.vc, .slice p.node.po d.node.peers.length p.node.pc, .slice p.fo d.files.length p.fc, .int .i64 d.jn, .int .i64 d.jtm, .int .i64 d.jvt, .int .i64 d.js, .int .i64 d.jt, .slice p.jo d.jents.length p.jc, .slice p.so d.ss.length p.sc, .slice p.io d.items.length p.ic, .int .i64 d.applied, .string d.stage, .int .i64 d.sat, .int .i64 d.sterm]) := hid (XD_0.out.on b1 XD_0.out.lt)
  have B_1 : Hid (Below w.heap.size w w1) := hid (below_via B_0.out b1)
  have O_1 : Hid (w0.heap.size ≤ w1.heap.size) := hid b1.size
  clear XD_0 B_0
  clear b1
  rcases hor with rfl | ⟨hs, x, hx, rfl⟩
  · go_wp2
    go_ret
    exact ⟨rfl, B_1.out⟩
  have hxn : ¬ x < 0 := by omega
  have HS := hid hs
  have hz4 := newest_small (l := d.files)
  have CS' := fun q W h => specSnapOf_o d q hs.files hs.ftext hs.fname W h
  have CI' := fun q W h t => implSnapOf_o d q hs.files hs.ftext W h t
  obtain ⟨ix, hix⟩ : ∃ x, snapIx (newestSnap d.files) = x := ⟨_, rfl⟩
  obtain ⟨tm, htm⟩ : ∃ x, snapTm (newestSnap d.files) = x := ⟨_, rfl⟩
  obtain ⟨zs, hzs⟩ : ∃ x, snapZs (newestSnap d.files) = x := ⟨_, rfl⟩
  obtain ⟨bd, hbd⟩ : ∃ x, snapBd (newestSnap d.files) = x := ⟨_, rfl⟩
  obtain ⟨ok, hok⟩ : ∃ x, (newestSnap d.files).isSome = x := ⟨_, rfl⟩
  simp only [hix, htm, hzs, hbd, hok] at CS' CI' hz4
  have CS := hid CS'
  have CI := hid CI'
  clear CS' CI' hix htm hzs hbd hok hs
  go_wp2_with (first | (refine wpList_load_whole Tryz.underlying50 lserv_size XD_1.out rfl rfl _ rfl rfl ?_) | fail)
  refine Calls.mono (toServer_any d p HS.out _ (HA.out.on B_1.out)) ?_
  rintro e w2 ⟨g5_w, g8_w, g12_w, g13_w, fa_w, fb_w, bf_w, hf_w, gj_w, gs_w, gi_w, hin_w, rfl, ho, b_s⟩
  have XD_2 : Hid (BlockIs w2 (w.heap.size) 50 [.int .i64 d.node.id, .int .i64 d.node.term, .int .i64 d.node.vote, .int .i64 d.node.role, .int .i64 d.node.lead, .slice p.node.co d.node.conf.length p.node.cc, .int .i64 d.node.start, .int .i64 d.node.sterm, .slice p.node.eo d.node.ents.length p.node.ec, .int .i64 d.node.commit, .int .i64 d.node.clock, .int .i64 d.node.limit, .slice p.node.vo d.node.votes.length p.node.vc, .slice p.node.po d.node.peers.length p.node.pc, .slice p.fo d.files.length p.fc, .int .i64 d.jn, .int .i64 d.jtm, .int .i64 d.jvt, .int .i64 d.js, .int .i64 d.jt, .slice p.jo d.jents.length p.jc, .slice p.so d.ss.length p.sc, .slice p.io d.items.length p.ic, .int .i64 d.applied, .string d.stage, .int .i64 d.sat, .int .i64 d.sterm]) := hid (XD_1.out.on b_s XD_1.out.lt)
  have B_2 : Hid (Below w.heap.size w w2) := hid (below_via B_1.out b_s)
  have O_2 : Hid (w1.heap.size ≤ w2.heap.size) := hid b_s.size
  clear XD_1 B_1
  have Sw_2 : Hid (ServOwn w2 d g5_w g8_w g12_w g13_w fa_w bf_w hf_w gj_w gs_w gi_w) := hid ho
  have hi_w : gi_w < w2.heap.size := ho.items.lt
  have hin2_w := hin_w
  clear ho b_s
  have CQ : Calls Tryz.prog 14 #[.agg #[.int .i64 d.node.id, .int .i64 d.node.term, .int .i64 d.node.vote, .int .i64 d.node.role, .int .i64 d.node.lead, .slice (some ⟨g5_w, 0, none⟩) d.node.conf.length d.node.conf.length, .int .i64 d.node.start, .int .i64 d.node.sterm, .slice (some ⟨g8_w, 0, none⟩) d.node.ents.length d.node.ents.length, .int .i64 d.node.commit, .int .i64 d.node.clock, .int .i64 d.node.limit, .slice (some ⟨g12_w, 0, none⟩) d.node.votes.length d.node.votes.length, .slice (some ⟨g13_w, 0, none⟩) d.node.peers.length d.node.peers.length, .slice fa_w d.files.length fb_w, .int .i64 d.jn, .int .i64 d.jtm, .int .i64 d.jvt, .int .i64 d.js, .int .i64 d.jt, .slice (some ⟨gj_w, 0, none⟩) d.jents.length d.jents.length, .slice (some ⟨gs_w, 0, none⟩) d.ss.length d.ss.length, .slice (some ⟨gi_w, 0, none⟩) d.items.length d.items.length, .int .i64 d.applied, .string d.stage, .int .i64 d.sat, .int .i64 d.sterm]] w2 _ := CS.out (servNew d g5_w g8_w g12_w g13_w fa_w fb_w gj_w gs_w gi_w) w2 (Sw_2.out.files.files)
  go_wp2_with fail
  refine Calls.mono CQ ?_
  rintro e w3 ⟨vw, cw, rfl, hz, b_s⟩
  clear CQ
  have XD_3 : Hid (BlockIs w3 (w.heap.size) 50 [.int .i64 d.node.id, .int .i64 d.node.term, .int .i64 d.node.vote, .int .i64 d.node.role, .int .i64 d.node.lead, .slice p.node.co d.node.conf.length p.node.cc, .int .i64 d.node.start, .int .i64 d.node.sterm, .slice p.node.eo d.node.ents.length p.node.ec, .int .i64 d.node.commit, .int .i64 d.node.clock, .int .i64 d.node.limit, .slice p.node.vo d.node.votes.length p.node.vc, .slice p.node.po d.node.peers.length p.node.pc, .slice p.fo d.files.length p.fc, .int .i64 d.jn, .int .i64 d.jtm, .int .i64 d.jvt, .int .i64 d.js, .int .i64 d.jt, .slice p.jo d.jents.length p.jc, .slice p.so d.ss.length p.sc, .slice p.io d.items.length p.ic, .int .i64 d.applied, .string d.stage, .int .i64 d.sat, .int .i64 d.sterm]) := hid (XD_2.out.on b_s XD_2.out.lt)
  have Sw_3 : Hid (ServOwn w3 d g5_w g8_w g12_w g13_w fa_w bf_w hf_w gj_w gs_w gi_w) := hid (Sw_2.out.on b_s)
  have B_3 : Hid (Below w.heap.size w w3) := hid (below_via B_2.out b_s)
  have O_3 : Hid (w2.heap.size ≤ w3.heap.size) := hid b_s.size
  clear XD_2 Sw_2 B_2
  obtain ⟨low, hlow⟩ : ∃ q, w2.heap.size = q := ⟨_, rfl⟩
  obtain ⟨hiw, hhiw⟩ : ∃ q, w3.heap.size = q := ⟨_, rfl⟩
  rw [hlow, hhiw] at hz
  have Ew : Hid (low = w2.heap.size ∧ hiw = w3.heap.size) := hid ⟨hlow.symm, hhiw.symm⟩
  have Rw_3 := hid hz
  clear hz b_s hlow hhiw
  clear Sw_3
  have ba := below_more (Below.refl w3.heap.size w3) (.cells #[.int .i64 ix, .int .i64 tm, .slice vw zs.length cw, .string bd] 53)
  have hx : BlockIs (w3.alloc (.cells #[.int .i64 ix, .int .i64 tm, .slice vw zs.length cw, .string bd] 53)) w3.heap.size 53 [.int .i64 ix, .int .i64 tm, .slice vw zs.length cw, .string bd] := heap_alloc_new w3 _
  obtain ⟨WXw, hWXw⟩ : ∃ V, w3.alloc (.cells #[.int .i64 ix, .int .i64 tm, .slice vw zs.length cw, .string bd] 53) = V := ⟨_, rfl⟩
  rw [hWXw] at ba hx
  have XD_4 : Hid (BlockIs WXw (w.heap.size) 50 [.int .i64 d.node.id, .int .i64 d.node.term, .int .i64 d.node.vote, .int .i64 d.node.role, .int .i64 d.node.lead, .slice p.node.co d.node.conf.length p.node.cc, .int .i64 d.node.start, .int .i64 d.node.sterm, .slice p.node.eo d.node.ents.length p.node.ec, .int .i64 d.node.commit, .int .i64 d.node.clock, .int .i64 d.node.limit, .slice p.node.vo d.node.votes.length p.node.vc, .slice p.node.po d.node.peers.length p.node.pc, .slice p.fo d.files.length p.fc, .int .i64 d.jn, .int .i64 d.jtm, .int .i64 d.jvt, .int .i64 d.js, .int .i64 d.jt, .slice p.jo d.jents.length p.jc, .slice p.so d.ss.length p.sc, .slice p.io d.items.length p.ic, .int .i64 d.applied, .string d.stage, .int .i64 d.sat, .int .i64 d.sterm]) := hid (XD_3.out.on ba XD_3.out.lt)
  have Rw_4 : Hid (OwnAt WXw 3 (intCells zs) zs.length vw low hiw) := hid (Rw_3.out.on ba)
  have B_4 : Hid (Below w.heap.size w WXw) := hid (below_via B_3.out ba)
  have O_4 : Hid (w3.heap.size ≤ WXw.heap.size) := hid ba.size
  clear XD_3 Rw_3 B_3
  have Xw_4 : Hid (BlockIs WXw (w3.heap.size) 53 [.int .i64 ix, .int .i64 tm, .slice vw zs.length cw, .string bd]) := hid hx
  have LXw : Hid (w3.heap.size < WXw.heap.size) := hid hx.lt
  clear ba hx
  go_wp2_with (first | (refine wpList_load_whole Tryz.underlying50 lserv_size XD_4.out rfl rfl _ rfl rfl ?_) | fail)
  refine Calls.mono (toServer_any d p HS.out _ (HA.out.on B_4.out)) ?_
  rintro e w5 ⟨g5_x, g8_x, g12_x, g13_x, fa_x, fb_x, bf_x, hf_x, gj_x, gs_x, gi_x, hin_x, rfl, ho, b_s⟩
  have XD_5 : Hid (BlockIs w5 (w.heap.size) 50 [.int .i64 d.node.id, .int .i64 d.node.term, .int .i64 d.node.vote, .int .i64 d.node.role, .int .i64 d.node.lead, .slice p.node.co d.node.conf.length p.node.cc, .int .i64 d.node.start, .int .i64 d.node.sterm, .slice p.node.eo d.node.ents.length p.node.ec, .int .i64 d.node.commit, .int .i64 d.node.clock, .int .i64 d.node.limit, .slice p.node.vo d.node.votes.length p.node.vc, .slice p.node.po d.node.peers.length p.node.pc, .slice p.fo d.files.length p.fc, .int .i64 d.jn, .int .i64 d.jtm, .int .i64 d.jvt, .int .i64 d.js, .int .i64 d.jt, .slice p.jo d.jents.length p.jc, .slice p.so d.ss.length p.sc, .slice p.io d.items.length p.ic, .int .i64 d.applied, .string d.stage, .int .i64 d.sat, .int .i64 d.sterm]) := hid (XD_4.out.on b_s XD_4.out.lt)
  have Rw_5 : Hid (OwnAt w5 3 (intCells zs) zs.length vw low hiw) := hid (Rw_4.out.on b_s)
  have Xw_5 : Hid (BlockIs w5 (w3.heap.size) 53 [.int .i64 ix, .int .i64 tm, .slice vw zs.length cw, .string bd]) := hid (Xw_4.out.on b_s Xw_4.out.lt)
  have B_5 : Hid (Below w.heap.size w w5) := hid (below_via B_4.out b_s)
  have O_5 : Hid (WXw.heap.size ≤ w5.heap.size) := hid b_s.size
  clear XD_4 Rw_4 Xw_4 B_4
  have Sx_5 : Hid (ServOwn w5 d g5_x g8_x g12_x g13_x fa_x bf_x hf_x gj_x gs_x gi_x) := hid ho
  have hi_x : gi_x < w5.heap.size := ho.items.lt
  have hin2_x := hin_x
  clear ho b_s
  have ZX := hid (Below.refl w5.heap.size w5)
  have bn := below_more (Below.refl w5.heap.size w5) (.cells #[.int .i64 d.node.id, .int .i64 d.node.term, .int .i64 d.node.vote, .int .i64 d.node.role, .int .i64 d.node.lead, .slice (some ⟨g5_x, 0, none⟩) d.node.conf.length d.node.conf.length, .int .i64 d.node.start, .int .i64 d.node.sterm, .slice (some ⟨g8_x, 0, none⟩) d.node.ents.length d.node.ents.length, .int .i64 d.node.commit, .int .i64 d.node.clock, .int .i64 d.node.limit, .slice (some ⟨g12_x, 0, none⟩) d.node.votes.length d.node.votes.length, .slice (some ⟨g13_x, 0, none⟩) d.node.peers.length d.node.peers.length, .slice fa_x d.files.length fb_x, .int .i64 d.jn, .int .i64 d.jtm, .int .i64 d.jvt, .int .i64 d.js, .int .i64 d.jt, .slice (some ⟨gj_x, 0, none⟩) d.jents.length d.jents.length, .slice (some ⟨gs_x, 0, none⟩) d.ss.length d.ss.length, .slice (some ⟨gi_x, 0, none⟩) d.items.length d.items.length, .int .i64 d.applied, .string d.stage, .int .i64 d.sat, .int .i64 d.sterm] 69)
  have nn : BlockIs (w5.alloc (.cells #[.int .i64 d.node.id, .int .i64 d.node.term, .int .i64 d.node.vote, .int .i64 d.node.role, .int .i64 d.node.lead, .slice (some ⟨g5_x, 0, none⟩) d.node.conf.length d.node.conf.length, .int .i64 d.node.start, .int .i64 d.node.sterm, .slice (some ⟨g8_x, 0, none⟩) d.node.ents.length d.node.ents.length, .int .i64 d.node.commit, .int .i64 d.node.clock, .int .i64 d.node.limit, .slice (some ⟨g12_x, 0, none⟩) d.node.votes.length d.node.votes.length, .slice (some ⟨g13_x, 0, none⟩) d.node.peers.length d.node.peers.length, .slice fa_x d.files.length fb_x, .int .i64 d.jn, .int .i64 d.jtm, .int .i64 d.jvt, .int .i64 d.js, .int .i64 d.jt, .slice (some ⟨gj_x, 0, none⟩) d.jents.length d.jents.length, .slice (some ⟨gs_x, 0, none⟩) d.ss.length d.ss.length, .slice (some ⟨gi_x, 0, none⟩) d.items.length d.items.length, .int .i64 d.applied, .string d.stage, .int .i64 d.sat, .int .i64 d.sterm] 69)) w5.heap.size 69 [.int .i64 d.node.id, .int .i64 d.node.term, .int .i64 d.node.vote, .int .i64 d.node.role, .int .i64 d.node.lead, .slice (some ⟨g5_x, 0, none⟩) d.node.conf.length d.node.conf.length, .int .i64 d.node.start, .int .i64 d.node.sterm, .slice (some ⟨g8_x, 0, none⟩) d.node.ents.length d.node.ents.length, .int .i64 d.node.commit, .int .i64 d.node.clock, .int .i64 d.node.limit, .slice (some ⟨g12_x, 0, none⟩) d.node.votes.length d.node.votes.length, .slice (some ⟨g13_x, 0, none⟩) d.node.peers.length d.node.peers.length, .slice fa_x d.files.length fb_x, .int .i64 d.jn, .int .i64 d.jtm, .int .i64 d.jvt, .int .i64 d.js, .int .i64 d.jt, .slice (some ⟨gj_x, 0, none⟩) d.jents.length d.jents.length, .slice (some ⟨gs_x, 0, none⟩) d.ss.length d.ss.length, .slice (some ⟨gi_x, 0, none⟩) d.items.length d.items.length, .int .i64 d.applied, .string d.stage, .int .i64 d.sat, .int .i64 d.sterm] := heap_alloc_new w5 _
  obtain ⟨Ux, hUx⟩ : ∃ V, w5.alloc (.cells #[.int .i64 0, .int .i64 0, .int .i64 0, .int .i64 0, .int .i64 0, .slice none 0 0, .int .i64 0, .int .i64 0, .slice none 0 0, .int .i64 0, .int .i64 0, .int .i64 0, .slice none 0 0, .slice none 0 0, .slice none 0 0, .int .i64 0, .int .i64 0, .int .i64 0, .int .i64 0, .int .i64 0, .slice none 0 0, .slice none 0 0, .slice none 0 0, .int .i64 0, .string ⟨#[]⟩, .int .i64 0, .int .i64 0] 69) = V := ⟨_, rfl⟩
  have KZ : BlockIs Ux w5.heap.size 69 [.int .i64 0, .int .i64 0, .int .i64 0, .int .i64 0, .int .i64 0, .slice none 0 0, .int .i64 0, .int .i64 0, .slice none 0 0, .int .i64 0, .int .i64 0, .int .i64 0, .slice none 0 0, .slice none 0 0, .slice none 0 0, .int .i64 0, .int .i64 0, .int .i64 0, .int .i64 0, .int .i64 0, .slice none 0 0, .slice none 0 0, .slice none 0 0, .int .i64 0, .string ⟨#[]⟩, .int .i64 0, .int .i64 0] := by rw [← hUx]; exact heap_alloc_new _ _
  obtain ⟨Vx, hVx⟩ : ∃ V, Ux.setRow w5.heap.size #[.int .i64 d.node.id, .int .i64 d.node.term, .int .i64 d.node.vote, .int .i64 d.node.role, .int .i64 d.node.lead, .slice (some ⟨g5_x, 0, none⟩) d.node.conf.length d.node.conf.length, .int .i64 d.node.start, .int .i64 d.node.sterm, .slice (some ⟨g8_x, 0, none⟩) d.node.ents.length d.node.ents.length, .int .i64 d.node.commit, .int .i64 d.node.clock, .int .i64 d.node.limit, .slice (some ⟨g12_x, 0, none⟩) d.node.votes.length d.node.votes.length, .slice (some ⟨g13_x, 0, none⟩) d.node.peers.length d.node.peers.length, .slice fa_x d.files.length fb_x, .int .i64 d.jn, .int .i64 d.jtm, .int .i64 d.jvt, .int .i64 d.js, .int .i64 d.jt, .slice (some ⟨gj_x, 0, none⟩) d.jents.length d.jents.length, .slice (some ⟨gs_x, 0, none⟩) d.ss.length d.ss.length, .slice (some ⟨gi_x, 0, none⟩) d.items.length d.items.length, .int .i64 d.applied, .string d.stage, .int .i64 d.sat, .int .i64 d.sterm] = V := ⟨_, rfl⟩
  have hov : w5.alloc (.cells #[.int .i64 d.node.id, .int .i64 d.node.term, .int .i64 d.node.vote, .int .i64 d.node.role, .int .i64 d.node.lead, .slice (some ⟨g5_x, 0, none⟩) d.node.conf.length d.node.conf.length, .int .i64 d.node.start, .int .i64 d.node.sterm, .slice (some ⟨g8_x, 0, none⟩) d.node.ents.length d.node.ents.length, .int .i64 d.node.commit, .int .i64 d.node.clock, .int .i64 d.node.limit, .slice (some ⟨g12_x, 0, none⟩) d.node.votes.length d.node.votes.length, .slice (some ⟨g13_x, 0, none⟩) d.node.peers.length d.node.peers.length, .slice fa_x d.files.length fb_x, .int .i64 d.jn, .int .i64 d.jtm, .int .i64 d.jvt, .int .i64 d.js, .int .i64 d.jt, .slice (some ⟨gj_x, 0, none⟩) d.jents.length d.jents.length, .slice (some ⟨gs_x, 0, none⟩) d.ss.length d.ss.length, .slice (some ⟨gi_x, 0, none⟩) d.items.length d.items.length, .int .i64 d.applied, .string d.stage, .int .i64 d.sat, .int .i64 d.sterm] 69) = Vx := by rw [← hVx, ← hUx, whole_over]
  rw [hov] at bn nn
  have XD_6 : Hid (BlockIs Vx (w.heap.size) 50 [.int .i64 d.node.id, .int .i64 d.node.term, .int .i64 d.node.vote, .int .i64 d.node.role, .int .i64 d.node.lead, .slice p.node.co d.node.conf.length p.node.cc, .int .i64 d.node.start, .int .i64 d.node.sterm, .slice p.node.eo d.node.ents.length p.node.ec, .int .i64 d.node.commit, .int .i64 d.node.clock, .int .i64 d.node.limit, .slice p.node.vo d.node.votes.length p.node.vc, .slice p.node.po d.node.peers.length p.node.pc, .slice p.fo d.files.length p.fc, .int .i64 d.jn, .int .i64 d.jtm, .int .i64 d.jvt, .int .i64 d.js, .int .i64 d.jt, .slice p.jo d.jents.length p.jc, .slice p.so d.ss.length p.sc, .slice p.io d.items.length p.ic, .int .i64 d.applied, .string d.stage, .int .i64 d.sat, .int .i64 d.sterm]) := hid (XD_5.out.on bn XD_5.out.lt)
  have Rw_6 : Hid (OwnAt Vx 3 (intCells zs) zs.length vw low hiw) := hid (Rw_5.out.on bn)
  have Xw_6 : Hid (BlockIs Vx (w3.heap.size) 53 [.int .i64 ix, .int .i64 tm, .slice vw zs.length cw, .string bd]) := hid (Xw_5.out.on bn Xw_5.out.lt)
  have Sx_6 : Hid (ServOwn Vx d g5_x g8_x g12_x g13_x fa_x bf_x hf_x gj_x gs_x gi_x) := hid (Sx_5.out.on bn)
  have B_6 : Hid (Below w.heap.size w Vx) := hid (below_via B_5.out bn)
  have O_6 : Hid (w5.heap.size ≤ Vx.heap.size) := hid bn.size
  clear XD_5 Rw_5 Xw_5 Sx_5 B_5
  have Xx_6 : Hid (BlockIs Vx (w5.heap.size) 69 [.int .i64 d.node.id, .int .i64 d.node.term, .int .i64 d.node.vote, .int .i64 d.node.role, .int .i64 d.node.lead, .slice (some ⟨g5_x, 0, none⟩) d.node.conf.length d.node.conf.length, .int .i64 d.node.start, .int .i64 d.node.sterm, .slice (some ⟨g8_x, 0, none⟩) d.node.ents.length d.node.ents.length, .int .i64 d.node.commit, .int .i64 d.node.clock, .int .i64 d.node.limit, .slice (some ⟨g12_x, 0, none⟩) d.node.votes.length d.node.votes.length, .slice (some ⟨g13_x, 0, none⟩) d.node.peers.length d.node.peers.length, .slice fa_x d.files.length fb_x, .int .i64 d.jn, .int .i64 d.jtm, .int .i64 d.jvt, .int .i64 d.js, .int .i64 d.jt, .slice (some ⟨gj_x, 0, none⟩) d.jents.length d.jents.length, .slice (some ⟨gs_x, 0, none⟩) d.ss.length d.ss.length, .slice (some ⟨gi_x, 0, none⟩) d.items.length d.items.length, .int .i64 d.applied, .string d.stage, .int .i64 d.sat, .int .i64 d.sterm]) := hid nn
  have Lx : Hid (w5.heap.size < Vx.heap.size) := hid nn.lt
  clear bn nn hov ZX
  have CQ : Calls Tryz.prog 16 #[.agg #[.int .i64 d.node.id, .int .i64 d.node.term, .int .i64 d.node.vote, .int .i64 d.node.role, .int .i64 d.node.lead, .slice (some ⟨g5_x, 0, none⟩) d.node.conf.length d.node.conf.length, .int .i64 d.node.start, .int .i64 d.node.sterm, .slice (some ⟨g8_x, 0, none⟩) d.node.ents.length d.node.ents.length, .int .i64 d.node.commit, .int .i64 d.node.clock, .int .i64 d.node.limit, .slice (some ⟨g12_x, 0, none⟩) d.node.votes.length d.node.votes.length, .slice (some ⟨g13_x, 0, none⟩) d.node.peers.length d.node.peers.length, .slice fa_x d.files.length fb_x, .int .i64 d.jn, .int .i64 d.jtm, .int .i64 d.jvt, .int .i64 d.js, .int .i64 d.jt, .slice (some ⟨gj_x, 0, none⟩) d.jents.length d.jents.length, .slice (some ⟨gs_x, 0, none⟩) d.ss.length d.ss.length, .slice (some ⟨gi_x, 0, none⟩) d.items.length d.items.length, .int .i64 d.applied, .string d.stage, .int .i64 d.sat, .int .i64 d.sterm]] Vx _ := CI.out (servNew d g5_x g8_x g12_x g13_x fa_x fb_x gj_x gs_x gi_x) Vx (Sx_6.out.files.files) (steps_on HT.out B_6.out)
  go_wp2_with (first | (refine wpList_store_whole serv_size KZ rfl rfl _ _ rfl _ rfl rfl rfl (by simp [Value.oneCell']) ?_; rw [hVx]) | (refine wpList_load_whole Tryz.underlying69 serv_size Xx_6.out rfl rfl _ rfl rfl ?_) | fail)
  refine Calls.mono CQ ?_
  rintro e w7 ⟨vg, cg, rfl, hz, b_s⟩
  clear CQ hUx KZ hVx
  have XD_7 : Hid (BlockIs w7 (w.heap.size) 50 [.int .i64 d.node.id, .int .i64 d.node.term, .int .i64 d.node.vote, .int .i64 d.node.role, .int .i64 d.node.lead, .slice p.node.co d.node.conf.length p.node.cc, .int .i64 d.node.start, .int .i64 d.node.sterm, .slice p.node.eo d.node.ents.length p.node.ec, .int .i64 d.node.commit, .int .i64 d.node.clock, .int .i64 d.node.limit, .slice p.node.vo d.node.votes.length p.node.vc, .slice p.node.po d.node.peers.length p.node.pc, .slice p.fo d.files.length p.fc, .int .i64 d.jn, .int .i64 d.jtm, .int .i64 d.jvt, .int .i64 d.js, .int .i64 d.jt, .slice p.jo d.jents.length p.jc, .slice p.so d.ss.length p.sc, .slice p.io d.items.length p.ic, .int .i64 d.applied, .string d.stage, .int .i64 d.sat, .int .i64 d.sterm]) := hid (XD_6.out.on b_s XD_6.out.lt)
  have Rw_7 : Hid (OwnAt w7 3 (intCells zs) zs.length vw low hiw) := hid (Rw_6.out.on b_s)
  have Xw_7 : Hid (BlockIs w7 (w3.heap.size) 53 [.int .i64 ix, .int .i64 tm, .slice vw zs.length cw, .string bd]) := hid (Xw_6.out.on b_s Xw_6.out.lt)
  have Sx_7 : Hid (ServOwn w7 d g5_x g8_x g12_x g13_x fa_x bf_x hf_x gj_x gs_x gi_x) := hid (Sx_6.out.on b_s)
  have Xx_7 : Hid (BlockIs w7 (w5.heap.size) 69 [.int .i64 d.node.id, .int .i64 d.node.term, .int .i64 d.node.vote, .int .i64 d.node.role, .int .i64 d.node.lead, .slice (some ⟨g5_x, 0, none⟩) d.node.conf.length d.node.conf.length, .int .i64 d.node.start, .int .i64 d.node.sterm, .slice (some ⟨g8_x, 0, none⟩) d.node.ents.length d.node.ents.length, .int .i64 d.node.commit, .int .i64 d.node.clock, .int .i64 d.node.limit, .slice (some ⟨g12_x, 0, none⟩) d.node.votes.length d.node.votes.length, .slice (some ⟨g13_x, 0, none⟩) d.node.peers.length d.node.peers.length, .slice fa_x d.files.length fb_x, .int .i64 d.jn, .int .i64 d.jtm, .int .i64 d.jvt, .int .i64 d.js, .int .i64 d.jt, .slice (some ⟨gj_x, 0, none⟩) d.jents.length d.jents.length, .slice (some ⟨gs_x, 0, none⟩) d.ss.length d.ss.length, .slice (some ⟨gi_x, 0, none⟩) d.items.length d.items.length, .int .i64 d.applied, .string d.stage, .int .i64 d.sat, .int .i64 d.sterm]) := hid (Xx_6.out.on b_s Xx_6.out.lt)
  have B_7 : Hid (Below w.heap.size w w7) := hid (below_via B_6.out b_s)
  have O_7 : Hid (Vx.heap.size ≤ w7.heap.size) := hid b_s.size
  clear XD_6 Rw_6 Xw_6 Sx_6 Xx_6 B_6
  obtain ⟨log, hlog⟩ : ∃ q, Vx.heap.size = q := ⟨_, rfl⟩
  obtain ⟨hig, hhig⟩ : ∃ q, w7.heap.size = q := ⟨_, rfl⟩
  rw [hlog, hhig] at hz
  have Eg : Hid (log = Vx.heap.size ∧ hig = w7.heap.size) := hid ⟨hlog.symm, hhig.symm⟩
  have Rg_7 := hid hz
  clear hz b_s hlog hhig
  have ba := below_more (Below.refl w7.heap.size w7) (.cells #[.int .i64 ix, .int .i64 tm, .slice vg zs.length cg, .string bd] 53)
  have hx : BlockIs (w7.alloc (.cells #[.int .i64 ix, .int .i64 tm, .slice vg zs.length cg, .string bd] 53)) w7.heap.size 53 [.int .i64 ix, .int .i64 tm, .slice vg zs.length cg, .string bd] := heap_alloc_new w7 _
  obtain ⟨WXg, hWXg⟩ : ∃ V, w7.alloc (.cells #[.int .i64 ix, .int .i64 tm, .slice vg zs.length cg, .string bd] 53) = V := ⟨_, rfl⟩
  rw [hWXg] at ba hx
  have XD_8 : Hid (BlockIs WXg (w.heap.size) 50 [.int .i64 d.node.id, .int .i64 d.node.term, .int .i64 d.node.vote, .int .i64 d.node.role, .int .i64 d.node.lead, .slice p.node.co d.node.conf.length p.node.cc, .int .i64 d.node.start, .int .i64 d.node.sterm, .slice p.node.eo d.node.ents.length p.node.ec, .int .i64 d.node.commit, .int .i64 d.node.clock, .int .i64 d.node.limit, .slice p.node.vo d.node.votes.length p.node.vc, .slice p.node.po d.node.peers.length p.node.pc, .slice p.fo d.files.length p.fc, .int .i64 d.jn, .int .i64 d.jtm, .int .i64 d.jvt, .int .i64 d.js, .int .i64 d.jt, .slice p.jo d.jents.length p.jc, .slice p.so d.ss.length p.sc, .slice p.io d.items.length p.ic, .int .i64 d.applied, .string d.stage, .int .i64 d.sat, .int .i64 d.sterm]) := hid (XD_7.out.on ba XD_7.out.lt)
  have Rw_8 : Hid (OwnAt WXg 3 (intCells zs) zs.length vw low hiw) := hid (Rw_7.out.on ba)
  have Xw_8 : Hid (BlockIs WXg (w3.heap.size) 53 [.int .i64 ix, .int .i64 tm, .slice vw zs.length cw, .string bd]) := hid (Xw_7.out.on ba Xw_7.out.lt)
  have Sx_8 : Hid (ServOwn WXg d g5_x g8_x g12_x g13_x fa_x bf_x hf_x gj_x gs_x gi_x) := hid (Sx_7.out.on ba)
  have Xx_8 : Hid (BlockIs WXg (w5.heap.size) 69 [.int .i64 d.node.id, .int .i64 d.node.term, .int .i64 d.node.vote, .int .i64 d.node.role, .int .i64 d.node.lead, .slice (some ⟨g5_x, 0, none⟩) d.node.conf.length d.node.conf.length, .int .i64 d.node.start, .int .i64 d.node.sterm, .slice (some ⟨g8_x, 0, none⟩) d.node.ents.length d.node.ents.length, .int .i64 d.node.commit, .int .i64 d.node.clock, .int .i64 d.node.limit, .slice (some ⟨g12_x, 0, none⟩) d.node.votes.length d.node.votes.length, .slice (some ⟨g13_x, 0, none⟩) d.node.peers.length d.node.peers.length, .slice fa_x d.files.length fb_x, .int .i64 d.jn, .int .i64 d.jtm, .int .i64 d.jvt, .int .i64 d.js, .int .i64 d.jt, .slice (some ⟨gj_x, 0, none⟩) d.jents.length d.jents.length, .slice (some ⟨gs_x, 0, none⟩) d.ss.length d.ss.length, .slice (some ⟨gi_x, 0, none⟩) d.items.length d.items.length, .int .i64 d.applied, .string d.stage, .int .i64 d.sat, .int .i64 d.sterm]) := hid (Xx_7.out.on ba Xx_7.out.lt)
  have Rg_8 : Hid (OwnAt WXg 3 (intCells zs) zs.length vg log hig) := hid (Rg_7.out.on ba)
  have B_8 : Hid (Below w.heap.size w WXg) := hid (below_via B_7.out ba)
  have O_8 : Hid (w7.heap.size ≤ WXg.heap.size) := hid ba.size
  clear XD_7 Rw_7 Xw_7 Sx_7 Xx_7 Rg_7 B_7
  have Xg_8 : Hid (BlockIs WXg (w7.heap.size) 53 [.int .i64 ix, .int .i64 tm, .slice vg zs.length cg, .string bd]) := hid hx
  have LXg : Hid (w7.heap.size < WXg.heap.size) := hid hx.lt
  clear ba hx
  have cXg0_8 := Xg_8.out.cell (j := 0) rfl
  have cXg1_8 := Xg_8.out.cell (j := 1) rfl
  have cXg2_8 := Xg_8.out.cell (j := 2) rfl
  have cXg3_8 := Xg_8.out.cell (j := 3) rfl
  have cXw0_8 := Xw_8.out.cell (j := 0) rfl
  have cXw1_8 := Xw_8.out.cell (j := 1) rfl
  have cXw2_8 := Xw_8.out.cell (j := 2) rfl
  have cXw3_8 := Xw_8.out.cell (j := 3) rfl
  go_wp2_with fail
  refine Calls.mono (eqSnap_same ix tm vg vw zs cg cw bd (by omega) _ Rg_8.out.ints Rw_8.out.ints) ?_
  rintro e w9 ⟨rfl, b_s⟩
  clear cXg0_8 cXg1_8 cXg2_8 cXg3_8 cXw0_8 cXw1_8 cXw2_8 cXw3_8
  have XD_9 : Hid (BlockIs w9 (w.heap.size) 50 [.int .i64 d.node.id, .int .i64 d.node.term, .int .i64 d.node.vote, .int .i64 d.node.role, .int .i64 d.node.lead, .slice p.node.co d.node.conf.length p.node.cc, .int .i64 d.node.start, .int .i64 d.node.sterm, .slice p.node.eo d.node.ents.length p.node.ec, .int .i64 d.node.commit, .int .i64 d.node.clock, .int .i64 d.node.limit, .slice p.node.vo d.node.votes.length p.node.vc, .slice p.node.po d.node.peers.length p.node.pc, .slice p.fo d.files.length p.fc, .int .i64 d.jn, .int .i64 d.jtm, .int .i64 d.jvt, .int .i64 d.js, .int .i64 d.jt, .slice p.jo d.jents.length p.jc, .slice p.so d.ss.length p.sc, .slice p.io d.items.length p.ic, .int .i64 d.applied, .string d.stage, .int .i64 d.sat, .int .i64 d.sterm]) := hid (XD_8.out.on b_s XD_8.out.lt)
  have Rw_9 : Hid (OwnAt w9 3 (intCells zs) zs.length vw low hiw) := hid (Rw_8.out.on b_s)
  have Xw_9 : Hid (BlockIs w9 (w3.heap.size) 53 [.int .i64 ix, .int .i64 tm, .slice vw zs.length cw, .string bd]) := hid (Xw_8.out.on b_s Xw_8.out.lt)
  have Sx_9 : Hid (ServOwn w9 d g5_x g8_x g12_x g13_x fa_x bf_x hf_x gj_x gs_x gi_x) := hid (Sx_8.out.on b_s)
  have Xx_9 : Hid (BlockIs w9 (w5.heap.size) 69 [.int .i64 d.node.id, .int .i64 d.node.term, .int .i64 d.node.vote, .int .i64 d.node.role, .int .i64 d.node.lead, .slice (some ⟨g5_x, 0, none⟩) d.node.conf.length d.node.conf.length, .int .i64 d.node.start, .int .i64 d.node.sterm, .slice (some ⟨g8_x, 0, none⟩) d.node.ents.length d.node.ents.length, .int .i64 d.node.commit, .int .i64 d.node.clock, .int .i64 d.node.limit, .slice (some ⟨g12_x, 0, none⟩) d.node.votes.length d.node.votes.length, .slice (some ⟨g13_x, 0, none⟩) d.node.peers.length d.node.peers.length, .slice fa_x d.files.length fb_x, .int .i64 d.jn, .int .i64 d.jtm, .int .i64 d.jvt, .int .i64 d.js, .int .i64 d.jt, .slice (some ⟨gj_x, 0, none⟩) d.jents.length d.jents.length, .slice (some ⟨gs_x, 0, none⟩) d.ss.length d.ss.length, .slice (some ⟨gi_x, 0, none⟩) d.items.length d.items.length, .int .i64 d.applied, .string d.stage, .int .i64 d.sat, .int .i64 d.sterm]) := hid (Xx_8.out.on b_s Xx_8.out.lt)
  have Rg_9 : Hid (OwnAt w9 3 (intCells zs) zs.length vg log hig) := hid (Rg_8.out.on b_s)
  have Xg_9 : Hid (BlockIs w9 (w7.heap.size) 53 [.int .i64 ix, .int .i64 tm, .slice vg zs.length cg, .string bd]) := hid (Xg_8.out.on b_s Xg_8.out.lt)
  have B_9 : Hid (Below w.heap.size w w9) := hid (below_via B_8.out b_s)
  have O_9 : Hid (WXg.heap.size ≤ w9.heap.size) := hid b_s.size
  clear XD_8 Rw_8 Xw_8 Sx_8 Xx_8 Rg_8 Xg_8 B_8
  clear b_s
  obtain ⟨OK, hOK⟩ : ∃ P : Value → World → Prop, P = fun v W => ∃ (g5_y g8_y g12_y g13_y : Nat) (fa_y : Option Addr) (fb_y gj_y gs_y gi_y : Nat), v = .agg #[.int .i64 d.node.id, .int .i64 d.node.term, .int .i64 d.node.vote, .int .i64 d.node.role, .int .i64 d.node.lead, .slice (some ⟨g5_y, 0, none⟩) d.node.conf.length d.node.conf.length, .int .i64 d.node.start, .int .i64 d.node.sterm, .slice (some ⟨g8_y, 0, none⟩) d.node.ents.length d.node.ents.length, .int .i64 d.node.commit, .int .i64 d.node.clock, .int .i64 d.node.limit, .slice (some ⟨g12_y, 0, none⟩) d.node.votes.length d.node.votes.length, .slice (some ⟨g13_y, 0, none⟩) d.node.peers.length d.node.peers.length, .slice fa_y d.files.length fb_y, .int .i64 d.jn, .int .i64 d.jtm, .int .i64 d.jvt, .int .i64 d.js, .int .i64 d.jt, .slice (some ⟨gj_y, 0, none⟩) d.jents.length d.jents.length, .slice (some ⟨gs_y, 0, none⟩) d.ss.length d.ss.length, .slice (some ⟨gi_y, 0, none⟩) d.items.length d.items.length, .int .i64 d.applied, .string d.stage, .int .i64 d.sat, .int .i64 d.sterm] ∧ ServAt W d (servNew d g5_y g8_y g12_y g13_y fa_y fb_y gj_y gs_y gi_y) := ⟨_, rfl⟩
  obtain ⟨VD, hVD⟩ : ∃ v : Value, .agg #[.int .i64 d.node.id, .int .i64 d.node.term, .int .i64 d.node.vote, .int .i64 d.node.role, .int .i64 d.node.lead, .slice p.node.co d.node.conf.length p.node.cc, .int .i64 d.node.start, .int .i64 d.node.sterm, .slice p.node.eo d.node.ents.length p.node.ec, .int .i64 d.node.commit, .int .i64 d.node.clock, .int .i64 d.node.limit, .slice p.node.vo d.node.votes.length p.node.vc, .slice p.node.po d.node.peers.length p.node.pc, .slice p.fo d.files.length p.fc, .int .i64 d.jn, .int .i64 d.jtm, .int .i64 d.jvt, .int .i64 d.js, .int .i64 d.jt, .slice p.jo d.jents.length p.jc, .slice p.so d.ss.length p.sc, .slice p.io d.items.length p.ic, .int .i64 d.applied, .string d.stage, .int .i64 d.sat, .int .i64 d.sterm] = v := ⟨_, rfl⟩
  obtain ⟨VX, hVX⟩ : ∃ v : Value, .agg #[.int .i64 d.node.id, .int .i64 d.node.term, .int .i64 d.node.vote, .int .i64 d.node.role, .int .i64 d.node.lead, .slice (some ⟨g5_x, 0, none⟩) d.node.conf.length d.node.conf.length, .int .i64 d.node.start, .int .i64 d.node.sterm, .slice (some ⟨g8_x, 0, none⟩) d.node.ents.length d.node.ents.length, .int .i64 d.node.commit, .int .i64 d.node.clock, .int .i64 d.node.limit, .slice (some ⟨g12_x, 0, none⟩) d.node.votes.length d.node.votes.length, .slice (some ⟨g13_x, 0, none⟩) d.node.peers.length d.node.peers.length, .slice fa_x d.files.length fb_x, .int .i64 d.jn, .int .i64 d.jtm, .int .i64 d.jvt, .int .i64 d.js, .int .i64 d.jt, .slice (some ⟨gj_x, 0, none⟩) d.jents.length d.jents.length, .slice (some ⟨gs_x, 0, none⟩) d.ss.length d.ss.length, .slice (some ⟨gi_x, 0, none⟩) d.items.length d.items.length, .int .i64 d.applied, .string d.stage, .int .i64 d.sat, .int .i64 d.sterm] = v := ⟨_, rfl⟩
  have CT : Hid (∀ W, Below w9.heap.size w9 W → Calls Tryz.prog 15 #[VD] W fun e W' => ∃ v, e = .returned v ∧ OK v W' ∧ Below W.heap.size W W') := by
    intro W hb
    rw [← hVD]
    refine Calls.mono (toServer_any d p HS.out W (HA.out.on (below_via B_9.out hb))) ?_
    rintro e w10 ⟨g5_y, g8_y, g12_y, g13_y, fa_y, fb_y, bf_y, hf_y, gj_y, gs_y, gi_y, hin, rfl, ho, b10⟩
    refine ⟨_, rfl, ?_, b10⟩
    rw [hOK]
    exact ⟨g5_y, g8_y, g12_y, g13_y, fa_y, fb_y, gj_y, gs_y, gi_y, rfl, ho.at fb_y⟩
  have HAX : Hid (ServAt w9 d (servNew d g5_x g8_x g12_x g13_x fa_x fb_x gj_x gs_x gi_x)) := hid (Sx_9.out.at fb_x)
  have CE : Hid (∀ v W, Below w9.heap.size w9 W → OK v W → Calls Tryz.prog 18 #[VX, v] W fun e W' => e = .returned (.bool true) ∧ Below W.heap.size W W') := by
    intro v W hb hv
    rw [hOK] at hv
    obtain ⟨g5_y, g8_y, g12_y, g13_y, fa_y, fb_y, gj_y, gs_y, gi_y, rfl, hy⟩ := hv
    rw [← hVX]
    refine (eqServer_same d (servNew d g5_x g8_x g12_x g13_x fa_x fb_x gj_x gs_x gi_x) (servNew d g5_y g8_y g12_y g13_y fa_y fb_y gj_y gs_y gi_y) HS.out W (HAX.out.on hb) hy).mono ?_
    rintro e w11 ⟨rfl, b11⟩
    exact ⟨rfl, b11⟩
  have OKon : Hid (∀ v W W', OK v W → Below W.heap.size W W' → OK v W') := by
    intro v W W' hv hb
    rw [hOK] at hv ⊢
    obtain ⟨g5_y, g8_y, g12_y, g13_y, fa_y, fb_y, gj_y, gs_y, gi_y, e1, hy⟩ := hv
    exact ⟨g5_y, g8_y, g12_y, g13_y, fa_y, fb_y, gj_y, gs_y, gi_y, e1, hy.on hb⟩
  have LDX : Hid (∀ W, Below w9.heap.size w9 W → (Instr.loadAt 69 (.pointer (some ⟨w5.heap.size, 0, none⟩))).run Tryz.prog W = .ok VX W) := by
    intro W hb
    rw [← hVX]
    exact load_whole Tryz.underlying69 serv_size (r := []) (by rw [List.append_nil]; exact Xx_9.out.on hb Xx_9.out.lt) rfl
  have LDD : Hid (∀ W, Below w9.heap.size w9 W → (Instr.loadAt 50 (.pointer (some ⟨w.heap.size, 0, none⟩))).run Tryz.prog W = .ok VD W) := by
    intro W hb
    rw [← hVD]
    exact load_whole Tryz.underlying50 lserv_size (r := []) (by rw [List.append_nil]; exact XD_9.out.on hb XD_9.out.lt) rfl
  clear hOK hVD hVX HAX
  go_upto_region 10 with fail
  go_cut [45] (fun sa wx => sa = .bool false ∧ Hid (Below w9.heap.size w9 wx))
  case first =>
    refine wp_region_each (N := 96) (by kernel_rfl) (by kernel_rfl) rfl (by kernel_rfl) (fun W => Below w9.heap.size w9 W) (fun j v _ W => match j with | 0 => v = VX | 1 => v = VD | 2 => OK v W | 3 => v = .bool true | 4 => v = .bool false | _ => True) (fun i => i) (fun _ _ => false) (fun _ x y => Below x.heap.size x y) (fun _ => 0) (by kernel_rfl) (fun _ _ => rfl) ?_ (below_drewN (Below.refl _ _) 1) ?_ ?_
    · intro i j v u x y hij hdd hwt hxy hg
      match j, hg with
      | 0, hg => exact hg
      | 1, hg => exact hg
      | 2, hg =>
        exact OKon.out _ _ _ hg hxy
      | 3, hg => exact hg
      | 4, hg => exact hg
      | n + 5, _ => exact trivial
    · refine ⟨?_, ?_, ?_, ?_, ?_, trivial⟩
      · intro A W hC hg hb
        have h6 : A.eval (.tmp 6) = .pointer (some ⟨w5.heap.size, 0, none⟩) := hb 6 (base_of (by kernel_rfl))
        exact does_value (v := VX) (w' := W) (by simp only [execOp, h6, LDX.out W hC, Sem.run_bind, Sem.run_pure, Result.andThen_ok]) ⟨rfl, hC, Below.refl _ _⟩
      · intro A W hC hg hb
        have h1 : A.eval (.tmp 1) = .pointer (some ⟨w.heap.size, 0, none⟩) := hb 1 (base_of (by kernel_rfl))
        exact does_value (v := VD) (w' := W) (by simp only [execOp, h1, LDD.out W hC, Sem.run_bind, Sem.run_pure, Result.andThen_ok]) ⟨rfl, hC, Below.refl _ _⟩
      · intro A W hC hg hb
        have h42 : A.eval (.tmp 42) = VD := hg 1 42 (by decide) rfl (by simp [Op.operands, Call.operands]) (by kernel_rfl) rfl
        simp [go_sem] at h42
        refine does_enter (f := 15) (args := #[VD]) (w' := W) (by simp [go_sem, h42]) ?_
        refine (CT.out W hC).mono ?_
        rintro e W' ⟨v, rfl, h1, hb'⟩
        exact ⟨_, rfl, h1, below_via hC hb', hb'⟩
      · intro A W hC hg hb
        have h41 : A.eval (.tmp 41) = VX := hg 0 41 (by decide) rfl (by simp [Op.operands, Call.operands]) (by kernel_rfl) rfl
        have g2 := hg 2 43 (by decide) rfl (by simp [Op.operands, Call.operands]) (by kernel_rfl) rfl
        have g2' : OK (A.eval (.tmp 43)) W := g2
        obtain ⟨v2, h2⟩ : ∃ v, A.eval (.tmp 43) = v := ⟨_, rfl⟩
        rw [h2] at g2'
        clear g2
        simp [go_sem] at h41 h2
        refine does_enter (f := 18) (args := #[VX, v2]) (w' := W) (by simp [go_sem, h41, h2]) ?_
        refine (CE.out v2 W hC g2').mono ?_
        rintro e W' ⟨rfl, hb'⟩
        exact ⟨_, rfl, rfl, below_via hC hb', hb'⟩
      · intro A W hC hg hb
        have h44 : A.eval (.tmp 44) = .bool true := hg 3 44 (by decide) rfl (by simp [Op.operands]) (by kernel_rfl) rfl
        exact does_value (v := .bool false) (w' := W) (by simp only [execOp, h44]; simp [go_sem]) ⟨rfl, hC, Below.refl _ _⟩
    · intro vs wE hC hg
      have hok4 := hg 4 (by decide) (fun k => rfl)
      change vs 4 = _ at hok4
      clear hg
      simp only [List.size_toArray, List.length_cons, List.length_nil, Nat.zero_add, Nat.reduceAdd]
      simp only [laidBy, if_true, dstAt, List.getElem?_toArray, List.getElem?_cons_succ, List.getElem?_cons_zero, Option.bind_some]
      simp only [Act.put, List.setIfInBounds_toArray, List.set_cons_succ, List.set_cons_zero]
      rw [hok4]
      go_wp2_with fail
      go_meet
      exact ⟨rfl, hC⟩
  case rest =>
  obtain ⟨w11, hwc⟩ : ∃ W, W = wc := ⟨_, rfl⟩
  subst hwc
  obtain ⟨rfl, HCX⟩ := hcut
  have b_s := HCX.out
  clear HCX CT CE OKon LDX LDD
  have XD_10 : Hid (BlockIs w11 (w.heap.size) 50 [.int .i64 d.node.id, .int .i64 d.node.term, .int .i64 d.node.vote, .int .i64 d.node.role, .int .i64 d.node.lead, .slice p.node.co d.node.conf.length p.node.cc, .int .i64 d.node.start, .int .i64 d.node.sterm, .slice p.node.eo d.node.ents.length p.node.ec, .int .i64 d.node.commit, .int .i64 d.node.clock, .int .i64 d.node.limit, .slice p.node.vo d.node.votes.length p.node.vc, .slice p.node.po d.node.peers.length p.node.pc, .slice p.fo d.files.length p.fc, .int .i64 d.jn, .int .i64 d.jtm, .int .i64 d.jvt, .int .i64 d.js, .int .i64 d.jt, .slice p.jo d.jents.length p.jc, .slice p.so d.ss.length p.sc, .slice p.io d.items.length p.ic, .int .i64 d.applied, .string d.stage, .int .i64 d.sat, .int .i64 d.sterm]) := hid (XD_9.out.on b_s XD_9.out.lt)
  have Rw_10 : Hid (OwnAt w11 3 (intCells zs) zs.length vw low hiw) := hid (Rw_9.out.on b_s)
  have Xw_10 : Hid (BlockIs w11 (w3.heap.size) 53 [.int .i64 ix, .int .i64 tm, .slice vw zs.length cw, .string bd]) := hid (Xw_9.out.on b_s Xw_9.out.lt)
  have Sx_10 : Hid (ServOwn w11 d g5_x g8_x g12_x g13_x fa_x bf_x hf_x gj_x gs_x gi_x) := hid (Sx_9.out.on b_s)
  have Xx_10 : Hid (BlockIs w11 (w5.heap.size) 69 [.int .i64 d.node.id, .int .i64 d.node.term, .int .i64 d.node.vote, .int .i64 d.node.role, .int .i64 d.node.lead, .slice (some ⟨g5_x, 0, none⟩) d.node.conf.length d.node.conf.length, .int .i64 d.node.start, .int .i64 d.node.sterm, .slice (some ⟨g8_x, 0, none⟩) d.node.ents.length d.node.ents.length, .int .i64 d.node.commit, .int .i64 d.node.clock, .int .i64 d.node.limit, .slice (some ⟨g12_x, 0, none⟩) d.node.votes.length d.node.votes.length, .slice (some ⟨g13_x, 0, none⟩) d.node.peers.length d.node.peers.length, .slice fa_x d.files.length fb_x, .int .i64 d.jn, .int .i64 d.jtm, .int .i64 d.jvt, .int .i64 d.js, .int .i64 d.jt, .slice (some ⟨gj_x, 0, none⟩) d.jents.length d.jents.length, .slice (some ⟨gs_x, 0, none⟩) d.ss.length d.ss.length, .slice (some ⟨gi_x, 0, none⟩) d.items.length d.items.length, .int .i64 d.applied, .string d.stage, .int .i64 d.sat, .int .i64 d.sterm]) := hid (Xx_9.out.on b_s Xx_9.out.lt)
  have Rg_10 : Hid (OwnAt w11 3 (intCells zs) zs.length vg log hig) := hid (Rg_9.out.on b_s)
  have Xg_10 : Hid (BlockIs w11 (w7.heap.size) 53 [.int .i64 ix, .int .i64 tm, .slice vg zs.length cg, .string bd]) := hid (Xg_9.out.on b_s Xg_9.out.lt)
  have B_10 : Hid (Below w.heap.size w w11) := hid (below_via B_9.out b_s)
  have O_10 : Hid (w9.heap.size ≤ w11.heap.size) := hid b_s.size
  clear XD_9 Rw_9 Xw_9 Sx_9 Xx_9 Rg_9 Xg_9 B_9
  clear b_s
  obtain ⟨lox, hlox⟩ : ∃ q, WXw.heap.size = q := ⟨_, rfl⟩
  obtain ⟨hix, hhix⟩ : ∃ q, w5.heap.size = q := ⟨_, rfl⟩
  rw [hlox] at hin_x
  have Ex : Hid (lox = WXw.heap.size ∧ hix = w5.heap.size) := hid ⟨hlox.symm, hhix.symm⟩
  have hgix : gi_x < hix := by rw [← hhix]; exact hi_x
  clear hlox hhix
  go_wp2_with (first | (refine wpList_load_whole Tryz.underlying69 serv_size Xx_10.out rfl rfl _ rfl rfl ?_) | fail)
  refine Calls.mono (markServer_w d g5_x g8_x g12_x g13_x fa_x fb_x bf_x hf_x gj_x gs_x gi_x lox lox hix HS.out hin_x (Nat.le_refl _) hgix w11 (by have := O_0.out; have := O_1.out; have := O_2.out; have := O_3.out; have := Ew.out; have := O_4.out; have := LXw.out; have := O_5.out; have := O_6.out; have := Lx.out; have := O_7.out; have := Eg.out; have := O_8.out; have := LXg.out; have := O_9.out; have := O_10.out; have := Ex.out; omega) Sx_10.out) ?_
  rintro e w13 ⟨K, rfl, kp, bl⟩
  have XD_11 : Hid (BlockIs w13 (w.heap.size) 50 [.int .i64 d.node.id, .int .i64 d.node.term, .int .i64 d.node.vote, .int .i64 d.node.role, .int .i64 d.node.lead, .slice p.node.co d.node.conf.length p.node.cc, .int .i64 d.node.start, .int .i64 d.node.sterm, .slice p.node.eo d.node.ents.length p.node.ec, .int .i64 d.node.commit, .int .i64 d.node.clock, .int .i64 d.node.limit, .slice p.node.vo d.node.votes.length p.node.vc, .slice p.node.po d.node.peers.length p.node.pc, .slice p.fo d.files.length p.fc, .int .i64 d.jn, .int .i64 d.jtm, .int .i64 d.jvt, .int .i64 d.js, .int .i64 d.jt, .slice p.jo d.jents.length p.jc, .slice p.so d.ss.length p.sc, .slice p.io d.items.length p.ic, .int .i64 d.applied, .string d.stage, .int .i64 d.sat, .int .i64 d.sterm]) := hid (XD_10.out.kept kp (by have := O_0.out; have := O_1.out; have := O_2.out; have := O_3.out; have := Ew.out; have := O_4.out; have := LXw.out; have := O_5.out; have := O_6.out; have := Lx.out; have := O_7.out; have := Eg.out; have := O_8.out; have := LXg.out; have := O_9.out; have := O_10.out; have := Ex.out; omega))
  have Rw_11 : Hid (OwnAt w13 3 (intCells zs) zs.length vw low hiw) := hid (Rw_10.out.kept kp (by have := O_0.out; have := O_1.out; have := O_2.out; have := O_3.out; have := Ew.out; have := O_4.out; have := LXw.out; have := O_5.out; have := O_6.out; have := Lx.out; have := O_7.out; have := Eg.out; have := O_8.out; have := LXg.out; have := O_9.out; have := O_10.out; have := Ex.out; omega))
  have Xw_11 : Hid (BlockIs w13 (w3.heap.size) 53 [.int .i64 ix, .int .i64 tm, .slice vw zs.length cw, .string bd]) := hid (Xw_10.out.kept kp (by have := O_0.out; have := O_1.out; have := O_2.out; have := O_3.out; have := Ew.out; have := O_4.out; have := LXw.out; have := O_5.out; have := O_6.out; have := Lx.out; have := O_7.out; have := Eg.out; have := O_8.out; have := LXg.out; have := O_9.out; have := O_10.out; have := Ex.out; omega))
  have Xx_11 : Hid (BlockIs w13 (w5.heap.size) 69 [.int .i64 d.node.id, .int .i64 d.node.term, .int .i64 d.node.vote, .int .i64 d.node.role, .int .i64 d.node.lead, .slice (some ⟨g5_x, 0, none⟩) d.node.conf.length d.node.conf.length, .int .i64 d.node.start, .int .i64 d.node.sterm, .slice (some ⟨g8_x, 0, none⟩) d.node.ents.length d.node.ents.length, .int .i64 d.node.commit, .int .i64 d.node.clock, .int .i64 d.node.limit, .slice (some ⟨g12_x, 0, none⟩) d.node.votes.length d.node.votes.length, .slice (some ⟨g13_x, 0, none⟩) d.node.peers.length d.node.peers.length, .slice fa_x d.files.length fb_x, .int .i64 d.jn, .int .i64 d.jtm, .int .i64 d.jvt, .int .i64 d.js, .int .i64 d.jt, .slice (some ⟨gj_x, 0, none⟩) d.jents.length d.jents.length, .slice (some ⟨gs_x, 0, none⟩) d.ss.length d.ss.length, .slice (some ⟨gi_x, 0, none⟩) d.items.length d.items.length, .int .i64 d.applied, .string d.stage, .int .i64 d.sat, .int .i64 d.sterm]) := hid (Xx_10.out.kept kp (by have := O_0.out; have := O_1.out; have := O_2.out; have := O_3.out; have := Ew.out; have := O_4.out; have := LXw.out; have := O_5.out; have := O_6.out; have := Lx.out; have := O_7.out; have := Eg.out; have := O_8.out; have := LXg.out; have := O_9.out; have := O_10.out; have := Ex.out; omega))
  have Rg_11 : Hid (OwnAt w13 3 (intCells zs) zs.length vg log hig) := hid (Rg_10.out.kept kp (by have := O_0.out; have := O_1.out; have := O_2.out; have := O_3.out; have := Ew.out; have := O_4.out; have := LXw.out; have := O_5.out; have := O_6.out; have := Lx.out; have := O_7.out; have := Eg.out; have := O_8.out; have := LXg.out; have := O_9.out; have := O_10.out; have := Ex.out; omega))
  have Xg_11 : Hid (BlockIs w13 (w7.heap.size) 53 [.int .i64 ix, .int .i64 tm, .slice vg zs.length cg, .string bd]) := hid (Xg_10.out.kept kp (by have := O_0.out; have := O_1.out; have := O_2.out; have := O_3.out; have := Ew.out; have := O_4.out; have := LXw.out; have := O_5.out; have := O_6.out; have := Lx.out; have := O_7.out; have := Eg.out; have := O_8.out; have := LXg.out; have := O_9.out; have := O_10.out; have := Ex.out; omega))
  have B_11 : Hid (Below w.heap.size w w13) := hid (B_10.out.trans (bl.mono (by have := O_0.out; have := O_1.out; have := O_2.out; have := O_3.out; have := Ew.out; have := O_4.out; have := LXw.out; have := O_5.out; have := O_6.out; have := Lx.out; have := O_7.out; have := Eg.out; have := O_8.out; have := LXg.out; have := O_9.out; have := O_10.out; have := Ex.out; omega)))
  have O_11 : Hid (w11.heap.size ≤ w13.heap.size) := hid bl.size
  clear XD_10 Rw_10 Xw_10 Sx_10 Xx_10 Rg_10 Xg_10 B_10
  clear kp bl
  have hKn : ¬ ((K : Int) < 0) := by omega
  have cXg0_11 := Xg_11.out.cell (j := 0) rfl
  have cXg1_11 := Xg_11.out.cell (j := 1) rfl
  have cXg2_11 := Xg_11.out.cell (j := 2) rfl
  have cXg3_11 := Xg_11.out.cell (j := 3) rfl
  have cXw0_11 := Xw_11.out.cell (j := 0) rfl
  have cXw1_11 := Xw_11.out.cell (j := 1) rfl
  have cXw2_11 := Xw_11.out.cell (j := 2) rfl
  have cXw3_11 := Xw_11.out.cell (j := 3) rfl
  go_wp2_with fail
  refine Calls.mono (eqSnap_same ix tm vg vw zs cg cw bd (by omega) _ Rg_11.out.ints Rw_11.out.ints) ?_
  rintro e w14 ⟨rfl, b_s⟩
  clear cXg0_11 cXg1_11 cXg2_11 cXg3_11 cXw0_11 cXw1_11 cXw2_11 cXw3_11
  have XD_12 : Hid (BlockIs w14 (w.heap.size) 50 [.int .i64 d.node.id, .int .i64 d.node.term, .int .i64 d.node.vote, .int .i64 d.node.role, .int .i64 d.node.lead, .slice p.node.co d.node.conf.length p.node.cc, .int .i64 d.node.start, .int .i64 d.node.sterm, .slice p.node.eo d.node.ents.length p.node.ec, .int .i64 d.node.commit, .int .i64 d.node.clock, .int .i64 d.node.limit, .slice p.node.vo d.node.votes.length p.node.vc, .slice p.node.po d.node.peers.length p.node.pc, .slice p.fo d.files.length p.fc, .int .i64 d.jn, .int .i64 d.jtm, .int .i64 d.jvt, .int .i64 d.js, .int .i64 d.jt, .slice p.jo d.jents.length p.jc, .slice p.so d.ss.length p.sc, .slice p.io d.items.length p.ic, .int .i64 d.applied, .string d.stage, .int .i64 d.sat, .int .i64 d.sterm]) := hid (XD_11.out.on b_s XD_11.out.lt)
  have Rw_12 : Hid (OwnAt w14 3 (intCells zs) zs.length vw low hiw) := hid (Rw_11.out.on b_s)
  have Xw_12 : Hid (BlockIs w14 (w3.heap.size) 53 [.int .i64 ix, .int .i64 tm, .slice vw zs.length cw, .string bd]) := hid (Xw_11.out.on b_s Xw_11.out.lt)
  have Xx_12 : Hid (BlockIs w14 (w5.heap.size) 69 [.int .i64 d.node.id, .int .i64 d.node.term, .int .i64 d.node.vote, .int .i64 d.node.role, .int .i64 d.node.lead, .slice (some ⟨g5_x, 0, none⟩) d.node.conf.length d.node.conf.length, .int .i64 d.node.start, .int .i64 d.node.sterm, .slice (some ⟨g8_x, 0, none⟩) d.node.ents.length d.node.ents.length, .int .i64 d.node.commit, .int .i64 d.node.clock, .int .i64 d.node.limit, .slice (some ⟨g12_x, 0, none⟩) d.node.votes.length d.node.votes.length, .slice (some ⟨g13_x, 0, none⟩) d.node.peers.length d.node.peers.length, .slice fa_x d.files.length fb_x, .int .i64 d.jn, .int .i64 d.jtm, .int .i64 d.jvt, .int .i64 d.js, .int .i64 d.jt, .slice (some ⟨gj_x, 0, none⟩) d.jents.length d.jents.length, .slice (some ⟨gs_x, 0, none⟩) d.ss.length d.ss.length, .slice (some ⟨gi_x, 0, none⟩) d.items.length d.items.length, .int .i64 d.applied, .string d.stage, .int .i64 d.sat, .int .i64 d.sterm]) := hid (Xx_11.out.on b_s Xx_11.out.lt)
  have Rg_12 : Hid (OwnAt w14 3 (intCells zs) zs.length vg log hig) := hid (Rg_11.out.on b_s)
  have Xg_12 : Hid (BlockIs w14 (w7.heap.size) 53 [.int .i64 ix, .int .i64 tm, .slice vg zs.length cg, .string bd]) := hid (Xg_11.out.on b_s Xg_11.out.lt)
  have B_12 : Hid (Below w.heap.size w w14) := hid (below_via B_11.out b_s)
  have O_12 : Hid (w13.heap.size ≤ w14.heap.size) := hid b_s.size
  clear XD_11 Rw_11 Xw_11 Xx_11 Rg_11 Xg_11 B_11
  clear b_s
  have cXg0_12 := Xg_12.out.cell (j := 0) rfl
  have cXg1_12 := Xg_12.out.cell (j := 1) rfl
  have cXg2_12 := Xg_12.out.cell (j := 2) rfl
  have cXg3_12 := Xg_12.out.cell (j := 3) rfl
  have cXw0_12 := Xw_12.out.cell (j := 0) rfl
  have cXw1_12 := Xw_12.out.cell (j := 1) rfl
  have cXw2_12 := Xw_12.out.cell (j := 2) rfl
  have cXw3_12 := Xw_12.out.cell (j := 3) rfl
  go_wp2_with fail
  refine Calls.mono (markSnap_o ix tm vg cg bd zs log hig 1 (by omega) (by omega) _ (by have := O_0.out; have := O_1.out; have := O_2.out; have := O_3.out; have := Ew.out; have := O_4.out; have := LXw.out; have := O_5.out; have := O_6.out; have := Lx.out; have := O_7.out; have := Eg.out; have := O_8.out; have := LXg.out; have := O_9.out; have := O_10.out; have := Ex.out; have := O_11.out; have := O_12.out; constructor <;> omega) Rg_12.out) ?_
  rintro e w15 ⟨rfl, hm, kp, bl⟩
  clear cXg0_12 cXg1_12 cXg2_12 cXg3_12 cXw0_12 cXw1_12 cXw2_12 cXw3_12
  have XD_13 : Hid (BlockIs w15 (w.heap.size) 50 [.int .i64 d.node.id, .int .i64 d.node.term, .int .i64 d.node.vote, .int .i64 d.node.role, .int .i64 d.node.lead, .slice p.node.co d.node.conf.length p.node.cc, .int .i64 d.node.start, .int .i64 d.node.sterm, .slice p.node.eo d.node.ents.length p.node.ec, .int .i64 d.node.commit, .int .i64 d.node.clock, .int .i64 d.node.limit, .slice p.node.vo d.node.votes.length p.node.vc, .slice p.node.po d.node.peers.length p.node.pc, .slice p.fo d.files.length p.fc, .int .i64 d.jn, .int .i64 d.jtm, .int .i64 d.jvt, .int .i64 d.js, .int .i64 d.jt, .slice p.jo d.jents.length p.jc, .slice p.so d.ss.length p.sc, .slice p.io d.items.length p.ic, .int .i64 d.applied, .string d.stage, .int .i64 d.sat, .int .i64 d.sterm]) := hid (XD_12.out.kept kp (by have := O_0.out; have := O_1.out; have := O_2.out; have := O_3.out; have := Ew.out; have := O_4.out; have := LXw.out; have := O_5.out; have := O_6.out; have := Lx.out; have := O_7.out; have := Eg.out; have := O_8.out; have := LXg.out; have := O_9.out; have := O_10.out; have := Ex.out; have := O_11.out; have := O_12.out; omega))
  have Rw_13 : Hid (OwnAt w15 3 (intCells zs) zs.length vw low hiw) := hid (Rw_12.out.kept kp (by have := O_0.out; have := O_1.out; have := O_2.out; have := O_3.out; have := Ew.out; have := O_4.out; have := LXw.out; have := O_5.out; have := O_6.out; have := Lx.out; have := O_7.out; have := Eg.out; have := O_8.out; have := LXg.out; have := O_9.out; have := O_10.out; have := Ex.out; have := O_11.out; have := O_12.out; omega))
  have Xw_13 : Hid (BlockIs w15 (w3.heap.size) 53 [.int .i64 ix, .int .i64 tm, .slice vw zs.length cw, .string bd]) := hid (Xw_12.out.kept kp (by have := O_0.out; have := O_1.out; have := O_2.out; have := O_3.out; have := Ew.out; have := O_4.out; have := LXw.out; have := O_5.out; have := O_6.out; have := Lx.out; have := O_7.out; have := Eg.out; have := O_8.out; have := LXg.out; have := O_9.out; have := O_10.out; have := Ex.out; have := O_11.out; have := O_12.out; omega))
  have Xx_13 : Hid (BlockIs w15 (w5.heap.size) 69 [.int .i64 d.node.id, .int .i64 d.node.term, .int .i64 d.node.vote, .int .i64 d.node.role, .int .i64 d.node.lead, .slice (some ⟨g5_x, 0, none⟩) d.node.conf.length d.node.conf.length, .int .i64 d.node.start, .int .i64 d.node.sterm, .slice (some ⟨g8_x, 0, none⟩) d.node.ents.length d.node.ents.length, .int .i64 d.node.commit, .int .i64 d.node.clock, .int .i64 d.node.limit, .slice (some ⟨g12_x, 0, none⟩) d.node.votes.length d.node.votes.length, .slice (some ⟨g13_x, 0, none⟩) d.node.peers.length d.node.peers.length, .slice fa_x d.files.length fb_x, .int .i64 d.jn, .int .i64 d.jtm, .int .i64 d.jvt, .int .i64 d.js, .int .i64 d.jt, .slice (some ⟨gj_x, 0, none⟩) d.jents.length d.jents.length, .slice (some ⟨gs_x, 0, none⟩) d.ss.length d.ss.length, .slice (some ⟨gi_x, 0, none⟩) d.items.length d.items.length, .int .i64 d.applied, .string d.stage, .int .i64 d.sat, .int .i64 d.sterm]) := hid (Xx_12.out.kept kp (by have := O_0.out; have := O_1.out; have := O_2.out; have := O_3.out; have := Ew.out; have := O_4.out; have := LXw.out; have := O_5.out; have := O_6.out; have := Lx.out; have := O_7.out; have := Eg.out; have := O_8.out; have := LXg.out; have := O_9.out; have := O_10.out; have := Ex.out; have := O_11.out; have := O_12.out; omega))
  have Xg_13 : Hid (BlockIs w15 (w7.heap.size) 53 [.int .i64 ix, .int .i64 tm, .slice vg zs.length cg, .string bd]) := hid (Xg_12.out.kept kp (by have := O_0.out; have := O_1.out; have := O_2.out; have := O_3.out; have := Ew.out; have := O_4.out; have := LXw.out; have := O_5.out; have := O_6.out; have := Lx.out; have := O_7.out; have := Eg.out; have := O_8.out; have := LXg.out; have := O_9.out; have := O_10.out; have := Ex.out; have := O_11.out; have := O_12.out; omega))
  have B_13 : Hid (Below w.heap.size w w15) := hid (B_12.out.trans (bl.mono (by have := O_0.out; have := O_1.out; have := O_2.out; have := O_3.out; have := Ew.out; have := O_4.out; have := LXw.out; have := O_5.out; have := O_6.out; have := Lx.out; have := O_7.out; have := Eg.out; have := O_8.out; have := LXg.out; have := O_9.out; have := O_10.out; have := Ex.out; have := O_11.out; have := O_12.out; omega)))
  have O_13 : Hid (w14.heap.size ≤ w15.heap.size) := hid bl.size
  clear XD_12 Rw_12 Xw_12 Xx_12 Rg_12 Xg_12 B_12
  have M_13 := hid hm
  clear kp bl hm
  obtain ⟨N, hN⟩ : ∃ N, 1 + zs.length = N := ⟨_, rfl⟩
  rw [hN]
  have CH' := fun w h => heldSnap_any ix tm vg zs.length cg 1 bd (by omega) (by omega) w h
  rw [hN] at CH'
  have CH := hid CH'
  have hNb : N ≤ 10000000 := by omega
  clear CH' hN
  have cXg0_13 := Xg_13.out.cell (j := 0) rfl
  have cXg1_13 := Xg_13.out.cell (j := 1) rfl
  have cXg2_13 := Xg_13.out.cell (j := 2) rfl
  have cXg3_13 := Xg_13.out.cell (j := 3) rfl
  have cXw0_13 := Xw_13.out.cell (j := 0) rfl
  have cXw1_13 := Xw_13.out.cell (j := 1) rfl
  have cXw2_13 := Xw_13.out.cell (j := 2) rfl
  have cXw3_13 := Xw_13.out.cell (j := 3) rfl
  go_wp2_with fail
  refine Calls.mono (CH.out _ M_13.out) ?_
  rintro e w16 ⟨rfl, b_s⟩
  clear cXg0_13 cXg1_13 cXg2_13 cXg3_13 cXw0_13 cXw1_13 cXw2_13 cXw3_13
  have XD_14 : Hid (BlockIs w16 (w.heap.size) 50 [.int .i64 d.node.id, .int .i64 d.node.term, .int .i64 d.node.vote, .int .i64 d.node.role, .int .i64 d.node.lead, .slice p.node.co d.node.conf.length p.node.cc, .int .i64 d.node.start, .int .i64 d.node.sterm, .slice p.node.eo d.node.ents.length p.node.ec, .int .i64 d.node.commit, .int .i64 d.node.clock, .int .i64 d.node.limit, .slice p.node.vo d.node.votes.length p.node.vc, .slice p.node.po d.node.peers.length p.node.pc, .slice p.fo d.files.length p.fc, .int .i64 d.jn, .int .i64 d.jtm, .int .i64 d.jvt, .int .i64 d.js, .int .i64 d.jt, .slice p.jo d.jents.length p.jc, .slice p.so d.ss.length p.sc, .slice p.io d.items.length p.ic, .int .i64 d.applied, .string d.stage, .int .i64 d.sat, .int .i64 d.sterm]) := hid (XD_13.out.on b_s XD_13.out.lt)
  have Rw_14 : Hid (OwnAt w16 3 (intCells zs) zs.length vw low hiw) := hid (Rw_13.out.on b_s)
  have Xw_14 : Hid (BlockIs w16 (w3.heap.size) 53 [.int .i64 ix, .int .i64 tm, .slice vw zs.length cw, .string bd]) := hid (Xw_13.out.on b_s Xw_13.out.lt)
  have Xx_14 : Hid (BlockIs w16 (w5.heap.size) 69 [.int .i64 d.node.id, .int .i64 d.node.term, .int .i64 d.node.vote, .int .i64 d.node.role, .int .i64 d.node.lead, .slice (some ⟨g5_x, 0, none⟩) d.node.conf.length d.node.conf.length, .int .i64 d.node.start, .int .i64 d.node.sterm, .slice (some ⟨g8_x, 0, none⟩) d.node.ents.length d.node.ents.length, .int .i64 d.node.commit, .int .i64 d.node.clock, .int .i64 d.node.limit, .slice (some ⟨g12_x, 0, none⟩) d.node.votes.length d.node.votes.length, .slice (some ⟨g13_x, 0, none⟩) d.node.peers.length d.node.peers.length, .slice fa_x d.files.length fb_x, .int .i64 d.jn, .int .i64 d.jtm, .int .i64 d.jvt, .int .i64 d.js, .int .i64 d.jt, .slice (some ⟨gj_x, 0, none⟩) d.jents.length d.jents.length, .slice (some ⟨gs_x, 0, none⟩) d.ss.length d.ss.length, .slice (some ⟨gi_x, 0, none⟩) d.items.length d.items.length, .int .i64 d.applied, .string d.stage, .int .i64 d.sat, .int .i64 d.sterm]) := hid (Xx_13.out.on b_s Xx_13.out.lt)
  have Xg_14 : Hid (BlockIs w16 (w7.heap.size) 53 [.int .i64 ix, .int .i64 tm, .slice vg zs.length cg, .string bd]) := hid (Xg_13.out.on b_s Xg_13.out.lt)
  have M_14 : Hid (IntsAt w16 vg (countFrom 1 zs.length)) := hid (M_13.out.on b_s)
  have B_14 : Hid (Below w.heap.size w w16) := hid (below_via B_13.out b_s)
  have O_14 : Hid (w15.heap.size ≤ w16.heap.size) := hid b_s.size
  clear XD_13 Rw_13 Xw_13 Xx_13 Xg_13 M_13 B_13
  clear b_s
  go_wp2_with (first | (refine wpList_load_whole Tryz.underlying50 lserv_size XD_14.out rfl rfl _ rfl rfl ?_) | fail)
  refine Calls.mono (toServer_any d p HS.out _ (HA.out.on B_14.out)) ?_
  rintro e w17 ⟨g5_h, g8_h, g12_h, g13_h, fa_h, fb_h, bf_h, hf_h, gj_h, gs_h, gi_h, hin_h, rfl, ho, b_s⟩
  have XD_15 : Hid (BlockIs w17 (w.heap.size) 50 [.int .i64 d.node.id, .int .i64 d.node.term, .int .i64 d.node.vote, .int .i64 d.node.role, .int .i64 d.node.lead, .slice p.node.co d.node.conf.length p.node.cc, .int .i64 d.node.start, .int .i64 d.node.sterm, .slice p.node.eo d.node.ents.length p.node.ec, .int .i64 d.node.commit, .int .i64 d.node.clock, .int .i64 d.node.limit, .slice p.node.vo d.node.votes.length p.node.vc, .slice p.node.po d.node.peers.length p.node.pc, .slice p.fo d.files.length p.fc, .int .i64 d.jn, .int .i64 d.jtm, .int .i64 d.jvt, .int .i64 d.js, .int .i64 d.jt, .slice p.jo d.jents.length p.jc, .slice p.so d.ss.length p.sc, .slice p.io d.items.length p.ic, .int .i64 d.applied, .string d.stage, .int .i64 d.sat, .int .i64 d.sterm]) := hid (XD_14.out.on b_s XD_14.out.lt)
  have Rw_15 : Hid (OwnAt w17 3 (intCells zs) zs.length vw low hiw) := hid (Rw_14.out.on b_s)
  have Xw_15 : Hid (BlockIs w17 (w3.heap.size) 53 [.int .i64 ix, .int .i64 tm, .slice vw zs.length cw, .string bd]) := hid (Xw_14.out.on b_s Xw_14.out.lt)
  have Xx_15 : Hid (BlockIs w17 (w5.heap.size) 69 [.int .i64 d.node.id, .int .i64 d.node.term, .int .i64 d.node.vote, .int .i64 d.node.role, .int .i64 d.node.lead, .slice (some ⟨g5_x, 0, none⟩) d.node.conf.length d.node.conf.length, .int .i64 d.node.start, .int .i64 d.node.sterm, .slice (some ⟨g8_x, 0, none⟩) d.node.ents.length d.node.ents.length, .int .i64 d.node.commit, .int .i64 d.node.clock, .int .i64 d.node.limit, .slice (some ⟨g12_x, 0, none⟩) d.node.votes.length d.node.votes.length, .slice (some ⟨g13_x, 0, none⟩) d.node.peers.length d.node.peers.length, .slice fa_x d.files.length fb_x, .int .i64 d.jn, .int .i64 d.jtm, .int .i64 d.jvt, .int .i64 d.js, .int .i64 d.jt, .slice (some ⟨gj_x, 0, none⟩) d.jents.length d.jents.length, .slice (some ⟨gs_x, 0, none⟩) d.ss.length d.ss.length, .slice (some ⟨gi_x, 0, none⟩) d.items.length d.items.length, .int .i64 d.applied, .string d.stage, .int .i64 d.sat, .int .i64 d.sterm]) := hid (Xx_14.out.on b_s Xx_14.out.lt)
  have Xg_15 : Hid (BlockIs w17 (w7.heap.size) 53 [.int .i64 ix, .int .i64 tm, .slice vg zs.length cg, .string bd]) := hid (Xg_14.out.on b_s Xg_14.out.lt)
  have M_15 : Hid (IntsAt w17 vg (countFrom 1 zs.length)) := hid (M_14.out.on b_s)
  have B_15 : Hid (Below w.heap.size w w17) := hid (below_via B_14.out b_s)
  have O_15 : Hid (w16.heap.size ≤ w17.heap.size) := hid b_s.size
  clear XD_14 Rw_14 Xw_14 Xx_14 Xg_14 M_14 B_14
  have Sh_15 : Hid (ServOwn w17 d g5_h g8_h g12_h g13_h fa_h bf_h hf_h gj_h gs_h gi_h) := hid ho
  have hi_h : gi_h < w17.heap.size := ho.items.lt
  have hin2_h := hin_h
  clear ho b_s
  have CQ : Calls Tryz.prog 16 #[.agg #[.int .i64 d.node.id, .int .i64 d.node.term, .int .i64 d.node.vote, .int .i64 d.node.role, .int .i64 d.node.lead, .slice (some ⟨g5_h, 0, none⟩) d.node.conf.length d.node.conf.length, .int .i64 d.node.start, .int .i64 d.node.sterm, .slice (some ⟨g8_h, 0, none⟩) d.node.ents.length d.node.ents.length, .int .i64 d.node.commit, .int .i64 d.node.clock, .int .i64 d.node.limit, .slice (some ⟨g12_h, 0, none⟩) d.node.votes.length d.node.votes.length, .slice (some ⟨g13_h, 0, none⟩) d.node.peers.length d.node.peers.length, .slice fa_h d.files.length fb_h, .int .i64 d.jn, .int .i64 d.jtm, .int .i64 d.jvt, .int .i64 d.js, .int .i64 d.jt, .slice (some ⟨gj_h, 0, none⟩) d.jents.length d.jents.length, .slice (some ⟨gs_h, 0, none⟩) d.ss.length d.ss.length, .slice (some ⟨gi_h, 0, none⟩) d.items.length d.items.length, .int .i64 d.applied, .string d.stage, .int .i64 d.sat, .int .i64 d.sterm]] w17 _ := CI.out (servNew d g5_h g8_h g12_h g13_h fa_h fb_h gj_h gs_h gi_h) w17 (Sh_15.out.files.files) (steps_on HT.out B_15.out)
  go_wp2_with fail
  refine Calls.mono CQ ?_
  rintro e w18 ⟨vh, ch, rfl, hz, b_s⟩
  clear CQ
  have XD_16 : Hid (BlockIs w18 (w.heap.size) 50 [.int .i64 d.node.id, .int .i64 d.node.term, .int .i64 d.node.vote, .int .i64 d.node.role, .int .i64 d.node.lead, .slice p.node.co d.node.conf.length p.node.cc, .int .i64 d.node.start, .int .i64 d.node.sterm, .slice p.node.eo d.node.ents.length p.node.ec, .int .i64 d.node.commit, .int .i64 d.node.clock, .int .i64 d.node.limit, .slice p.node.vo d.node.votes.length p.node.vc, .slice p.node.po d.node.peers.length p.node.pc, .slice p.fo d.files.length p.fc, .int .i64 d.jn, .int .i64 d.jtm, .int .i64 d.jvt, .int .i64 d.js, .int .i64 d.jt, .slice p.jo d.jents.length p.jc, .slice p.so d.ss.length p.sc, .slice p.io d.items.length p.ic, .int .i64 d.applied, .string d.stage, .int .i64 d.sat, .int .i64 d.sterm]) := hid (XD_15.out.on b_s XD_15.out.lt)
  have Rw_16 : Hid (OwnAt w18 3 (intCells zs) zs.length vw low hiw) := hid (Rw_15.out.on b_s)
  have Xw_16 : Hid (BlockIs w18 (w3.heap.size) 53 [.int .i64 ix, .int .i64 tm, .slice vw zs.length cw, .string bd]) := hid (Xw_15.out.on b_s Xw_15.out.lt)
  have Xx_16 : Hid (BlockIs w18 (w5.heap.size) 69 [.int .i64 d.node.id, .int .i64 d.node.term, .int .i64 d.node.vote, .int .i64 d.node.role, .int .i64 d.node.lead, .slice (some ⟨g5_x, 0, none⟩) d.node.conf.length d.node.conf.length, .int .i64 d.node.start, .int .i64 d.node.sterm, .slice (some ⟨g8_x, 0, none⟩) d.node.ents.length d.node.ents.length, .int .i64 d.node.commit, .int .i64 d.node.clock, .int .i64 d.node.limit, .slice (some ⟨g12_x, 0, none⟩) d.node.votes.length d.node.votes.length, .slice (some ⟨g13_x, 0, none⟩) d.node.peers.length d.node.peers.length, .slice fa_x d.files.length fb_x, .int .i64 d.jn, .int .i64 d.jtm, .int .i64 d.jvt, .int .i64 d.js, .int .i64 d.jt, .slice (some ⟨gj_x, 0, none⟩) d.jents.length d.jents.length, .slice (some ⟨gs_x, 0, none⟩) d.ss.length d.ss.length, .slice (some ⟨gi_x, 0, none⟩) d.items.length d.items.length, .int .i64 d.applied, .string d.stage, .int .i64 d.sat, .int .i64 d.sterm]) := hid (Xx_15.out.on b_s Xx_15.out.lt)
  have Xg_16 : Hid (BlockIs w18 (w7.heap.size) 53 [.int .i64 ix, .int .i64 tm, .slice vg zs.length cg, .string bd]) := hid (Xg_15.out.on b_s Xg_15.out.lt)
  have M_16 : Hid (IntsAt w18 vg (countFrom 1 zs.length)) := hid (M_15.out.on b_s)
  have Sh_16 : Hid (ServOwn w18 d g5_h g8_h g12_h g13_h fa_h bf_h hf_h gj_h gs_h gi_h) := hid (Sh_15.out.on b_s)
  have B_16 : Hid (Below w.heap.size w w18) := hid (below_via B_15.out b_s)
  have O_16 : Hid (w17.heap.size ≤ w18.heap.size) := hid b_s.size
  clear XD_15 Rw_15 Xw_15 Xx_15 Xg_15 M_15 Sh_15 B_15
  obtain ⟨loh, hloh⟩ : ∃ q, w17.heap.size = q := ⟨_, rfl⟩
  obtain ⟨hih, hhih⟩ : ∃ q, w18.heap.size = q := ⟨_, rfl⟩
  rw [hloh, hhih] at hz
  have Eh : Hid (loh = w17.heap.size ∧ hih = w18.heap.size) := hid ⟨hloh.symm, hhih.symm⟩
  have Rh_16 := hid hz
  clear hz b_s hloh hhih
  clear Sh_16
  have ba := below_more (Below.refl w18.heap.size w18) (.cells #[.int .i64 ix, .int .i64 tm, .slice vh zs.length ch, .string bd] 53)
  have hx : BlockIs (w18.alloc (.cells #[.int .i64 ix, .int .i64 tm, .slice vh zs.length ch, .string bd] 53)) w18.heap.size 53 [.int .i64 ix, .int .i64 tm, .slice vh zs.length ch, .string bd] := heap_alloc_new w18 _
  obtain ⟨WXh, hWXh⟩ : ∃ V, w18.alloc (.cells #[.int .i64 ix, .int .i64 tm, .slice vh zs.length ch, .string bd] 53) = V := ⟨_, rfl⟩
  rw [hWXh] at ba hx
  have XD_17 : Hid (BlockIs WXh (w.heap.size) 50 [.int .i64 d.node.id, .int .i64 d.node.term, .int .i64 d.node.vote, .int .i64 d.node.role, .int .i64 d.node.lead, .slice p.node.co d.node.conf.length p.node.cc, .int .i64 d.node.start, .int .i64 d.node.sterm, .slice p.node.eo d.node.ents.length p.node.ec, .int .i64 d.node.commit, .int .i64 d.node.clock, .int .i64 d.node.limit, .slice p.node.vo d.node.votes.length p.node.vc, .slice p.node.po d.node.peers.length p.node.pc, .slice p.fo d.files.length p.fc, .int .i64 d.jn, .int .i64 d.jtm, .int .i64 d.jvt, .int .i64 d.js, .int .i64 d.jt, .slice p.jo d.jents.length p.jc, .slice p.so d.ss.length p.sc, .slice p.io d.items.length p.ic, .int .i64 d.applied, .string d.stage, .int .i64 d.sat, .int .i64 d.sterm]) := hid (XD_16.out.on ba XD_16.out.lt)
  have Rw_17 : Hid (OwnAt WXh 3 (intCells zs) zs.length vw low hiw) := hid (Rw_16.out.on ba)
  have Xw_17 : Hid (BlockIs WXh (w3.heap.size) 53 [.int .i64 ix, .int .i64 tm, .slice vw zs.length cw, .string bd]) := hid (Xw_16.out.on ba Xw_16.out.lt)
  have Xx_17 : Hid (BlockIs WXh (w5.heap.size) 69 [.int .i64 d.node.id, .int .i64 d.node.term, .int .i64 d.node.vote, .int .i64 d.node.role, .int .i64 d.node.lead, .slice (some ⟨g5_x, 0, none⟩) d.node.conf.length d.node.conf.length, .int .i64 d.node.start, .int .i64 d.node.sterm, .slice (some ⟨g8_x, 0, none⟩) d.node.ents.length d.node.ents.length, .int .i64 d.node.commit, .int .i64 d.node.clock, .int .i64 d.node.limit, .slice (some ⟨g12_x, 0, none⟩) d.node.votes.length d.node.votes.length, .slice (some ⟨g13_x, 0, none⟩) d.node.peers.length d.node.peers.length, .slice fa_x d.files.length fb_x, .int .i64 d.jn, .int .i64 d.jtm, .int .i64 d.jvt, .int .i64 d.js, .int .i64 d.jt, .slice (some ⟨gj_x, 0, none⟩) d.jents.length d.jents.length, .slice (some ⟨gs_x, 0, none⟩) d.ss.length d.ss.length, .slice (some ⟨gi_x, 0, none⟩) d.items.length d.items.length, .int .i64 d.applied, .string d.stage, .int .i64 d.sat, .int .i64 d.sterm]) := hid (Xx_16.out.on ba Xx_16.out.lt)
  have Xg_17 : Hid (BlockIs WXh (w7.heap.size) 53 [.int .i64 ix, .int .i64 tm, .slice vg zs.length cg, .string bd]) := hid (Xg_16.out.on ba Xg_16.out.lt)
  have M_17 : Hid (IntsAt WXh vg (countFrom 1 zs.length)) := hid (M_16.out.on ba)
  have Rh_17 : Hid (OwnAt WXh 3 (intCells zs) zs.length vh loh hih) := hid (Rh_16.out.on ba)
  have B_17 : Hid (Below w.heap.size w WXh) := hid (below_via B_16.out ba)
  have O_17 : Hid (w18.heap.size ≤ WXh.heap.size) := hid ba.size
  clear XD_16 Rw_16 Xw_16 Xx_16 Xg_16 M_16 Rh_16 B_16
  have Xh_17 : Hid (BlockIs WXh (w18.heap.size) 53 [.int .i64 ix, .int .i64 tm, .slice vh zs.length ch, .string bd]) := hid hx
  have LXh : Hid (w18.heap.size < WXh.heap.size) := hid hx.lt
  clear ba hx
  have cXh0_17 := Xh_17.out.cell (j := 0) rfl
  have cXh1_17 := Xh_17.out.cell (j := 1) rfl
  have cXh2_17 := Xh_17.out.cell (j := 2) rfl
  have cXh3_17 := Xh_17.out.cell (j := 3) rfl
  have cXw0_17 := Xw_17.out.cell (j := 0) rfl
  have cXw1_17 := Xw_17.out.cell (j := 1) rfl
  have cXw2_17 := Xw_17.out.cell (j := 2) rfl
  have cXw3_17 := Xw_17.out.cell (j := 3) rfl
  go_wp2_with fail
  refine Calls.mono (eqSnap_same ix tm vh vw zs ch cw bd (by omega) _ Rh_17.out.ints Rw_17.out.ints) ?_
  rintro e w20 ⟨rfl, b_s⟩
  clear cXh0_17 cXh1_17 cXh2_17 cXh3_17 cXw0_17 cXw1_17 cXw2_17 cXw3_17
  have XD_18 : Hid (BlockIs w20 (w.heap.size) 50 [.int .i64 d.node.id, .int .i64 d.node.term, .int .i64 d.node.vote, .int .i64 d.node.role, .int .i64 d.node.lead, .slice p.node.co d.node.conf.length p.node.cc, .int .i64 d.node.start, .int .i64 d.node.sterm, .slice p.node.eo d.node.ents.length p.node.ec, .int .i64 d.node.commit, .int .i64 d.node.clock, .int .i64 d.node.limit, .slice p.node.vo d.node.votes.length p.node.vc, .slice p.node.po d.node.peers.length p.node.pc, .slice p.fo d.files.length p.fc, .int .i64 d.jn, .int .i64 d.jtm, .int .i64 d.jvt, .int .i64 d.js, .int .i64 d.jt, .slice p.jo d.jents.length p.jc, .slice p.so d.ss.length p.sc, .slice p.io d.items.length p.ic, .int .i64 d.applied, .string d.stage, .int .i64 d.sat, .int .i64 d.sterm]) := hid (XD_17.out.on b_s XD_17.out.lt)
  have Rw_18 : Hid (OwnAt w20 3 (intCells zs) zs.length vw low hiw) := hid (Rw_17.out.on b_s)
  have Xw_18 : Hid (BlockIs w20 (w3.heap.size) 53 [.int .i64 ix, .int .i64 tm, .slice vw zs.length cw, .string bd]) := hid (Xw_17.out.on b_s Xw_17.out.lt)
  have Xx_18 : Hid (BlockIs w20 (w5.heap.size) 69 [.int .i64 d.node.id, .int .i64 d.node.term, .int .i64 d.node.vote, .int .i64 d.node.role, .int .i64 d.node.lead, .slice (some ⟨g5_x, 0, none⟩) d.node.conf.length d.node.conf.length, .int .i64 d.node.start, .int .i64 d.node.sterm, .slice (some ⟨g8_x, 0, none⟩) d.node.ents.length d.node.ents.length, .int .i64 d.node.commit, .int .i64 d.node.clock, .int .i64 d.node.limit, .slice (some ⟨g12_x, 0, none⟩) d.node.votes.length d.node.votes.length, .slice (some ⟨g13_x, 0, none⟩) d.node.peers.length d.node.peers.length, .slice fa_x d.files.length fb_x, .int .i64 d.jn, .int .i64 d.jtm, .int .i64 d.jvt, .int .i64 d.js, .int .i64 d.jt, .slice (some ⟨gj_x, 0, none⟩) d.jents.length d.jents.length, .slice (some ⟨gs_x, 0, none⟩) d.ss.length d.ss.length, .slice (some ⟨gi_x, 0, none⟩) d.items.length d.items.length, .int .i64 d.applied, .string d.stage, .int .i64 d.sat, .int .i64 d.sterm]) := hid (Xx_17.out.on b_s Xx_17.out.lt)
  have Xg_18 : Hid (BlockIs w20 (w7.heap.size) 53 [.int .i64 ix, .int .i64 tm, .slice vg zs.length cg, .string bd]) := hid (Xg_17.out.on b_s Xg_17.out.lt)
  have M_18 : Hid (IntsAt w20 vg (countFrom 1 zs.length)) := hid (M_17.out.on b_s)
  have Rh_18 : Hid (OwnAt w20 3 (intCells zs) zs.length vh loh hih) := hid (Rh_17.out.on b_s)
  have Xh_18 : Hid (BlockIs w20 (w18.heap.size) 53 [.int .i64 ix, .int .i64 tm, .slice vh zs.length ch, .string bd]) := hid (Xh_17.out.on b_s Xh_17.out.lt)
  have B_18 : Hid (Below w.heap.size w w20) := hid (below_via B_17.out b_s)
  have O_18 : Hid (WXh.heap.size ≤ w20.heap.size) := hid b_s.size
  clear XD_17 Rw_17 Xw_17 Xx_17 Xg_17 M_17 Rh_17 Xh_17 B_17
  clear b_s
  have cXg0_18 := Xg_18.out.cell (j := 0) rfl
  have cXg1_18 := Xg_18.out.cell (j := 1) rfl
  have cXg2_18 := Xg_18.out.cell (j := 2) rfl
  have cXg3_18 := Xg_18.out.cell (j := 3) rfl
  go_wp2_with fail
  refine Calls.mono (CH.out _ M_18.out) ?_
  rintro e w21 ⟨rfl, b_s⟩
  clear cXg0_18 cXg1_18 cXg2_18 cXg3_18
  have XD_19 : Hid (BlockIs w21 (w.heap.size) 50 [.int .i64 d.node.id, .int .i64 d.node.term, .int .i64 d.node.vote, .int .i64 d.node.role, .int .i64 d.node.lead, .slice p.node.co d.node.conf.length p.node.cc, .int .i64 d.node.start, .int .i64 d.node.sterm, .slice p.node.eo d.node.ents.length p.node.ec, .int .i64 d.node.commit, .int .i64 d.node.clock, .int .i64 d.node.limit, .slice p.node.vo d.node.votes.length p.node.vc, .slice p.node.po d.node.peers.length p.node.pc, .slice p.fo d.files.length p.fc, .int .i64 d.jn, .int .i64 d.jtm, .int .i64 d.jvt, .int .i64 d.js, .int .i64 d.jt, .slice p.jo d.jents.length p.jc, .slice p.so d.ss.length p.sc, .slice p.io d.items.length p.ic, .int .i64 d.applied, .string d.stage, .int .i64 d.sat, .int .i64 d.sterm]) := hid (XD_18.out.on b_s XD_18.out.lt)
  have Rw_19 : Hid (OwnAt w21 3 (intCells zs) zs.length vw low hiw) := hid (Rw_18.out.on b_s)
  have Xw_19 : Hid (BlockIs w21 (w3.heap.size) 53 [.int .i64 ix, .int .i64 tm, .slice vw zs.length cw, .string bd]) := hid (Xw_18.out.on b_s Xw_18.out.lt)
  have Xx_19 : Hid (BlockIs w21 (w5.heap.size) 69 [.int .i64 d.node.id, .int .i64 d.node.term, .int .i64 d.node.vote, .int .i64 d.node.role, .int .i64 d.node.lead, .slice (some ⟨g5_x, 0, none⟩) d.node.conf.length d.node.conf.length, .int .i64 d.node.start, .int .i64 d.node.sterm, .slice (some ⟨g8_x, 0, none⟩) d.node.ents.length d.node.ents.length, .int .i64 d.node.commit, .int .i64 d.node.clock, .int .i64 d.node.limit, .slice (some ⟨g12_x, 0, none⟩) d.node.votes.length d.node.votes.length, .slice (some ⟨g13_x, 0, none⟩) d.node.peers.length d.node.peers.length, .slice fa_x d.files.length fb_x, .int .i64 d.jn, .int .i64 d.jtm, .int .i64 d.jvt, .int .i64 d.js, .int .i64 d.jt, .slice (some ⟨gj_x, 0, none⟩) d.jents.length d.jents.length, .slice (some ⟨gs_x, 0, none⟩) d.ss.length d.ss.length, .slice (some ⟨gi_x, 0, none⟩) d.items.length d.items.length, .int .i64 d.applied, .string d.stage, .int .i64 d.sat, .int .i64 d.sterm]) := hid (Xx_18.out.on b_s Xx_18.out.lt)
  have Xg_19 : Hid (BlockIs w21 (w7.heap.size) 53 [.int .i64 ix, .int .i64 tm, .slice vg zs.length cg, .string bd]) := hid (Xg_18.out.on b_s Xg_18.out.lt)
  have M_19 : Hid (IntsAt w21 vg (countFrom 1 zs.length)) := hid (M_18.out.on b_s)
  have Rh_19 : Hid (OwnAt w21 3 (intCells zs) zs.length vh loh hih) := hid (Rh_18.out.on b_s)
  have Xh_19 : Hid (BlockIs w21 (w18.heap.size) 53 [.int .i64 ix, .int .i64 tm, .slice vh zs.length ch, .string bd]) := hid (Xh_18.out.on b_s Xh_18.out.lt)
  have B_19 : Hid (Below w.heap.size w w21) := hid (below_via B_18.out b_s)
  have O_19 : Hid (w20.heap.size ≤ w21.heap.size) := hid b_s.size
  clear XD_18 Rw_18 Xw_18 Xx_18 Xg_18 M_18 Rh_18 Xh_18 B_18
  clear b_s
  go_wp2
  go_ret
  exact ⟨rfl, B_19.out⟩

theorem own : ownKnob Tryz.prog.godebug = none := by kernel_rfl
theorem laidOut : laidOutB Tryz.prog = true := by kernel_rfl
theorem rowed : varsRowed Tryz.prog Rows.fnExactSnapOfSpec.vars = true := by kernel_rfl
/-- what the row's list gives: what loop.example/g00232/impl.fourSteps holds -/
theorem table0 {W : World} (h : laidMetH Tryz.prog Rows.fnExactSnapOfRow.laid W) : Lib.TabIs Tryz.prog W "loop.example/g00232/impl.fourSteps" .u32 stepsTab := by
  have h1 : laidMet Tryz.prog Rows.fnExactSnapOfRow.laid W := h
  unfold Rows.fnExactSnapOfRow at h1
  have h2 := h1
  rw [show (Rows.laid_loop_example_g00232_impl_fourSteps : DataW Unit) = Lib.tabData .u32 stepsTab by kernel_rfl] at h2
  exact Lib.tabIs_of_head (show Tryz.prog.globalNamed "loop.example/g00232/impl.fourSteps" = some 1 by kernel_rfl) (show (Tryz.prog.globals[1]?).map (·.type) = some 253 by kernel_rfl) Tryz.underlying253 Tryz.underlying171 (show Tryz.prog.cellsOf 171 = 1 by kernel_rfl) (show Tryz.prog.cellsOf 253 = 16 by kernel_rfl) h2
set_option maxRecDepth 1000000 in
theorem contract (H : Type) (enc : TypeId × Value → H) (W : World) (base : Nat) (args : Array Value) (ds gs : List (DataW H)) (before : List MemPlace)
    (hval : ∀ (j : Nat) t v, Tryz.f4.params[j]? = some t → args[j]? = some v → Value.okWide Tryz.prog W .any base t v)
    (hW : DataW.Whole enc Tryz.prog Tryz.f4.params.toList Rows.fnExactSnapOfSpec.vars false W args.toList ds gs before) (hL : laidMetH Tryz.prog Rows.fnExactSnapOfRow.laid W) :
    Calls Tryz.prog 4 args W fun e W' => ∃ v, e = .returned v ∧ Rows.fnExactSnapOfSpec.post enc Tryz.prog Tryz.f4 false true false false W args v W' := by
  have hW' := hW
  obtain ⟨p, q, hA0, hV0, rfl, hfz, hnd⟩ := hW
  have hV : DataW.TrodVars enc Tryz.prog W (fun _ => true) Rows.fnExactSnapOfSpec.vars gs q := hV0
  have hA : DataW.TrodAll enc Tryz.prog W 0 (fun _ => true) true Tryz.f4.params.toList args.toList ds p := hA0
  rw [Tryz.params4] at hA hval
  obtain ⟨v0, vs0, d0, ds0, p0, q0, hargs0, rfl, rfl, h0, r0⟩ := trodAll_cons hA
  obtain ⟨rfl, rfl, rfl⟩ := trodAll_nil r0
  obtain rfl : args = #[v0] := by cases args; simp_all
  have k0 := h0
  have lt0 : ∀ x ∈ p0, x.block < W.heap.size := by obtain ⟨m, hm⟩ := k0; exact DataW.trod_lt m _ _ _ hm
  obtain ⟨a0, q0, rfl, hfd0, hat0⟩ := open_server (hval 0 50 v0 rfl rfl) h0
  clear hA0 hV0
  have hgs : gs.length = 1 := by
    have := hV
    clear hV hW' hL
    match gs, this with
    | [_], _ => rfl
  match gs, hgs, hV, hW' with
  | [g0], _, hV, hW' =>
    refine (walk a0 hfd0 q0 W hat0 (table0 hL)).mono fun e W' ⟨he, bel⟩ => ?_
    subst he
    exact ⟨_, rfl, _, _, _, [], _, _, hW', trodAll_mk1 (shut_bool Tryz.underlying4 _), trodAll_cons_mk (Below.trod laidOut (by kernel_rfl) (of_decide_eq_true (by kernel_rfl)) k0 bel lt0) (trodAll_mk0), Below.trodVars laidOut bel rowed hV, bel.frame _, fun h => by cases h⟩

def put (cs : Array Value) : Obj → Obj
  | .cells _ t frozen => .cells cs t frozen
  | o => o

/-- a world for the witness: the tables hold what their initialisers lay -/
def laidWorld (w : World) : World := { w with heap := (w.heap.modify 1 (put (([0, 1166650509, 2333301018, 3466261911, 3189058079, 4221339282, 889615109, 1888477064, 3558460437, 2442158232, 1594529039, 444807554, 1779230218, 797264519, 3776954128, 2761298845] : List Int).map (Value.int .u32)).toArray)) }
theorem laid_met (os : Os) : laidMet Tryz.prog Rows.fnExactSnapOfRow.laid ((laidWorld (World.holding Tryz.prog os ⟨#[], #[], []⟩)).forCall (fun _ _ => 0) ⟨#[], #[.agg #[.int .i64 0, .int .i64 0, .int .i64 0, .int .i64 0, .int .i64 0, .slice none 0 0, .int .i64 0, .int .i64 0, .slice none 0 0, .int .i64 0, .int .i64 0, .int .i64 0, .slice none 0 0, .slice none 0 0, .slice none 0 0, .int .i64 0, .int .i64 0, .int .i64 0, .int .i64 0, .int .i64 0, .slice none 0 0, .slice none 0 0, .slice none 0 0, .int .i64 0, .string ByteArray.empty, .int .i64 0, .int .i64 0]], []⟩).memory :=
  laidMet_of_run' 8 (by kernel_rfl) (by kernel_rfl)
theorem reads (os : Os) {H : Type} (enc : TypeId × Value → H) : ∃ places, DataW.whole enc Tryz.prog ((laidWorld (World.holding Tryz.prog os ⟨#[], #[], []⟩)).forCall (fun _ _ => 0) ⟨#[], #[.agg #[.int .i64 0, .int .i64 0, .int .i64 0, .int .i64 0, .int .i64 0, .slice none 0 0, .int .i64 0, .int .i64 0, .slice none 0 0, .int .i64 0, .int .i64 0, .int .i64 0, .slice none 0 0, .slice none 0 0, .slice none 0 0, .int .i64 0, .int .i64 0, .int .i64 0, .int .i64 0, .int .i64 0, .slice none 0 0, .slice none 0 0, .slice none 0 0, .int .i64 0, .string ByteArray.empty, .int .i64 0, .int .i64 0]], []⟩).memory Tryz.f4.params.toList Rows.fnExactSnapOfSpec.vars false #[Value.agg #[.int .i64 0, .int .i64 0, .int .i64 0, .int .i64 0, .int .i64 0, .slice none 0 0, .int .i64 0, .int .i64 0, .slice none 0 0, .int .i64 0, .int .i64 0, .int .i64 0, .slice none 0 0, .slice none 0 0, .slice none 0 0, .int .i64 0, .int .i64 0, .int .i64 0, .int .i64 0, .int .i64 0, .slice none 0 0, .slice none 0 0, .slice none 0 0, .int .i64 0, .string ByteArray.empty, .int .i64 0, .int .i64 0]].toList 8 = some ([.agg [.agg [.lit (.int .i64 0), .lit (.int .i64 0), .lit (.int .i64 0), .lit (.int .i64 0), .lit (.int .i64 0), .nil, .agg [.lit (.int .i64 0), .lit (.int .i64 0), .nil], .lit (.int .i64 0), .lit (.int .i64 0), .lit (.int .i64 0), .nil, .nil], .agg [.nil], .agg [.lit (.int .i64 0), .lit (.int .i64 0), .lit (.int .i64 0), .agg [.lit (.int .i64 0), .lit (.int .i64 0), .nil]], .agg [.nil, .nil], .lit (.int .i64 0), .lit (.string []), .lit (.int .i64 0), .lit (.int .i64 0)]], [Rows.laid_loop_example_g00232_impl_fourSteps], places) :=
  ⟨(List.range 16).map (MemPlace.cell 1), by kernel_rfl⟩

set_option maxRecDepth 1000000 in
theorem lifted (os : Os) (started : os.Started) (H : Type) (enc : TypeId × Value → H) (F : Stop.Interp) :
    ReturnsInHanded {} Tryz.checked os 4 .any ((OpenSpec.ofChange Rows.fnExactSnapOfSpec).preRow enc Tryz.prog Tryz.f4 Rows.fnExactSnapOfRow.domain false Rows.fnExactSnapOfRow.laid) (((OpenSpec.ofChange Rows.fnExactSnapOfSpec).at F).post enc Tryz.prog Tryz.f4 false true false false) := by
  obtain ⟨places, hx⟩ := reads os enc
  refine returnsInHanded_of_row (C := Tryz.checked) (s := OpenSpec.ofChange Rows.fnExactSnapOfSpec) own started (by kernel_rfl) Tryz.func4
    (witness_row_at (enc := enc) (C := Tryz.checked) false (laidWorld (World.holding Tryz.prog os ⟨#[], #[], []⟩)) #[.agg #[.int .i64 0, .int .i64 0, .int .i64 0, .int .i64 0, .int .i64 0, .slice none 0 0, .int .i64 0, .int .i64 0, .slice none 0 0, .int .i64 0, .int .i64 0, .int .i64 0, .slice none 0 0, .slice none 0 0, .slice none 0 0, .int .i64 0, .int .i64 0, .int .i64 0, .int .i64 0, .int .i64 0, .slice none 0 0, .slice none 0 0, .slice none 0 0, .int .i64 0, .string ByteArray.empty, .int .i64 0, .int .i64 0]] rfl (by kernel_rfl) (by kernel_rfl) (by kernel_rfl)
      (OpenSpec.preRow_of_cond 8 hx (by kernel_rfl) (fun k hk => by cases hk) (by kernel_rfl) (laid_met os))) ?_
  intro W base args ds gs before hval hW _ _ _ hL _ _
  exact contract H enc W base args ds gs before hval hW hL

theorem said : Rows.FnExactSnapOfSaid :=
  OpenClaim.holds_of_cond 4 Tryz.f4 rfl rfl rfl rfl rfl rfl rfl ⟨rfl, rfl, rfl, rfl, rfl⟩ rfl rfl rfl rfl rfl (by kernel_rfl) Tryz.func4 (by kernel_rfl)
    (of_decide_eq_true (by kernel_rfl)) (by unfold Func.isWrapper; first | (rw [if_pos (by decide +kernel)]; kernel_rfl) | (rw [if_neg (by decide +kernel)]; exact ⟨rfl, rfl⟩))
    (fun os started H enc _ F => by rw [OpenClaim.pre_eq_preRow]; exact lifted os started H enc F)

theorem plain (f : FuncId) (fn : Func) (hf : Tryz.pinned.checked.prog.funcNamed "loop.example/g00232/laws.FnExactSnapOf" = some f) (hfn : Tryz.pinned.checked.prog.funcs[f]? = some fn) :
    true = Tryz.pinned.checked.prog.looks [] ∧ ∀ (j : Nat) t, fn.params[j]? = some t → Tryz.pinned.checked.prog.wantsStandIn t = false := by
  obtain rfl : f = 4 := Option.some.inj ((show Tryz.prog.funcNamed "loop.example/g00232/laws.FnExactSnapOf" = some 4 by kernel_rfl).symm.trans hf) |>.symm
  obtain rfl : fn = Tryz.f4 := (Option.some.inj (Tryz.func4.symm.trans hfn)).symm
  refine ⟨by kernel_rfl, fun j t ht => ?_⟩
  rw [Tryz.params4] at ht
  obtain rfl : t = 50 := by simpa using Array.mem_of_getElem? ht
  exact (show Tryz.prog.wantsStandIn 50 = false by kernel_rfl)

theorem card : Rows.FnExactSnapOfCardSaid :=
  Claim7.holds_tied_plain_at .later [] _ _ _ _ said (fun _ h => by cases h) (by kernel_rfl) (fun _ h => by cases h) fnExactSnapOf_row_tie rfl ⟨rfl, rfl⟩ (by kernel_rfl) rfl plain (by kernel_rfl)
end Go.Proofs.YtihgkocfgjihhaaGreatDoor.fnExactSnapOf
