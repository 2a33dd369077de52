/-
  The walks of impl.SnapOf and spec.SnapOf.
-/
import Derived.Test.YtihgkocfgjihhaaGreatDoorJoint21
import Derived.Test.YtihgkocfgjihhaaGreatDoorJoint47
namespace Go.Proofs.YtihgkocfgjihhaaGreatDoor
open Go.ChangeShapes Go.WideShapes Go.RowKit Go.Deep

set_option maxRecDepth 1000000 in
set_option maxHeartbeats 2000000 in
theorem implSnapOf_o (d : ServD) (p : ServL) (h2 : d.files.length ≤ 1048576) (h3 : ∀ f ∈ d.files, f.text.size ≤ 1048576) (w : World) (ha : FilesAt w p.fo d.files) (ht : Steps w) :
    Calls Tryz.prog 16 #[.agg #[.int .i64 d.node.id, .int .i64 d.node.term, .int .i64 d.node.vote, .int .i64 d.node.role, .int .i64 d.node.lead, .slice p.node.co d.node.conf.length p.node.cc, .int .i64 d.node.start, .int .i64 d.node.sterm, .slice p.node.eo d.node.ents.length p.node.ec, .int .i64 d.node.commit, .int .i64 d.node.clock, .int .i64 d.node.limit, .slice p.node.vo d.node.votes.length p.node.vc, .slice p.node.po d.node.peers.length p.node.pc, .slice p.fo d.files.length p.fc, .int .i64 d.jn, .int .i64 d.jtm, .int .i64 d.jvt, .int .i64 d.js, .int .i64 d.jt, .slice p.jo d.jents.length p.jc, .slice p.so d.ss.length p.sc, .slice p.io d.items.length p.ic, .int .i64 d.applied, .string d.stage, .int .i64 d.sat, .int .i64 d.sterm]] w fun e w' => ∃ va vc, e = .returned (.tuple #[snapV (snapIx (newestSnap d.files)) (snapTm (newestSnap d.files)) (.slice va (snapZs (newestSnap d.files)).length vc) (snapBd (newestSnap d.files)), .bool (newestSnap d.files).isSome]) ∧ OwnAt w' 3 (intCells (snapZs (newestSnap d.files))) (snapZs (newestSnap d.files)).length va w.heap.size w'.heap.size ∧ Below w.heap.size w w' := by
  have HT := hid ht
  have HA := hid ha
  clear ha ht
  have CQ' := fun W h t => implNewest_o p.fo d.files p.fc h2 h3 W h t
  obtain ⟨ix, hix⟩ : ∃ x, snapIx (newestSnap d.files) = x := ⟨_, rfl⟩
  obtain ⟨tm, htm⟩ : ∃ x, snapTm (newestSnap d.files) = x := ⟨_, rfl⟩
  obtain ⟨zs, hzs⟩ : ∃ x, snapZs (newestSnap d.files) = x := ⟨_, rfl⟩
  obtain ⟨bd, hbd⟩ : ∃ x, snapBd (newestSnap d.files) = x := ⟨_, rfl⟩
  obtain ⟨ok, hok⟩ : ∃ x, (newestSnap d.files).isSome = x := ⟨_, rfl⟩
  simp only [hix, htm, hzs, hbd, hok] at CQ' ⊢
  have CQ := hid CQ'
  clear CQ' hix htm hzs hbd hok
  have be := below_more (below_more (Below.refl w.heap.size w) (.cells #[.int .i64 d.node.id, .int .i64 d.node.term, .int .i64 d.node.vote, .int .i64 d.node.role, .int .i64 d.node.lead, .slice p.node.co d.node.conf.length p.node.cc, .int .i64 d.node.start, .int .i64 d.node.sterm, .slice p.node.eo d.node.ents.length p.node.ec, .int .i64 d.node.commit, .int .i64 d.node.clock, .int .i64 d.node.limit, .slice p.node.vo d.node.votes.length p.node.vc, .slice p.node.po d.node.peers.length p.node.pc, .slice p.fo d.files.length p.fc, .int .i64 d.jn, .int .i64 d.jtm, .int .i64 d.jvt, .int .i64 d.js, .int .i64 d.jt, .slice p.jo d.jents.length p.jc, .slice p.so d.ss.length p.sc, .slice p.io d.items.length p.ic, .int .i64 d.applied, .string d.stage, .int .i64 d.sat, .int .i64 d.sterm] 69)) (.cells #[.int .i64 0, .int .i64 0, .slice none 0 0, .string ⟨#[]⟩] 53)
  have x1 : BlockIs ((w.alloc (.cells #[.int .i64 d.node.id, .int .i64 d.node.term, .int .i64 d.node.vote, .int .i64 d.node.role, .int .i64 d.node.lead, .slice p.node.co d.node.conf.length p.node.cc, .int .i64 d.node.start, .int .i64 d.node.sterm, .slice p.node.eo d.node.ents.length p.node.ec, .int .i64 d.node.commit, .int .i64 d.node.clock, .int .i64 d.node.limit, .slice p.node.vo d.node.votes.length p.node.vc, .slice p.node.po d.node.peers.length p.node.pc, .slice p.fo d.files.length p.fc, .int .i64 d.jn, .int .i64 d.jtm, .int .i64 d.jvt, .int .i64 d.js, .int .i64 d.jt, .slice p.jo d.jents.length p.jc, .slice p.so d.ss.length p.sc, .slice p.io d.items.length p.ic, .int .i64 d.applied, .string d.stage, .int .i64 d.sat, .int .i64 d.sterm] 69)).alloc (.cells #[.int .i64 0, .int .i64 0, .slice none 0 0, .string ⟨#[]⟩] 53)) w.heap.size 69 [.int .i64 d.node.id, .int .i64 d.node.term, .int .i64 d.node.vote, .int .i64 d.node.role, .int .i64 d.node.lead, .slice p.node.co d.node.conf.length p.node.cc, .int .i64 d.node.start, .int .i64 d.node.sterm, .slice p.node.eo d.node.ents.length p.node.ec, .int .i64 d.node.commit, .int .i64 d.node.clock, .int .i64 d.node.limit, .slice p.node.vo d.node.votes.length p.node.vc, .slice p.node.po d.node.peers.length p.node.pc, .slice p.fo d.files.length p.fc, .int .i64 d.jn, .int .i64 d.jtm, .int .i64 d.jvt, .int .i64 d.js, .int .i64 d.jt, .slice p.jo d.jents.length p.jc, .slice p.so d.ss.length p.sc, .slice p.io d.items.length p.ic, .int .i64 d.applied, .string d.stage, .int .i64 d.sat, .int .i64 d.sterm] := by
    show ((w.heap.push _).push _)[w.heap.size]? = some _
    rw [Array.getElem?_push, if_neg (by simp), Array.getElem?_push, if_pos rfl]
  have x2 : BlockIs ((w.alloc (.cells #[.int .i64 d.node.id, .int .i64 d.node.term, .int .i64 d.node.vote, .int .i64 d.node.role, .int .i64 d.node.lead, .slice p.node.co d.node.conf.length p.node.cc, .int .i64 d.node.start, .int .i64 d.node.sterm, .slice p.node.eo d.node.ents.length p.node.ec, .int .i64 d.node.commit, .int .i64 d.node.clock, .int .i64 d.node.limit, .slice p.node.vo d.node.votes.length p.node.vc, .slice p.node.po d.node.peers.length p.node.pc, .slice p.fo d.files.length p.fc, .int .i64 d.jn, .int .i64 d.jtm, .int .i64 d.jvt, .int .i64 d.js, .int .i64 d.jt, .slice p.jo d.jents.length p.jc, .slice p.so d.ss.length p.sc, .slice p.io d.items.length p.ic, .int .i64 d.applied, .string d.stage, .int .i64 d.sat, .int .i64 d.sterm] 69)).alloc (.cells #[.int .i64 0, .int .i64 0, .slice none 0 0, .string ⟨#[]⟩] 53)) (w.heap.size + 1) 53 [.int .i64 0, .int .i64 0, .slice none 0 0, .string ⟨#[]⟩] := by
    show ((w.heap.push _).push _)[w.heap.size + 1]? = some _
    rw [Array.getElem?_push, if_pos (by simp)]
  obtain ⟨W0, hW0⟩ : ∃ W, (w.alloc (.cells #[.int .i64 d.node.id, .int .i64 d.node.term, .int .i64 d.node.vote, .int .i64 d.node.role, .int .i64 d.node.lead, .slice p.node.co d.node.conf.length p.node.cc, .int .i64 d.node.start, .int .i64 d.node.sterm, .slice p.node.eo d.node.ents.length p.node.ec, .int .i64 d.node.commit, .int .i64 d.node.clock, .int .i64 d.node.limit, .slice p.node.vo d.node.votes.length p.node.vc, .slice p.node.po d.node.peers.length p.node.pc, .slice p.fo d.files.length p.fc, .int .i64 d.jn, .int .i64 d.jtm, .int .i64 d.jvt, .int .i64 d.js, .int .i64 d.jt, .slice p.jo d.jents.length p.jc, .slice p.so d.ss.length p.sc, .slice p.io d.items.length p.ic, .int .i64 d.applied, .string d.stage, .int .i64 d.sat, .int .i64 d.sterm] 69)).alloc (.cells #[.int .i64 0, .int .i64 0, .slice none 0 0, .string ⟨#[]⟩] 53) = W := ⟨_, rfl⟩
  rw [hW0] at be x1 x2
  have Xa_0 := hid x1
  have Xr_0 := hid x2
  have B_0 := hid be
  clear be x1 x2
  have y14_1 := Xa_0.out.cell (j := 14) rfl
  go_enter Tryz.func16, Tryz.ntmps16
  go_wp2_with fail
  refine Calls.mono (CQ.out _ (HA.out.on B_0.out) (steps_on HT.out B_0.out)) ?_
  rintro e w1 ⟨va, vc, rfl, hO, b_s⟩
  clear CQ hW0 y14_1
  have lr : w.heap.size + 1 < W0.heap.size := Xr_0.out.lt
  have Xa_1 : Hid (BlockIs w1 (w.heap.size) 69 [.int .i64 d.node.id, .int .i64 d.node.term, .int .i64 d.node.vote, .int .i64 d.node.role, .int .i64 d.node.lead, .slice p.node.co d.node.conf.length p.node.cc, .int .i64 d.node.start, .int .i64 d.node.sterm, .slice p.node.eo d.node.ents.length p.node.ec, .int .i64 d.node.commit, .int .i64 d.node.clock, .int .i64 d.node.limit, .slice p.node.vo d.node.votes.length p.node.vc, .slice p.node.po d.node.peers.length p.node.pc, .slice p.fo d.files.length p.fc, .int .i64 d.jn, .int .i64 d.jtm, .int .i64 d.jvt, .int .i64 d.js, .int .i64 d.jt, .slice p.jo d.jents.length p.jc, .slice p.so d.ss.length p.sc, .slice p.io d.items.length p.ic, .int .i64 d.applied, .string d.stage, .int .i64 d.sat, .int .i64 d.sterm]) := hid (Xa_0.out.on b_s Xa_0.out.lt)
  have Xr_1 : Hid (BlockIs w1 (w.heap.size + 1) 53 [.int .i64 0, .int .i64 0, .slice none 0 0, .string ⟨#[]⟩]) := hid (Xr_0.out.on b_s Xr_0.out.lt)
  have B_1 : Hid (Below w.heap.size w w1) := hid (below_via B_0.out b_s)
  clear Xa_0 Xr_0 B_0
  clear b_s
  obtain ⟨lo1, hlo1⟩ : ∃ b, W0.heap.size = b := ⟨_, rfl⟩
  obtain ⟨hi1, hhi1⟩ : ∃ b, w1.heap.size = b := ⟨_, rfl⟩
  rw [hlo1, hhi1] at hO
  rw [hlo1] at lr
  clear hlo1
  have Oz_1 := hid hO
  clear hO
  have o0 := Xr_1.out.cell (j := 0) rfl
  have f0 := Xr_1.out.thaw 0
  obtain ⟨P0, hP0⟩ : ∃ V, w1.setCell ⟨w.heap.size + 1, 0, none⟩ (.int .i64 ix) = V := ⟨_, rfl⟩
  have Xa_2 : Hid (BlockIs P0 (w.heap.size) 69 [.int .i64 d.node.id, .int .i64 d.node.term, .int .i64 d.node.vote, .int .i64 d.node.role, .int .i64 d.node.lead, .slice p.node.co d.node.conf.length p.node.cc, .int .i64 d.node.start, .int .i64 d.node.sterm, .slice p.node.eo d.node.ents.length p.node.ec, .int .i64 d.node.commit, .int .i64 d.node.clock, .int .i64 d.node.limit, .slice p.node.vo d.node.votes.length p.node.vc, .slice p.node.po d.node.peers.length p.node.pc, .slice p.fo d.files.length p.fc, .int .i64 d.jn, .int .i64 d.jtm, .int .i64 d.jvt, .int .i64 d.js, .int .i64 d.jt, .slice p.jo d.jents.length p.jc, .slice p.so d.ss.length p.sc, .slice p.io d.items.length p.ic, .int .i64 d.applied, .string d.stage, .int .i64 d.sat, .int .i64 d.sterm]) := hid ((by rw [← hP0]; exact Xa_1.out.far (by omega) _))
  have Xr_2 : Hid (BlockIs P0 (w.heap.size + 1) 53 [.int .i64 ix, .int .i64 0, .slice none 0 0, .string ⟨#[]⟩]) := hid ((by rw [← hP0]; exact Xr_1.out.set 0 _))
  have Oz_2 : Hid (OwnAt P0 3 (intCells zs) zs.length va lo1 hi1) := hid ((by rw [← hP0]; exact own_setS Oz_1.out (by omega) _))
  have B_2 : Hid (Below w.heap.size w P0) := hid ((by rw [← hP0]; exact B_1.out.setCell (by show _ ≤ w.heap.size + 1; omega) _))
  clear Xa_1 Xr_1 Oz_1 B_1
  have o1 := Xr_2.out.cell (j := 1) rfl
  have f1 := Xr_2.out.thaw 1
  obtain ⟨P1, hP1⟩ : ∃ V, P0.setCell ⟨w.heap.size + 1, 1, none⟩ (.int .i64 tm) = V := ⟨_, rfl⟩
  have Xa_3 : Hid (BlockIs P1 (w.heap.size) 69 [.int .i64 d.node.id, .int .i64 d.node.term, .int .i64 d.node.vote, .int .i64 d.node.role, .int .i64 d.node.lead, .slice p.node.co d.node.conf.length p.node.cc, .int .i64 d.node.start, .int .i64 d.node.sterm, .slice p.node.eo d.node.ents.length p.node.ec, .int .i64 d.node.commit, .int .i64 d.node.clock, .int .i64 d.node.limit, .slice p.node.vo d.node.votes.length p.node.vc, .slice p.node.po d.node.peers.length p.node.pc, .slice p.fo d.files.length p.fc, .int .i64 d.jn, .int .i64 d.jtm, .int .i64 d.jvt, .int .i64 d.js, .int .i64 d.jt, .slice p.jo d.jents.length p.jc, .slice p.so d.ss.length p.sc, .slice p.io d.items.length p.ic, .int .i64 d.applied, .string d.stage, .int .i64 d.sat, .int .i64 d.sterm]) := hid ((by rw [← hP1]; exact Xa_2.out.far (by omega) _))
  have Xr_3 : Hid (BlockIs P1 (w.heap.size + 1) 53 [.int .i64 ix, .int .i64 tm, .slice none 0 0, .string ⟨#[]⟩]) := hid ((by rw [← hP1]; exact Xr_2.out.set 1 _))
  have Oz_3 : Hid (OwnAt P1 3 (intCells zs) zs.length va lo1 hi1) := hid ((by rw [← hP1]; exact own_setS Oz_2.out (by omega) _))
  have B_3 : Hid (Below w.heap.size w P1) := hid ((by rw [← hP1]; exact B_2.out.setCell (by show _ ≤ w.heap.size + 1; omega) _))
  clear Xa_2 Xr_2 Oz_2 B_2
  have o2 := Xr_3.out.cell (j := 2) rfl
  have f2 := Xr_3.out.thaw 2
  obtain ⟨P2, hP2⟩ : ∃ V, P1.setCell ⟨w.heap.size + 1, 2, none⟩ (.slice va zs.length vc) = V := ⟨_, rfl⟩
  have Xa_4 : Hid (BlockIs P2 (w.heap.size) 69 [.int .i64 d.node.id, .int .i64 d.node.term, .int .i64 d.node.vote, .int .i64 d.node.role, .int .i64 d.node.lead, .slice p.node.co d.node.conf.length p.node.cc, .int .i64 d.node.start, .int .i64 d.node.sterm, .slice p.node.eo d.node.ents.length p.node.ec, .int .i64 d.node.commit, .int .i64 d.node.clock, .int .i64 d.node.limit, .slice p.node.vo d.node.votes.length p.node.vc, .slice p.node.po d.node.peers.length p.node.pc, .slice p.fo d.files.length p.fc, .int .i64 d.jn, .int .i64 d.jtm, .int .i64 d.jvt, .int .i64 d.js, .int .i64 d.jt, .slice p.jo d.jents.length p.jc, .slice p.so d.ss.length p.sc, .slice p.io d.items.length p.ic, .int .i64 d.applied, .string d.stage, .int .i64 d.sat, .int .i64 d.sterm]) := hid ((by rw [← hP2]; exact Xa_3.out.far (by omega) _))
  have Xr_4 : Hid (BlockIs P2 (w.heap.size + 1) 53 [.int .i64 ix, .int .i64 tm, .slice va zs.length vc, .string ⟨#[]⟩]) := hid ((by rw [← hP2]; exact Xr_3.out.set 2 _))
  have Oz_4 : Hid (OwnAt P2 3 (intCells zs) zs.length va lo1 hi1) := hid ((by rw [← hP2]; exact own_setS Oz_3.out (by omega) _))
  have B_4 : Hid (Below w.heap.size w P2) := hid ((by rw [← hP2]; exact B_3.out.setCell (by show _ ≤ w.heap.size + 1; omega) _))
  clear Xa_3 Xr_3 Oz_3 B_3
  have o3 := Xr_4.out.cell (j := 3) rfl
  have f3 := Xr_4.out.thaw 3
  obtain ⟨P3, hP3⟩ : ∃ V, P2.setCell ⟨w.heap.size + 1, 3, none⟩ (.string bd) = V := ⟨_, rfl⟩
  have Xa_5 : Hid (BlockIs P3 (w.heap.size) 69 [.int .i64 d.node.id, .int .i64 d.node.term, .int .i64 d.node.vote, .int .i64 d.node.role, .int .i64 d.node.lead, .slice p.node.co d.node.conf.length p.node.cc, .int .i64 d.node.start, .int .i64 d.node.sterm, .slice p.node.eo d.node.ents.length p.node.ec, .int .i64 d.node.commit, .int .i64 d.node.clock, .int .i64 d.node.limit, .slice p.node.vo d.node.votes.length p.node.vc, .slice p.node.po d.node.peers.length p.node.pc, .slice p.fo d.files.length p.fc, .int .i64 d.jn, .int .i64 d.jtm, .int .i64 d.jvt, .int .i64 d.js, .int .i64 d.jt, .slice p.jo d.jents.length p.jc, .slice p.so d.ss.length p.sc, .slice p.io d.items.length p.ic, .int .i64 d.applied, .string d.stage, .int .i64 d.sat, .int .i64 d.sterm]) := hid ((by rw [← hP3]; exact Xa_4.out.far (by omega) _))
  have Xr_5 : Hid (BlockIs P3 (w.heap.size + 1) 53 [.int .i64 ix, .int .i64 tm, .slice va zs.length vc, .string bd]) := hid ((by rw [← hP3]; exact Xr_4.out.set 3 _))
  have Oz_5 : Hid (OwnAt P3 3 (intCells zs) zs.length va lo1 hi1) := hid ((by rw [← hP3]; exact own_setS Oz_4.out (by omega) _))
  have B_5 : Hid (Below w.heap.size w P3) := hid ((by rw [← hP3]; exact B_4.out.setCell (by show _ ≤ w.heap.size + 1; omega) _))
  clear Xa_4 Xr_4 Oz_4 B_4
  have hsz : hi1 = P3.heap.size := by rw [← hhi1]; rw [← hP3, World.size_setCell]; rw [← hP2, World.size_setCell]; rw [← hP1, World.size_setCell]; rw [← hP0, World.size_setCell]
  have HO := hid (Oz_5.out.down (lo' := w.heap.size) (hi' := P3.heap.size) (by omega) (by omega))
  clear hhi1 hsz
  have r0 := Xr_5.out.cell (j := 0) rfl
  have r1 := Xr_5.out.cell (j := 1) rfl
  have r2 := Xr_5.out.cell (j := 2) rfl
  have r3 := Xr_5.out.cell (j := 3) rfl
  go_wp2
  refine bodyPost_ret (v := .tuple #[.agg #[.int .i64 ix, .int .i64 tm, .slice va zs.length vc, .string bd], .bool ok]) (by simp [results, Tryz.results16, go_sem, r0, r1, r2, r3]) rfl ?_
  exact ⟨va, vc, rfl, HO.out, B_5.out⟩
set_option maxRecDepth 1000000 in
set_option maxHeartbeats 2000000 in
theorem specSnapOf_o (d : ServD) (p : ServL) (h2 : d.files.length ≤ 1048576) (h3 : ∀ f ∈ d.files, f.text.size ≤ 1048576) (h4 : ∀ f ∈ d.files, f.name.size ≤ 1048576) (w : World) (ha : FilesAt w p.fo d.files) :
    Calls Tryz.prog 14 #[.agg #[.int .i64 d.node.id, .int .i64 d.node.term, .int .i64 d.node.vote, .int .i64 d.node.role, .int .i64 d.node.lead, .slice p.node.co d.node.conf.length p.node.cc, .int .i64 d.node.start, .int .i64 d.node.sterm, .slice p.node.eo d.node.ents.length p.node.ec, .int .i64 d.node.commit, .int .i64 d.node.clock, .int .i64 d.node.limit, .slice p.node.vo d.node.votes.length p.node.vc, .slice p.node.po d.node.peers.length p.node.pc, .slice p.fo d.files.length p.fc, .int .i64 d.jn, .int .i64 d.jtm, .int .i64 d.jvt, .int .i64 d.js, .int .i64 d.jt, .slice p.jo d.jents.length p.jc, .slice p.so d.ss.length p.sc, .slice p.io d.items.length p.ic, .int .i64 d.applied, .string d.stage, .int .i64 d.sat, .int .i64 d.sterm]] w fun e w' => ∃ va vc, e = .returned (.tuple #[snapV (snapIx (newestSnap d.files)) (snapTm (newestSnap d.files)) (.slice va (snapZs (newestSnap d.files)).length vc) (snapBd (newestSnap d.files)), .bool (newestSnap d.files).isSome]) ∧ OwnAt w' 3 (intCells (snapZs (newestSnap d.files))) (snapZs (newestSnap d.files)).length va w.heap.size w'.heap.size ∧ Below w.heap.size w w' := by
  have HA := hid ha
  clear ha
  have CQ' := fun W h => specNewest_o p.fo d.files p.fc h2 h3 h4 W h
  obtain ⟨ix, hix⟩ : ∃ x, snapIx (newestSnap d.files) = x := ⟨_, rfl⟩
  obtain ⟨tm, htm⟩ : ∃ x, snapTm (newestSnap d.files) = x := ⟨_, rfl⟩
  obtain ⟨zs, hzs⟩ : ∃ x, snapZs (newestSnap d.files) = x := ⟨_, rfl⟩
  obtain ⟨bd, hbd⟩ : ∃ x, snapBd (newestSnap d.files) = x := ⟨_, rfl⟩
  obtain ⟨ok, hok⟩ : ∃ x, (newestSnap d.files).isSome = x := ⟨_, rfl⟩
  simp only [hix, htm, hzs, hbd, hok] at CQ' ⊢
  have CQ := hid CQ'
  clear CQ' hix htm hzs hbd hok
  have be := below_more (below_more (Below.refl w.heap.size w) (.cells #[.int .i64 d.node.id, .int .i64 d.node.term, .int .i64 d.node.vote, .int .i64 d.node.role, .int .i64 d.node.lead, .slice p.node.co d.node.conf.length p.node.cc, .int .i64 d.node.start, .int .i64 d.node.sterm, .slice p.node.eo d.node.ents.length p.node.ec, .int .i64 d.node.commit, .int .i64 d.node.clock, .int .i64 d.node.limit, .slice p.node.vo d.node.votes.length p.node.vc, .slice p.node.po d.node.peers.length p.node.pc, .slice p.fo d.files.length p.fc, .int .i64 d.jn, .int .i64 d.jtm, .int .i64 d.jvt, .int .i64 d.js, .int .i64 d.jt, .slice p.jo d.jents.length p.jc, .slice p.so d.ss.length p.sc, .slice p.io d.items.length p.ic, .int .i64 d.applied, .string d.stage, .int .i64 d.sat, .int .i64 d.sterm] 69)) (.cells #[.int .i64 0, .int .i64 0, .slice none 0 0, .string ⟨#[]⟩] 53)
  have x1 : BlockIs ((w.alloc (.cells #[.int .i64 d.node.id, .int .i64 d.node.term, .int .i64 d.node.vote, .int .i64 d.node.role, .int .i64 d.node.lead, .slice p.node.co d.node.conf.length p.node.cc, .int .i64 d.node.start, .int .i64 d.node.sterm, .slice p.node.eo d.node.ents.length p.node.ec, .int .i64 d.node.commit, .int .i64 d.node.clock, .int .i64 d.node.limit, .slice p.node.vo d.node.votes.length p.node.vc, .slice p.node.po d.node.peers.length p.node.pc, .slice p.fo d.files.length p.fc, .int .i64 d.jn, .int .i64 d.jtm, .int .i64 d.jvt, .int .i64 d.js, .int .i64 d.jt, .slice p.jo d.jents.length p.jc, .slice p.so d.ss.length p.sc, .slice p.io d.items.length p.ic, .int .i64 d.applied, .string d.stage, .int .i64 d.sat, .int .i64 d.sterm] 69)).alloc (.cells #[.int .i64 0, .int .i64 0, .slice none 0 0, .string ⟨#[]⟩] 53)) w.heap.size 69 [.int .i64 d.node.id, .int .i64 d.node.term, .int .i64 d.node.vote, .int .i64 d.node.role, .int .i64 d.node.lead, .slice p.node.co d.node.conf.length p.node.cc, .int .i64 d.node.start, .int .i64 d.node.sterm, .slice p.node.eo d.node.ents.length p.node.ec, .int .i64 d.node.commit, .int .i64 d.node.clock, .int .i64 d.node.limit, .slice p.node.vo d.node.votes.length p.node.vc, .slice p.node.po d.node.peers.length p.node.pc, .slice p.fo d.files.length p.fc, .int .i64 d.jn, .int .i64 d.jtm, .int .i64 d.jvt, .int .i64 d.js, .int .i64 d.jt, .slice p.jo d.jents.length p.jc, .slice p.so d.ss.length p.sc, .slice p.io d.items.length p.ic, .int .i64 d.applied, .string d.stage, .int .i64 d.sat, .int .i64 d.sterm] := by
    show ((w.heap.push _).push _)[w.heap.size]? = some _
    rw [Array.getElem?_push, if_neg (by simp), Array.getElem?_push, if_pos rfl]
  have x2 : BlockIs ((w.alloc (.cells #[.int .i64 d.node.id, .int .i64 d.node.term, .int .i64 d.node.vote, .int .i64 d.node.role, .int .i64 d.node.lead, .slice p.node.co d.node.conf.length p.node.cc, .int .i64 d.node.start, .int .i64 d.node.sterm, .slice p.node.eo d.node.ents.length p.node.ec, .int .i64 d.node.commit, .int .i64 d.node.clock, .int .i64 d.node.limit, .slice p.node.vo d.node.votes.length p.node.vc, .slice p.node.po d.node.peers.length p.node.pc, .slice p.fo d.files.length p.fc, .int .i64 d.jn, .int .i64 d.jtm, .int .i64 d.jvt, .int .i64 d.js, .int .i64 d.jt, .slice p.jo d.jents.length p.jc, .slice p.so d.ss.length p.sc, .slice p.io d.items.length p.ic, .int .i64 d.applied, .string d.stage, .int .i64 d.sat, .int .i64 d.sterm] 69)).alloc (.cells #[.int .i64 0, .int .i64 0, .slice none 0 0, .string ⟨#[]⟩] 53)) (w.heap.size + 1) 53 [.int .i64 0, .int .i64 0, .slice none 0 0, .string ⟨#[]⟩] := by
    show ((w.heap.push _).push _)[w.heap.size + 1]? = some _
    rw [Array.getElem?_push, if_pos (by simp)]
  obtain ⟨W0, hW0⟩ : ∃ W, (w.alloc (.cells #[.int .i64 d.node.id, .int .i64 d.node.term, .int .i64 d.node.vote, .int .i64 d.node.role, .int .i64 d.node.lead, .slice p.node.co d.node.conf.length p.node.cc, .int .i64 d.node.start, .int .i64 d.node.sterm, .slice p.node.eo d.node.ents.length p.node.ec, .int .i64 d.node.commit, .int .i64 d.node.clock, .int .i64 d.node.limit, .slice p.node.vo d.node.votes.length p.node.vc, .slice p.node.po d.node.peers.length p.node.pc, .slice p.fo d.files.length p.fc, .int .i64 d.jn, .int .i64 d.jtm, .int .i64 d.jvt, .int .i64 d.js, .int .i64 d.jt, .slice p.jo d.jents.length p.jc, .slice p.so d.ss.length p.sc, .slice p.io d.items.length p.ic, .int .i64 d.applied, .string d.stage, .int .i64 d.sat, .int .i64 d.sterm] 69)).alloc (.cells #[.int .i64 0, .int .i64 0, .slice none 0 0, .string ⟨#[]⟩] 53) = W := ⟨_, rfl⟩
  rw [hW0] at be x1 x2
  have Xa_0 := hid x1
  have Xr_0 := hid x2
  have B_0 := hid be
  clear be x1 x2
  have y14_1 := Xa_0.out.cell (j := 14) rfl
  go_enter Tryz.func14, Tryz.ntmps14
  go_wp2_with fail
  refine Calls.mono (CQ.out _ (HA.out.on B_0.out)) ?_
  rintro e w1 ⟨va, vc, rfl, hO, b_s⟩
  clear CQ hW0 y14_1
  have lr : w.heap.size + 1 < W0.heap.size := Xr_0.out.lt
  have Xa_1 : Hid (BlockIs w1 (w.heap.size) 69 [.int .i64 d.node.id, .int .i64 d.node.term, .int .i64 d.node.vote, .int .i64 d.node.role, .int .i64 d.node.lead, .slice p.node.co d.node.conf.length p.node.cc, .int .i64 d.node.start, .int .i64 d.node.sterm, .slice p.node.eo d.node.ents.length p.node.ec, .int .i64 d.node.commit, .int .i64 d.node.clock, .int .i64 d.node.limit, .slice p.node.vo d.node.votes.length p.node.vc, .slice p.node.po d.node.peers.length p.node.pc, .slice p.fo d.files.length p.fc, .int .i64 d.jn, .int .i64 d.jtm, .int .i64 d.jvt, .int .i64 d.js, .int .i64 d.jt, .slice p.jo d.jents.length p.jc, .slice p.so d.ss.length p.sc, .slice p.io d.items.length p.ic, .int .i64 d.applied, .string d.stage, .int .i64 d.sat, .int .i64 d.sterm]) := hid (Xa_0.out.on b_s Xa_0.out.lt)
  have Xr_1 : Hid (BlockIs w1 (w.heap.size + 1) 53 [.int .i64 0, .int .i64 0, .slice none 0 0, .string ⟨#[]⟩]) := hid (Xr_0.out.on b_s Xr_0.out.lt)
  have B_1 : Hid (Below w.heap.size w w1) := hid (below_via B_0.out b_s)
  clear Xa_0 Xr_0 B_0
  clear b_s
  obtain ⟨lo1, hlo1⟩ : ∃ b, W0.heap.size = b := ⟨_, rfl⟩
  obtain ⟨hi1, hhi1⟩ : ∃ b, w1.heap.size = b := ⟨_, rfl⟩
  rw [hlo1, hhi1] at hO
  rw [hlo1] at lr
  clear hlo1
  have Oz_1 := hid hO
  clear hO
  have o0 := Xr_1.out.cell (j := 0) rfl
  have f0 := Xr_1.out.thaw 0
  obtain ⟨P0, hP0⟩ : ∃ V, w1.setCell ⟨w.heap.size + 1, 0, none⟩ (.int .i64 ix) = V := ⟨_, rfl⟩
  have Xa_2 : Hid (BlockIs P0 (w.heap.size) 69 [.int .i64 d.node.id, .int .i64 d.node.term, .int .i64 d.node.vote, .int .i64 d.node.role, .int .i64 d.node.lead, .slice p.node.co d.node.conf.length p.node.cc, .int .i64 d.node.start, .int .i64 d.node.sterm, .slice p.node.eo d.node.ents.length p.node.ec, .int .i64 d.node.commit, .int .i64 d.node.clock, .int .i64 d.node.limit, .slice p.node.vo d.node.votes.length p.node.vc, .slice p.node.po d.node.peers.length p.node.pc, .slice p.fo d.files.length p.fc, .int .i64 d.jn, .int .i64 d.jtm, .int .i64 d.jvt, .int .i64 d.js, .int .i64 d.jt, .slice p.jo d.jents.length p.jc, .slice p.so d.ss.length p.sc, .slice p.io d.items.length p.ic, .int .i64 d.applied, .string d.stage, .int .i64 d.sat, .int .i64 d.sterm]) := hid ((by rw [← hP0]; exact Xa_1.out.far (by omega) _))
  have Xr_2 : Hid (BlockIs P0 (w.heap.size + 1) 53 [.int .i64 ix, .int .i64 0, .slice none 0 0, .string ⟨#[]⟩]) := hid ((by rw [← hP0]; exact Xr_1.out.set 0 _))
  have Oz_2 : Hid (OwnAt P0 3 (intCells zs) zs.length va lo1 hi1) := hid ((by rw [← hP0]; exact own_setS Oz_1.out (by omega) _))
  have B_2 : Hid (Below w.heap.size w P0) := hid ((by rw [← hP0]; exact B_1.out.setCell (by show _ ≤ w.heap.size + 1; omega) _))
  clear Xa_1 Xr_1 Oz_1 B_1
  have o1 := Xr_2.out.cell (j := 1) rfl
  have f1 := Xr_2.out.thaw 1
  obtain ⟨P1, hP1⟩ : ∃ V, P0.setCell ⟨w.heap.size + 1, 1, none⟩ (.int .i64 tm) = V := ⟨_, rfl⟩
  have Xa_3 : Hid (BlockIs P1 (w.heap.size) 69 [.int .i64 d.node.id, .int .i64 d.node.term, .int .i64 d.node.vote, .int .i64 d.node.role, .int .i64 d.node.lead, .slice p.node.co d.node.conf.length p.node.cc, .int .i64 d.node.start, .int .i64 d.node.sterm, .slice p.node.eo d.node.ents.length p.node.ec, .int .i64 d.node.commit, .int .i64 d.node.clock, .int .i64 d.node.limit, .slice p.node.vo d.node.votes.length p.node.vc, .slice p.node.po d.node.peers.length p.node.pc, .slice p.fo d.files.length p.fc, .int .i64 d.jn, .int .i64 d.jtm, .int .i64 d.jvt, .int .i64 d.js, .int .i64 d.jt, .slice p.jo d.jents.length p.jc, .slice p.so d.ss.length p.sc, .slice p.io d.items.length p.ic, .int .i64 d.applied, .string d.stage, .int .i64 d.sat, .int .i64 d.sterm]) := hid ((by rw [← hP1]; exact Xa_2.out.far (by omega) _))
  have Xr_3 : Hid (BlockIs P1 (w.heap.size + 1) 53 [.int .i64 ix, .int .i64 tm, .slice none 0 0, .string ⟨#[]⟩]) := hid ((by rw [← hP1]; exact Xr_2.out.set 1 _))
  have Oz_3 : Hid (OwnAt P1 3 (intCells zs) zs.length va lo1 hi1) := hid ((by rw [← hP1]; exact own_setS Oz_2.out (by omega) _))
  have B_3 : Hid (Below w.heap.size w P1) := hid ((by rw [← hP1]; exact B_2.out.setCell (by show _ ≤ w.heap.size + 1; omega) _))
  clear Xa_2 Xr_2 Oz_2 B_2
  have o2 := Xr_3.out.cell (j := 2) rfl
  have f2 := Xr_3.out.thaw 2
  obtain ⟨P2, hP2⟩ : ∃ V, P1.setCell ⟨w.heap.size + 1, 2, none⟩ (.slice va zs.length vc) = V := ⟨_, rfl⟩
  have Xa_4 : Hid (BlockIs P2 (w.heap.size) 69 [.int .i64 d.node.id, .int .i64 d.node.term, .int .i64 d.node.vote, .int .i64 d.node.role, .int .i64 d.node.lead, .slice p.node.co d.node.conf.length p.node.cc, .int .i64 d.node.start, .int .i64 d.node.sterm, .slice p.node.eo d.node.ents.length p.node.ec, .int .i64 d.node.commit, .int .i64 d.node.clock, .int .i64 d.node.limit, .slice p.node.vo d.node.votes.length p.node.vc, .slice p.node.po d.node.peers.length p.node.pc, .slice p.fo d.files.length p.fc, .int .i64 d.jn, .int .i64 d.jtm, .int .i64 d.jvt, .int .i64 d.js, .int .i64 d.jt, .slice p.jo d.jents.length p.jc, .slice p.so d.ss.length p.sc, .slice p.io d.items.length p.ic, .int .i64 d.applied, .string d.stage, .int .i64 d.sat, .int .i64 d.sterm]) := hid ((by rw [← hP2]; exact Xa_3.out.far (by omega) _))
  have Xr_4 : Hid (BlockIs P2 (w.heap.size + 1) 53 [.int .i64 ix, .int .i64 tm, .slice va zs.length vc, .string ⟨#[]⟩]) := hid ((by rw [← hP2]; exact Xr_3.out.set 2 _))
  have Oz_4 : Hid (OwnAt P2 3 (intCells zs) zs.length va lo1 hi1) := hid ((by rw [← hP2]; exact own_setS Oz_3.out (by omega) _))
  have B_4 : Hid (Below w.heap.size w P2) := hid ((by rw [← hP2]; exact B_3.out.setCell (by show _ ≤ w.heap.size + 1; omega) _))
  clear Xa_3 Xr_3 Oz_3 B_3
  have o3 := Xr_4.out.cell (j := 3) rfl
  have f3 := Xr_4.out.thaw 3
  obtain ⟨P3, hP3⟩ : ∃ V, P2.setCell ⟨w.heap.size + 1, 3, none⟩ (.string bd) = V := ⟨_, rfl⟩
  have Xa_5 : Hid (BlockIs P3 (w.heap.size) 69 [.int .i64 d.node.id, .int .i64 d.node.term, .int .i64 d.node.vote, .int .i64 d.node.role, .int .i64 d.node.lead, .slice p.node.co d.node.conf.length p.node.cc, .int .i64 d.node.start, .int .i64 d.node.sterm, .slice p.node.eo d.node.ents.length p.node.ec, .int .i64 d.node.commit, .int .i64 d.node.clock, .int .i64 d.node.limit, .slice p.node.vo d.node.votes.length p.node.vc, .slice p.node.po d.node.peers.length p.node.pc, .slice p.fo d.files.length p.fc, .int .i64 d.jn, .int .i64 d.jtm, .int .i64 d.jvt, .int .i64 d.js, .int .i64 d.jt, .slice p.jo d.jents.length p.jc, .slice p.so d.ss.length p.sc, .slice p.io d.items.length p.ic, .int .i64 d.applied, .string d.stage, .int .i64 d.sat, .int .i64 d.sterm]) := hid ((by rw [← hP3]; exact Xa_4.out.far (by omega) _))
  have Xr_5 : Hid (BlockIs P3 (w.heap.size + 1) 53 [.int .i64 ix, .int .i64 tm, .slice va zs.length vc, .string bd]) := hid ((by rw [← hP3]; exact Xr_4.out.set 3 _))
  have Oz_5 : Hid (OwnAt P3 3 (intCells zs) zs.length va lo1 hi1) := hid ((by rw [← hP3]; exact own_setS Oz_4.out (by omega) _))
  have B_5 : Hid (Below w.heap.size w P3) := hid ((by rw [← hP3]; exact B_4.out.setCell (by show _ ≤ w.heap.size + 1; omega) _))
  clear Xa_4 Xr_4 Oz_4 B_4
  have hsz : hi1 = P3.heap.size := by rw [← hhi1]; rw [← hP3, World.size_setCell]; rw [← hP2, World.size_setCell]; rw [← hP1, World.size_setCell]; rw [← hP0, World.size_setCell]
  have HO := hid (Oz_5.out.down (lo' := w.heap.size) (hi' := P3.heap.size) (by omega) (by omega))
  clear hhi1 hsz
  have r0 := Xr_5.out.cell (j := 0) rfl
  have r1 := Xr_5.out.cell (j := 1) rfl
  have r2 := Xr_5.out.cell (j := 2) rfl
  have r3 := Xr_5.out.cell (j := 3) rfl
  go_wp2
  refine bodyPost_ret (v := .tuple #[.agg #[.int .i64 ix, .int .i64 tm, .slice va zs.length vc, .string bd], .bool ok]) (by simp [results, Tryz.results14, go_sem, r0, r1, r2, r3]) rfl ?_
  exact ⟨va, vc, rfl, HO.out, B_5.out⟩

end Go.Proofs.YtihgkocfgjihhaaGreatDoor
