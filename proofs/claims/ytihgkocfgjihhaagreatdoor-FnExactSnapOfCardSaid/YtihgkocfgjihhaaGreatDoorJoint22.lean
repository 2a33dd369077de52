/-
  The walk of laws.eqNode: two nodes that are alike are found alike.
  The walks of laws.eqSession, eqSessionS: what is alike is found alike.
-/
import Derived.Test.YtihgkocfgjihhaaGreatDoorJoint1
import Derived.Test.YtihgkocfgjihhaaGreatDoorJoint10
import Derived.Test.YtihgkocfgjihhaaGreatDoorJoint5
import Derived.Test.YtihgkocfgjihhaaGreatDoorJoint21
import Derived.Test.YtihgkocfgjihhaaGreatDoorRows
import Derived.Lib.QuietBelow
namespace Go.Proofs.YtihgkocfgjihhaaGreatDoor
open Go.RowKit Go.Sort

set_option maxRecDepth 1000000 in
set_option maxHeartbeats 1000000 in
theorem eqNode_same (d : NodeD) (p q : NodeL) (hs : d.Small) (w : World) (ha : NodeAt w d p) (hb : NodeAt w d q) :
    Calls Tryz.prog 47 #[.agg #[.int .i64 d.id, .int .i64 d.term, .int .i64 d.vote, .int .i64 d.role, .int .i64 d.lead, .slice p.co d.conf.length p.cc, .int .i64 d.start, .int .i64 d.sterm, .slice p.eo d.ents.length p.ec, .int .i64 d.commit, .int .i64 d.clock, .int .i64 d.limit, .slice p.vo d.votes.length p.vc, .slice p.po d.peers.length p.pc], .agg #[.int .i64 d.id, .int .i64 d.term, .int .i64 d.vote, .int .i64 d.role, .int .i64 d.lead, .slice q.co d.conf.length q.cc, .int .i64 d.start, .int .i64 d.sterm, .slice q.eo d.ents.length q.ec, .int .i64 d.commit, .int .i64 d.clock, .int .i64 d.limit, .slice q.vo d.votes.length q.vc, .slice q.po d.peers.length q.pc]] w fun e w' => e = .returned (.bool true) ∧ Below w.heap.size w w' := by
  have h1 := hs.conf
  have h2 := hs.ents
  have h3 := hs.votes
  have h4 := hs.peers
  have C := hid (fun w ha hb => eqIntS_same p.co q.co d.conf p.cc q.cc (by omega) w ha hb)
  have D := hid (fun w ha hb => eqLog_same d.start d.sterm p.eo q.eo d.ents p.ec q.ec (by omega) w ha hb)
  have E := hid (fun w ha hb => eqIntS_same p.vo q.vo d.votes p.vc q.vc (by omega) w ha hb)
  have F := hid (fun w ha hb => eqPeerS_same p.po q.po d.peers p.pc q.pc (by omega) w ha hb)
  obtain ⟨W0, hW0⟩ : ∃ W0, (w.alloc (.cells #[.int .i64 d.id, .int .i64 d.term, .int .i64 d.vote, .int .i64 d.role, .int .i64 d.lead, .slice p.co d.conf.length p.cc, .int .i64 d.start, .int .i64 d.sterm, .slice p.eo d.ents.length p.ec, .int .i64 d.commit, .int .i64 d.clock, .int .i64 d.limit, .slice p.vo d.votes.length p.vc, .slice p.po d.peers.length p.pc] 61)).alloc (.cells #[.int .i64 d.id, .int .i64 d.term, .int .i64 d.vote, .int .i64 d.role, .int .i64 d.lead, .slice q.co d.conf.length q.cc, .int .i64 d.start, .int .i64 d.sterm, .slice q.eo d.ents.length q.ec, .int .i64 d.commit, .int .i64 d.clock, .int .i64 d.limit, .slice q.vo d.votes.length q.vc, .slice q.po d.peers.length q.pc] 61) = W0 := ⟨_, rfl⟩
  have HBB := hid (below_more (below_more (Below.refl w.heap.size w) (.cells #[.int .i64 d.id, .int .i64 d.term, .int .i64 d.vote, .int .i64 d.role, .int .i64 d.lead, .slice p.co d.conf.length p.cc, .int .i64 d.start, .int .i64 d.sterm, .slice p.eo d.ents.length p.ec, .int .i64 d.commit, .int .i64 d.clock, .int .i64 d.limit, .slice p.vo d.votes.length p.vc, .slice p.po d.peers.length p.pc] 61)) (.cells #[.int .i64 d.id, .int .i64 d.term, .int .i64 d.vote, .int .i64 d.role, .int .i64 d.lead, .slice q.co d.conf.length q.cc, .int .i64 d.start, .int .i64 d.sterm, .slice q.eo d.ents.length q.ec, .int .i64 d.commit, .int .i64 d.clock, .int .i64 d.limit, .slice q.vo d.votes.length q.vc, .slice q.po d.peers.length q.pc] 61))
  have K0 : BlockIs W0 w.heap.size 61 [.int .i64 d.id, .int .i64 d.term, .int .i64 d.vote, .int .i64 d.role, .int .i64 d.lead, .slice p.co d.conf.length p.cc, .int .i64 d.start, .int .i64 d.sterm, .slice p.eo d.ents.length p.ec, .int .i64 d.commit, .int .i64 d.clock, .int .i64 d.limit, .slice p.vo d.votes.length p.vc, .slice p.po d.peers.length p.pc] := by
    rw [← hW0]
    show ((w.heap.push _).push _)[w.heap.size]? = some _
    rw [Array.getElem?_push, if_neg (by simp), Array.getElem?_push, if_pos rfl]
  have K1 : BlockIs W0 (w.heap.size + 1) 61 [.int .i64 d.id, .int .i64 d.term, .int .i64 d.vote, .int .i64 d.role, .int .i64 d.lead, .slice q.co d.conf.length q.cc, .int .i64 d.start, .int .i64 d.sterm, .slice q.eo d.ents.length q.ec, .int .i64 d.commit, .int .i64 d.clock, .int .i64 d.limit, .slice q.vo d.votes.length q.vc, .slice q.po d.peers.length q.pc] := by
    rw [← hW0]
    show ((w.heap.push _).push _)[w.heap.size + 1]? = some _
    rw [Array.getElem?_push, if_pos (by simp)]
  rw [hW0] at HBB
  have HA := hid (ha.on HBB.out)
  have HA' := hid (hb.on HBB.out)
  clear ha hb hs
  have L0_0 := hid K0
  have L1_0 := hid K1
  have c0 := K0.cell (j := 0) rfl
  have d0 := K1.cell (j := 0) rfl
  have c1 := K0.cell (j := 1) rfl
  have d1 := K1.cell (j := 1) rfl
  have c2 := K0.cell (j := 2) rfl
  have d2 := K1.cell (j := 2) rfl
  have c3 := K0.cell (j := 3) rfl
  have d3 := K1.cell (j := 3) rfl
  have c4 := K0.cell (j := 4) rfl
  have d4 := K1.cell (j := 4) rfl
  have c5 := K0.cell (j := 5) rfl
  have d5 := K1.cell (j := 5) rfl
  have c6 := K0.cell (j := 6) rfl
  have d6 := K1.cell (j := 6) rfl
  have c7 := K0.cell (j := 7) rfl
  have d7 := K1.cell (j := 7) rfl
  have c8 := K0.cell (j := 8) rfl
  have d8 := K1.cell (j := 8) rfl
  have c9 := K0.cell (j := 9) rfl
  have d9 := K1.cell (j := 9) rfl
  have c10 := K0.cell (j := 10) rfl
  have d10 := K1.cell (j := 10) rfl
  have c11 := K0.cell (j := 11) rfl
  have d11 := K1.cell (j := 11) rfl
  have c12 := K0.cell (j := 12) rfl
  have d12 := K1.cell (j := 12) rfl
  have c13 := K0.cell (j := 13) rfl
  have d13 := K1.cell (j := 13) rfl
  clear K0 K1
  go_enter Tryz.func47, Tryz.ntmps47
  go_wp2_with fail
  refine (C.out _ HA.out.conf HA'.out.conf).mono ?_
  rintro e w1 ⟨rfl, b1⟩
  have J0 := L0_0.out.on b1 L0_0.out.lt
  have J1 := L1_0.out.on b1 L1_0.out.lt
  have ga6 := J0.cell (j := 6) rfl
  have gb6 := J1.cell (j := 6) rfl
  have ga7 := J0.cell (j := 7) rfl
  have gb7 := J1.cell (j := 7) rfl
  have ga8 := J0.cell (j := 8) rfl
  have gb8 := J1.cell (j := 8) rfl
  have ga9 := J0.cell (j := 9) rfl
  have gb9 := J1.cell (j := 9) rfl
  have ga10 := J0.cell (j := 10) rfl
  have gb10 := J1.cell (j := 10) rfl
  have ga11 := J0.cell (j := 11) rfl
  have gb11 := J1.cell (j := 11) rfl
  have ga12 := J0.cell (j := 12) rfl
  have gb12 := J1.cell (j := 12) rfl
  have ga13 := J0.cell (j := 13) rfl
  have gb13 := J1.cell (j := 13) rfl
  have L0_1 := hid J0
  have L1_1 := hid J1
  have B1 := hid (below_via HBB.out b1)
  have A1 := hid (HA.out.on b1)
  have A1' := hid (HA'.out.on b1)
  clear b1 C J0 J1
  go_wp2_with fail
  refine (D.out _ A1.out.ents A1'.out.ents).mono ?_
  rintro e w2 ⟨rfl, b2⟩
  have J0 := L0_1.out.on b2 L0_1.out.lt
  have J1 := L1_1.out.on b2 L1_1.out.lt
  have ma9 := J0.cell (j := 9) rfl
  have mb9 := J1.cell (j := 9) rfl
  have ma10 := J0.cell (j := 10) rfl
  have mb10 := J1.cell (j := 10) rfl
  have ma11 := J0.cell (j := 11) rfl
  have mb11 := J1.cell (j := 11) rfl
  have ma12 := J0.cell (j := 12) rfl
  have mb12 := J1.cell (j := 12) rfl
  have ma13 := J0.cell (j := 13) rfl
  have mb13 := J1.cell (j := 13) rfl
  have L0_2 := hid J0
  have L1_2 := hid J1
  have B2 := hid (below_via B1.out b2)
  have A2 := hid (A1.out.on b2)
  have A2' := hid (A1'.out.on b2)
  clear b2 D J0 J1
  go_wp2_with fail
  refine (E.out _ A2.out.votes A2'.out.votes).mono ?_
  rintro e w3 ⟨rfl, b3⟩
  have J0 := L0_2.out.on b3 L0_2.out.lt
  have J1 := L1_2.out.on b3 L1_2.out.lt
  have ra13 := J0.cell (j := 13) rfl
  have rb13 := J1.cell (j := 13) rfl
  have L0_3 := hid J0
  have L1_3 := hid J1
  have B3 := hid (below_via B2.out b3)
  have A3 := hid (A2.out.on b3)
  have A3' := hid (A2'.out.on b3)
  clear b3 E J0 J1
  go_wp2_with fail
  refine (F.out _ A3.out.peers A3'.out.peers).mono ?_
  rintro e w4 ⟨rfl, b4⟩
  have J0 := L0_3.out.on b4 L0_3.out.lt
  have J1 := L1_3.out.on b4 L1_3.out.lt
  have L0_4 := hid J0
  have L1_4 := hid J1
  have B4 := hid (below_via B3.out b4)
  have A4 := hid (A3.out.on b4)
  have A4' := hid (A3'.out.on b4)
  clear b4 F J0 J1
  go_wp2
  go_ret
  exact ⟨rfl, B4.out⟩
end Go.Proofs.YtihgkocfgjihhaaGreatDoor

namespace Go.Proofs.YtihgkocfgjihhaaGreatDoor
open Go.RowKit Go.Sort

set_option maxRecDepth 1000000 in
theorem eqSession_same (f : SessionD) (w : World) :
    Calls Tryz.prog 153 #[.agg #[.int .i64 f.token, .int .i64 f.last, .string f.reply], .agg #[.int .i64 f.token, .int .i64 f.last, .string f.reply]] w fun e w' => e = .returned (.bool true) ∧ Below w.heap.size w w' := by
  have hb : Hid (∀ (o p : Obj), Below w.heap.size w ((w.alloc o).alloc p)) := fun o p => ((Below.refl _ w).alloc (Nat.le_refl _) _).alloc (by simp [World.alloc, -World.alloc_eq]) _
  go_enter Tryz.func153, Tryz.ntmps153
  go_wp2
  go_ret
  exact ⟨rfl, hb.out _ _⟩

set_option maxRecDepth 1000000 in
set_option maxHeartbeats 1000000 in
theorem eqSessionS_same (ao bo : Option Addr) (l : List SessionD) (cap cap' : Nat) (hl : l.length ≤ 140737488355328) (w : World) (ha : SessionsAt w ao l) (hb : SessionsAt w bo l) :
    Calls Tryz.prog 103 #[.slice ao l.length cap, .slice bo l.length cap'] w fun e w' => e = .returned (.bool true) ∧ Below w.heap.size w w' := by
  have HA := hid ha
  have HB := hid hb
  clear ha hb
  go_enter Tryz.func103, Tryz.ntmps103
  go_wp2
  go_loopg [5] l.length (fun g i wr => ∃ (k : Nat), k + g = l.length ∧ i = .int .i64 k ∧ Hid (Below w.heap.size w wr))
  case atStart => exact ⟨0, by omega, rfl, (show Below _ _ _ from Below.refl _ _)⟩
  case round =>
    obtain ⟨k, hkg, rfl, BR⟩ := hrel
    cases gk with
    | zero =>
      have hlt : ¬ (k : Int) < (l.length : Int) := by omega
      go_wp2
      go_ret
      exact ⟨rfl, BR.out⟩
    | succ g =>
      have hlt : k < l.length := by omega
      have hlt' : (k : Int) < (l.length : Int) := by omega
      have hne : l ≠ [] := by intro e; rw [e] at hlt; simp at hlt
      obtain ⟨b, off, rfl, hc⟩ := HA.out.on BR.out hne
      obtain ⟨x0, x1, x2⟩ := hc k hlt
      obtain ⟨b', off', rfl, hc'⟩ := HB.out.on BR.out hne
      obtain ⟨y0, y1, y2⟩ := hc' k hlt
      have X0 := cell_regrown x0
      have Y0 := cell_regrown y0
      have X1 := cell_regrown x1
      have Y1 := cell_regrown y1
      have X2 := cell_regrown x2
      have Y2 := cell_regrown y2
      clear hc hc' x0 x1 x2 y0 y1 y2
      have C' := fun d os => Calls.regrown_of (w := wr) (d := d) (os := os) (eqSession_same l[k] _)
      have C := hid C'
      clear C'
      go_wp2
      refine wp_region_quiet_below (by kernel_rfl) (by kernel_rfl) ?_
      repeat (first | go_big_quiet_step (first | (go_at_call 153; exact C.out _ _) | fail) | quiet_step (first | (go_at_call 153; exact C.out _ _) | fail))
      refine wpQuiet_nil ?_
      intro _ hw'
      obtain ⟨⟨dq, osq⟩, hw''⟩ := hw'
      subst hw''
      have BQ : Hid (Below w.heap.size w (grow (redrawn wr dq) osq)) := BR.out.trans ((below_regrown wr dq osq).mono BR.out.size)
      generalize grow (redrawn wr dq) osq = wq at BQ ⊢
      clear X0 X1 X2 Y0 Y1 Y2 C
      go_wp2
      go_roundg g
      case measure => omega
      case rel => exact ⟨k + 1, by omega, by go_num, BQ⟩
end Go.Proofs.YtihgkocfgjihhaaGreatDoor
