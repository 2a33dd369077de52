/-
  A server that came in, read as data.
  The walk of laws.szPeerS: elements are counted.
  The walk of laws.szNode: a node's letters are counted.
-/
import Derived.Test.YtihgkocfgjihhaaGreatDoorJoint7
import Derived.Test.YtihgkocfgjihhaaGreatDoorJoint11
import Derived.Test.YtihgkocfgjihhaaGreatDoorJoint1
import Derived.Test.YtihgkocfgjihhaaGreatDoorRows
import Derived.Test.YtihgkocfgjihhaaGreatDoorJoint3
namespace Go.Proofs.YtihgkocfgjihhaaGreatDoor
open Go.ChangeShapes Go.WideShapes Go.RowKit Go.Deep

/-- a server's data -/
structure ServD where
  node : NodeD
  files : List FileD
  jn : Int
  jtm : Int
  jvt : Int
  js : Int
  jt : Int
  jents : List EntD
  ss : List SessionD
  items : List ItemD
  applied : Int
  stage : ByteArray
  sat : Int
  sterm : Int
/-- where its rows lie -/
structure ServL where
  node : NodeL
  fo : Option Addr
  fc : Nat
  jo : Option Addr
  jc : Nat
  so : Option Addr
  sc : Nat
  io : Option Addr
  ic : Nat
structure ServAt (W : World) (d : ServD) (p : ServL) : Prop where
  node : NodeAt W d.node p.node
  files : FilesAt W p.fo d.files
  jents : EntsAt W p.jo d.jents
  ss : SessionsAt W p.so d.ss
  items : ItemsAt W p.io d.items
theorem ServAt.on {W W' : World} {d : ServD} {p : ServL} (h : ServAt W d p) (hb : Below W.heap.size W W') : ServAt W' d p := ⟨h.node.on hb, h.files.on hb, h.jents.on hb, h.ss.on hb, h.items.on hb⟩
structure ServD.Fits (d : ServD) : Prop where
  node : d.node.Fits
  files : d.files.length ≤ maxLen
  each : FilesFit d.files
  jents : d.jents.length ≤ maxLen
  jeach : EntsFit d.jents
  ss : d.ss.length ≤ maxLen
  seach : SessionsFit d.ss
  items : d.items.length ≤ maxLen
  ieach : ItemsFit d.items
  stage : d.stage.size ≤ maxLen
  jn : -9223372036854775808 ≤ d.jn ∧ d.jn ≤ 9223372036854775807
  jtm : -9223372036854775808 ≤ d.jtm ∧ d.jtm ≤ 9223372036854775807
  jvt : -9223372036854775808 ≤ d.jvt ∧ d.jvt ≤ 9223372036854775807
  js : -9223372036854775808 ≤ d.js ∧ d.js ≤ 9223372036854775807
  jt : -9223372036854775808 ≤ d.jt ∧ d.jt ≤ 9223372036854775807
  applied : -9223372036854775808 ≤ d.applied ∧ d.applied ≤ 9223372036854775807
  sat : -9223372036854775808 ≤ d.sat ∧ d.sat ≤ 9223372036854775807
  sterm : -9223372036854775808 ≤ d.sterm ∧ d.sterm ≤ 9223372036854775807
set_option maxRecDepth 1000000 in
theorem serv_size : (Tryz.prog.info? 69).map (·.size) = some 27 := by kernel_rfl
set_option maxRecDepth 1000000 in
theorem lserv_size : (Tryz.prog.info? 50).map (·.size) = some 27 := by kernel_rfl
set_option maxRecDepth 1000000 in
theorem serv_cells9 : Tryz.prog.cellsOf 9 = 1 := by kernel_rfl
set_option maxRecDepth 1000000 in
theorem serv_cells1 : Tryz.prog.cellsOf 50 = 27 := by kernel_rfl
set_option maxRecDepth 1000000 in
theorem jour_cells0 : Tryz.prog.cellsOf 44 = 6 := by kernel_rfl
set_option maxRecDepth 1000000 in
theorem keep_cells0 : Tryz.prog.cellsOf 48 = 2 := by kernel_rfl
set_option maxRecDepth 1000000 in
theorem disk_cells0 : Tryz.prog.cellsOf 42 = 1 := by kernel_rfl
set_option maxRecDepth 1000000 in
theorem serv_fields {H : Type} {enc : TypeId × Value → H} {P : Program} {W : World} {base : Nat} {sp : Nat → Bool} {held : Bool} {fuel : Nat} {t : TypeId} {f0 f1 f2 f3 f4 f5 f6 f7 : Field} {cs : List Value} {x : DataW H × List MemPlace} (ht : P.underlying t = some (.struct #[f0, f1, f2, f3, f4, f5, f6, f7])) (h : DataW.trod enc P W base sp held fuel t cs = some x) :
    ∃ y0 y1 y2 y3 y4 y5 y6 y7 n, cs.length = P.cellsOf t ∧ DataW.trod enc P W base sp held n f0.type ((cs.drop f0.offset).take (P.cellsOf f0.type)) = some y0 ∧ DataW.trod enc P W base sp held n f1.type ((cs.drop f1.offset).take (P.cellsOf f1.type)) = some y1 ∧ DataW.trod enc P W base sp held n f2.type ((cs.drop f2.offset).take (P.cellsOf f2.type)) = some y2 ∧ DataW.trod enc P W base sp held n f3.type ((cs.drop f3.offset).take (P.cellsOf f3.type)) = some y3 ∧ DataW.trod enc P W base sp held n f4.type ((cs.drop f4.offset).take (P.cellsOf f4.type)) = some y4 ∧ DataW.trod enc P W base sp held n f5.type ((cs.drop f5.offset).take (P.cellsOf f5.type)) = some y5 ∧ DataW.trod enc P W base sp held n f6.type ((cs.drop f6.offset).take (P.cellsOf f6.type)) = some y6 ∧ DataW.trod enc P W base sp held n f7.type ((cs.drop f7.offset).take (P.cellsOf f7.type)) = some y7 := by
  obtain ⟨xs, n, _, _, hl, hlen, hf⟩ := DataW.trod_struct ht h
  match xs, hlen with
  | [y0, y1, y2, y3, y4, y5, y6, y7], _ => exact ⟨y0, y1, y2, y3, y4, y5, y6, y7, n, hl, by simpa using hf 0 f0 rfl, by simpa using hf 1 f1 rfl, by simpa using hf 2 f2 rfl, by simpa using hf 3 f3 rfl, by simpa using hf 4 f4 rfl, by simpa using hf 5 f5 rfl, by simpa using hf 6 f6 rfl, by simpa using hf 7 f7 rfl⟩

set_option maxRecDepth 1000000 in
set_option maxHeartbeats 1000000 in
/-- a node's cells -/
theorem open_nodeC {H : Type} {enc : TypeId × Value → H} {W : World} {base : Nat} {sp : Nat → Bool} {held : Bool} {fuel : Nat} {x : DataW H × List MemPlace} {x0 x1 x2 x3 x4 x5 x6 x7 x8 x9 x10 x11 x12 x13 : Value} (hf : DataW.trod enc Tryz.prog W base sp held fuel 39 [x0, x1, x2, x3, x4, x5, x6, x7, x8, x9, x10, x11, x12, x13] = some x) :
    ∃ (d : NodeD) (p : NodeL), [x0, x1, x2, x3, x4, x5, x6, x7, x8, x9, x10, x11, x12, x13] = [.int .i64 d.id, .int .i64 d.term, .int .i64 d.vote, .int .i64 d.role, .int .i64 d.lead, .slice p.co d.conf.length p.cc, .int .i64 d.start, .int .i64 d.sterm, .slice p.eo d.ents.length p.ec, .int .i64 d.commit, .int .i64 d.clock, .int .i64 d.limit, .slice p.vo d.votes.length p.vc, .slice p.po d.peers.length p.pc] ∧ d.Fits ∧ NodeAt W d p := by
  obtain ⟨y0, y1, y2, y3, y4, y5, y6, y7, y8, y9, y10, y11, n, hl, h0, h1, h2, h3, h4, h5, h6, h7, h8, h9, h10, h11⟩ := node_fields Tryz.underlying39 hf
  simp only [ent_cells3, log_cells1, snap_cellsI, peer_cellsS] at h0 h1 h2 h3 h4 h5 h6 h7 h8 h9 h10 h11
  obtain ⟨k0, e0, _, s0⟩ := DataW.trod_int Tryz.underlying3 h0
  obtain ⟨k1, e1, _, s1⟩ := DataW.trod_int Tryz.underlying3 h1
  obtain ⟨k2, e2, _, s2⟩ := DataW.trod_int Tryz.underlying3 h2
  obtain ⟨k3, e3, _, s3⟩ := DataW.trod_int Tryz.underlying3 h3
  obtain ⟨k4, e4, _, s4⟩ := DataW.trod_int Tryz.underlying3 h4
  obtain ⟨co, zs, cc, e5, r5⟩ := open_intCells h5
  obtain ⟨z0, z1, z2, m, _, g0, g1, g2⟩ := ent_fields Tryz.underlying36 h6
  simp only [ent_cells3, log_cellsS] at g0 g1 g2
  obtain ⟨kt, et, _, st⟩ := DataW.trod_int Tryz.underlying3 g0
  obtain ⟨ks, es, _, ss⟩ := DataW.trod_int Tryz.underlying3 g1
  obtain ⟨eo, l, ec, e6, r6⟩ := open_ents g2
  obtain ⟨k7, e7, _, s7⟩ := DataW.trod_int Tryz.underlying3 h7
  obtain ⟨k8, e8, _, s8⟩ := DataW.trod_int Tryz.underlying3 h8
  obtain ⟨k9, e9, _, s9⟩ := DataW.trod_int Tryz.underlying3 h9
  obtain ⟨vo, vs, vc, e10, r10⟩ := open_intCells h10
  obtain ⟨po, pl, pc, e11, r11⟩ := open_peerRow h11
  simp at e0 e1 e2 e3 e4 e5 e6 e7 e8 e9 e10 e11 et es
  subst e0 e1 e2 e3 e4 e5 e6 e7 e8 e9 e10 e11 et es
  exact ⟨⟨k0, k1, k2, k3, k4, zs, kt, ks, l, k7, k8, k9, vs, pl⟩, ⟨co, cc, eo, ec, vo, vc, po, pc⟩, rfl, ⟨bounds_i64 s0, bounds_i64 s1, bounds_i64 s2, bounds_i64 s3, bounds_i64 s4, bounds_i64 st, bounds_i64 ss, bounds_i64 s7, bounds_i64 s8, bounds_i64 s9, Nat.le_trans r5.1 r5.2.1, Nat.le_trans r6.1 r6.2.1, r6.2.2.2, Nat.le_trans r10.1 r10.2.1, Nat.le_trans r11.1 r11.2.1⟩, ⟨r5.2.2.1, r6.2.2.1, r10.2.2.1, r11.2.2.1⟩⟩

set_option maxRecDepth 1000000 in
set_option maxHeartbeats 2000000 in
/-- a server as a parameter -/
theorem open_server {H : Type} {enc : TypeId × Value → H} {W : World} {r : Reach} {b0 base : Nat} {sp : Nat → Bool} {held : Bool} {v : Value} {dw : DataW H} {ps : List MemPlace} (hval : Value.okWide Tryz.prog W r b0 50 v) (hd : DataW.Trod enc Tryz.prog W base sp held 50 v dw ps) :
    ∃ (d : ServD) (p : ServL), v = .agg #[.int .i64 d.node.id, .int .i64 d.node.term, .int .i64 d.node.vote, .int .i64 d.node.role, .int .i64 d.node.lead, .slice p.node.co d.node.conf.length p.node.cc, .int .i64 d.node.start, .int .i64 d.node.sterm, .slice p.node.eo d.node.ents.length p.node.ec, .int .i64 d.node.commit, .int .i64 d.node.clock, .int .i64 d.node.limit, .slice p.node.vo d.node.votes.length p.node.vc, .slice p.node.po d.node.peers.length p.node.pc, .slice p.fo d.files.length p.fc, .int .i64 d.jn, .int .i64 d.jtm, .int .i64 d.jvt, .int .i64 d.js, .int .i64 d.jt, .slice p.jo d.jents.length p.jc, .slice p.so d.ss.length p.sc, .slice p.io d.items.length p.ic, .int .i64 d.applied, .string d.stage, .int .i64 d.sat, .int .i64 d.sterm] ∧ d.Fits ∧ ServAt W d p := by
  obtain ⟨cs, rfl, _⟩ := okWide_struct Tryz.underlying50 hval
  obtain ⟨fuel, hf⟩ := hd
  obtain ⟨y0, y1, y2, y3, y4, y5, y6, y7, n, hl, h0, h1, h2, h3, h4, h5, h6, h7⟩ := serv_fields Tryz.underlying50 hf
  rw [serv_cells1] at hl
  obtain ⟨c⟩ := cs
  have hl' : c.length = 27 := by simpa [Value.cells] using hl
  match c, hl' with
  | [x0, x1, x2, x3, x4, x5, x6, x7, x8, x9, x10, x11, x12, x13, x14, x15, x16, x17, x18, x19, x20, x21, x22, x23, x24, x25, x26], _ =>
    simp only [Value.cells, node_cells1, jour_cells0, keep_cells0, disk_cells0, ent_cells3, serv_cells9] at h0 h1 h2 h3 h4 h5 h6 h7
    obtain ⟨nd, np, en, fn, an⟩ := open_nodeC h0
    obtain ⟨q0, m1, _, _, i0⟩ := trod_struct1 Tryz.underlying42 h1
    simp only [disk_cellsS] at i0
    obtain ⟨fo, fl, fc, e1, rf⟩ := open_files i0
    obtain ⟨j0, j1, j2, j3, m2, _, g0, g1, g2, g3⟩ := jour_fields Tryz.underlying44 h2
    simp only [ent_cells3, log_cells1] at g0 g1 g2 g3
    obtain ⟨k0, e20, _, s0⟩ := DataW.trod_int Tryz.underlying3 g0
    obtain ⟨k1, e21, _, s1⟩ := DataW.trod_int Tryz.underlying3 g1
    obtain ⟨k2, e22, _, s2⟩ := DataW.trod_int Tryz.underlying3 g2
    obtain ⟨z0, z1, z2, m3, _, l0, l1, l2⟩ := ent_fields Tryz.underlying36 g3
    simp only [ent_cells3, log_cellsS] at l0 l1 l2
    obtain ⟨k3, e23, _, s3⟩ := DataW.trod_int Tryz.underlying3 l0
    obtain ⟨k4, e24, _, s4⟩ := DataW.trod_int Tryz.underlying3 l1
    obtain ⟨jo, jl, jc, e25, rj⟩ := open_ents l2
    obtain ⟨p0, p1, m4, _, t0, t1⟩ := keep_fields Tryz.underlying48 h3
    simp only [session_cellsS, item_cellsS] at t0 t1
    obtain ⟨so, sl, sc, e30, rs⟩ := open_sessionRow t0
    obtain ⟨io, il, ic, e31, ri⟩ := open_itemRow t1
    obtain ⟨k5, e4, _, s5⟩ := DataW.trod_int Tryz.underlying3 h4
    obtain ⟨tx, e5, _, hz⟩ := DataW.trod_string Tryz.underlying9 h5
    obtain ⟨k6, e6, _, s6⟩ := DataW.trod_int Tryz.underlying3 h6
    obtain ⟨k7, e7, _, s7⟩ := DataW.trod_int Tryz.underlying3 h7
    simp at e1 e20 e21 e22 e23 e24 e25 e30 e31 e4 e5 e6 e7
    simp only [List.cons.injEq, and_true] at en
    obtain ⟨rfl, rfl, rfl, rfl, rfl, rfl, rfl, rfl, rfl, rfl, rfl, rfl, rfl, rfl⟩ := en
    subst e1 e20 e21 e22 e23 e24 e25 e30 e31 e4 e5 e6 e7
    exact ⟨⟨nd, fl, k0, k1, k2, k3, k4, jl, sl, il, k5, tx, k6, k7⟩, ⟨np, fo, fc, jo, jc, so, sc, io, ic⟩, rfl, ⟨fn, Nat.le_trans rf.1 rf.2.1, rf.2.2.2.1, Nat.le_trans rj.1 rj.2.1, rj.2.2.2, Nat.le_trans rs.1 rs.2.1, rs.2.2.2, Nat.le_trans ri.1 ri.2.1, ri.2.2.2, hz, bounds_i64 s0, bounds_i64 s1, bounds_i64 s2, bounds_i64 s3, bounds_i64 s4, bounds_i64 s5, bounds_i64 s6, bounds_i64 s7⟩, ⟨an, rf.2.2.1, rj.2.2.1, rs.2.2.1, ri.2.2.1⟩⟩

end Go.Proofs.YtihgkocfgjihhaaGreatDoor

namespace Go.Proofs.YtihgkocfgjihhaaGreatDoor
open Go.RowKit

theorem peerBulk_zero (l : List PeerD) : peerBulk l = 0 := by
  induction l with
  | nil => rfl
  | cons f l ih => simp [peerBulk, peerOne, ih]
set_option maxRecDepth 1000000 in
theorem szPeerS_any (ao : Option Addr) (l : List PeerD) (cap : Nat) (n : Int) (h0 : 0 ≤ n) (h1 : n ≤ 1048576) (hl : l.length ≤ 9223372036854775807) (w : World) :
    Calls Tryz.prog 87 #[.slice ao l.length cap, .int .i64 n] w fun e w' => ((n - l.length - peerBulk l < 0 ∧ e = .returned (.int .i64 (-1))) ∨ (0 ≤ n - l.length - peerBulk l ∧ e = .returned (.int .i64 (n - l.length)))) ∧ w' = w := by
  rw [peerBulk_zero]
  by_cases hn : n - (l.length : Int) < 0
  · go_enter Tryz.func87, Tryz.ntmps87
    go_wp2
    go_ret
    exact ⟨Or.inl ⟨by omega, rfl⟩, rfl⟩
  · go_enter Tryz.func87, Tryz.ntmps87
    go_wp2
    go_ret
    exact ⟨Or.inr ⟨by omega, rfl⟩, rfl⟩
end Go.Proofs.YtihgkocfgjihhaaGreatDoor

namespace Go.Proofs.YtihgkocfgjihhaaGreatDoor
open Go.RowKit Go.Sort

/-- what is counted -/
def nodeBulk (d : NodeD) : Int := (d.conf.length : Int) + d.ents.length + entBulk d.ents + d.votes.length + d.peers.length
theorem nodeSmall {d : NodeD} (h : 0 ≤ (1048576 : Int) - nodeBulk d) : d.Small := by
  have h1 := entBulk_nonneg d.ents
  unfold nodeBulk at h
  exact ⟨by omega, by omega, (entsSmall (l := d.ents) (by omega)).2, by omega, by omega⟩
set_option maxRecDepth 1000000 in
set_option maxHeartbeats 1000000 in
theorem szNode_any (d : NodeD) (p : NodeL) (hd : d.Fits) (w : World) (ha : NodeAt w d p) :
    Calls Tryz.prog 37 #[.agg #[.int .i64 d.id, .int .i64 d.term, .int .i64 d.vote, .int .i64 d.role, .int .i64 d.lead, .slice p.co d.conf.length p.cc, .int .i64 d.start, .int .i64 d.sterm, .slice p.eo d.ents.length p.ec, .int .i64 d.commit, .int .i64 d.clock, .int .i64 d.limit, .slice p.vo d.votes.length p.vc, .slice p.po d.peers.length p.pc], .int .i64 1048576] w fun e w' => ((1048576 - nodeBulk d < 0 ∧ e = .returned (.int .i64 (-1))) ∨ (0 ≤ 1048576 - nodeBulk d ∧ ∃ x : Int, 0 ≤ x ∧ e = .returned (.int .i64 x))) ∧ Below w.heap.size w w' := by
  have hN := entBulk_nonneg d.ents
  have HS : Hid (nodeBulk d = (d.conf.length : Int) + d.ents.length + entBulk d.ents + d.votes.length + d.peers.length) := rfl
  have hl1 := hd.conf
  have hl2 := hd.ents
  have hl3 := hd.votes
  have hl4 := hd.peers
  unfold maxLen at hl1 hl2 hl3 hl4
  have C := hid (fun w => szIntS_any p.co d.conf.length p.cc 1048576 (by omega) (by omega) hl1 w)
  have D := hid (fun k h0 h1 w ha => szLog_any d.start d.sterm p.eo d.ents p.ec k h0 h1 hl2 hd.each w ha)
  have E := hid (fun k h0 h1 w => szIntS_any p.vo d.votes.length p.vc k h0 h1 hl3 w)
  have F := hid (fun k h0 h1 w => szPeerS_any p.po d.peers p.pc k h0 h1 hl4 w)
  have HX := hid (show BlockIs (w.alloc (.cells #[.int .i64 d.id, .int .i64 d.term, .int .i64 d.vote, .int .i64 d.role, .int .i64 d.lead, .slice p.co d.conf.length p.cc, .int .i64 d.start, .int .i64 d.sterm, .slice p.eo d.ents.length p.ec, .int .i64 d.commit, .int .i64 d.clock, .int .i64 d.limit, .slice p.vo d.votes.length p.vc, .slice p.po d.peers.length p.pc] 39)) w.heap.size 39 [.int .i64 d.id, .int .i64 d.term, .int .i64 d.vote, .int .i64 d.role, .int .i64 d.lead, .slice p.co d.conf.length p.cc, .int .i64 d.start, .int .i64 d.sterm, .slice p.eo d.ents.length p.ec, .int .i64 d.commit, .int .i64 d.clock, .int .i64 d.limit, .slice p.vo d.votes.length p.vc, .slice p.po d.peers.length p.pc] from heap_alloc_new w _)
  have HB := hid (below_more (Below.refl w.heap.size w) (.cells #[.int .i64 d.id, .int .i64 d.term, .int .i64 d.vote, .int .i64 d.role, .int .i64 d.lead, .slice p.co d.conf.length p.cc, .int .i64 d.start, .int .i64 d.sterm, .slice p.eo d.ents.length p.ec, .int .i64 d.commit, .int .i64 d.clock, .int .i64 d.limit, .slice p.vo d.votes.length p.vc, .slice p.po d.peers.length p.pc] 39))
  have HA := hid (ha.on HB.out)
  obtain ⟨W, hW⟩ : ∃ W, w.alloc (.cells #[.int .i64 d.id, .int .i64 d.term, .int .i64 d.vote, .int .i64 d.role, .int .i64 d.lead, .slice p.co d.conf.length p.cc, .int .i64 d.start, .int .i64 d.sterm, .slice p.eo d.ents.length p.ec, .int .i64 d.commit, .int .i64 d.clock, .int .i64 d.limit, .slice p.vo d.votes.length p.vc, .slice p.po d.peers.length p.pc] 39) = W := ⟨_, rfl⟩
  rw [hW] at HX HB HA
  have x5 := HX.out.cell (j := 5) rfl
  have x6 := HX.out.cell (j := 6) rfl
  have x7 := HX.out.cell (j := 7) rfl
  have x8 := HX.out.cell (j := 8) rfl
  clear ha hd
  go_enter Tryz.func37, Tryz.ntmps37
  go_wp2_with fail
  refine (C.out _).mono ?_
  rintro e w1 ⟨(⟨hneg, rfl⟩ | ⟨hnn, rfl⟩), hw⟩
  · rw [hw]
    clear hw C D E F
    go_wp2
    go_ret
    exact ⟨Or.inl ⟨by rw [HS.out]; omega, rfl⟩, HB.out⟩
  · rw [hw]
    clear hw w1
    obtain ⟨q1, hq1⟩ : ∃ q : Int, 1048576 - (d.conf.length : Int) = q := ⟨_, rfl⟩
    have HQ1 := hid hq1
    rw [hq1] at hnn ⊢
    have hq1' : q1 ≤ 1048576 := by omega
    clear hq1 C
    go_wp2_with fail
    refine (D.out q1 hnn hq1' _ HA.out.ents).mono ?_
    rintro e w2 ⟨(⟨hneg, rfl⟩ | ⟨hn2, rfl⟩), b2⟩
    · have B2 := hid (below_via HB.out b2)
      clear b2 D E F
      go_wp2
      go_ret
      exact ⟨Or.inl ⟨by have := HQ1.out; rw [HS.out]; omega, rfl⟩, B2.out⟩
    · have B2 := hid (below_via HB.out b2)
      have X2 := hid (HX.out.on b2 HX.out.lt)
      have y12 := X2.out.cell (j := 12) rfl
      have y13 := X2.out.cell (j := 13) rfl
      obtain ⟨q2, hq2⟩ : ∃ q : Int, q1 - (d.ents.length : Int) - entBulk d.ents = q := ⟨_, rfl⟩
      have HQ2 := hid hq2
      rw [hq2] at hn2 ⊢
      have hq2' : q2 ≤ 1048576 := by omega
      clear hq2 D b2 x5 x6 x7 x8 HX hW
      go_wp2_with fail
      refine (E.out q2 hn2 hq2' _).mono ?_
      rintro e w3 ⟨(⟨hneg, rfl⟩ | ⟨hn3, rfl⟩), hw⟩
      · rw [hw]
        clear hw E F
        go_wp2
        go_ret
        exact ⟨Or.inl ⟨by have := HQ1.out; have := HQ2.out; rw [HS.out]; omega, rfl⟩, B2.out⟩
      · rw [hw]
        clear hw w3
        obtain ⟨q3, hq3⟩ : ∃ q : Int, q2 - (d.votes.length : Int) = q := ⟨_, rfl⟩
        have HQ3 := hid hq3
        rw [hq3] at hn3 ⊢
        have hq3' : q3 ≤ 1048576 := by omega
        clear hq3 E
        have hpb := peerBulk_zero d.peers
        go_wp2_with fail
        refine (F.out q3 hn3 hq3' _).mono ?_
        rintro e w4 ⟨(⟨hneg, rfl⟩ | ⟨hn4, rfl⟩), hw⟩
        · rw [hw]
          clear hw F
          go_wp2
          go_ret
          exact ⟨Or.inl ⟨by have := HQ1.out; have := HQ2.out; have := HQ3.out; rw [HS.out]; omega, rfl⟩, B2.out⟩
        · rw [hw]
          clear hw w4
          obtain ⟨q4, hq4⟩ : ∃ q : Int, q3 - (d.peers.length : Int) = q := ⟨_, rfl⟩
          have HQ4 := hid hq4
          rw [hq4] at ⊢
          have hq4' : 0 ≤ q4 := by omega
          clear hq4 F
          go_wp2
          go_ret
          exact ⟨Or.inr ⟨by have := HQ1.out; have := HQ2.out; have := HQ3.out; have := HQ4.out; rw [HS.out]; omega, q4, hq4', rfl⟩, B2.out⟩
end Go.Proofs.YtihgkocfgjihhaaGreatDoor
