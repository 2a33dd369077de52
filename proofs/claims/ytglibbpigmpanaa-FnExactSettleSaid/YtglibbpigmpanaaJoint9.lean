/-
  A node that came in, read as data.
  The walk of laws.szPeerS: elements are counted.
-/
import Derived.Test.YtglibbpigmpanaaJoint1
import Derived.Test.YtglibbpigmpanaaJoint5
import Derived.Test.YtglibbpigmpanaaJoint8
import Derived.Test.YtglibbpigmpanaaRows
namespace Go.Proofs.Ytglibbpigmpanaa
open Go.ChangeShapes Go.WideShapes Go.RowKit Go.Deep

/-- numbers that are numbers, rows that are rows -/
structure NodeD.Fits (d : NodeD) : Prop where
  id : -9223372036854775808 ≤ d.id ∧ d.id ≤ 9223372036854775807
  term : -9223372036854775808 ≤ d.term ∧ d.term ≤ 9223372036854775807
  vote : -9223372036854775808 ≤ d.vote ∧ d.vote ≤ 9223372036854775807
  role : -9223372036854775808 ≤ d.role ∧ d.role ≤ 9223372036854775807
  lead : -9223372036854775808 ≤ d.lead ∧ d.lead ≤ 9223372036854775807
  start : -9223372036854775808 ≤ d.start ∧ d.start ≤ 9223372036854775807
  sterm : -9223372036854775808 ≤ d.sterm ∧ d.sterm ≤ 9223372036854775807
  commit : -9223372036854775808 ≤ d.commit ∧ d.commit ≤ 9223372036854775807
  clock : -9223372036854775808 ≤ d.clock ∧ d.clock ≤ 9223372036854775807
  limit : -9223372036854775808 ≤ d.limit ∧ d.limit ≤ 9223372036854775807
  conf : d.conf.length ≤ maxLen
  ents : d.ents.length ≤ maxLen
  each : EntsFit d.ents
  votes : d.votes.length ≤ maxLen
  peers : d.peers.length ≤ maxLen
set_option maxRecDepth 1000000 in
theorem node_cells1 : Try.prog.cellsOf 28 = 14 := by kernel_rfl
set_option maxRecDepth 1000000 in
theorem node_fields {H : Type} {enc : TypeId × Value → H} {P : Program} {W : World} {base : Nat} {sp : Nat → Bool} {held : Bool} {fuel : Nat} {t : TypeId} {f0 f1 f2 f3 f4 f5 f6 f7 f8 f9 f10 f11 : Field} {cs : List Value} {x : DataW H × List MemPlace} (ht : P.underlying t = some (.struct #[f0, f1, f2, f3, f4, f5, f6, f7, f8, f9, f10, f11])) (h : DataW.trod enc P W base sp held fuel t cs = some x) :
    ∃ y0 y1 y2 y3 y4 y5 y6 y7 y8 y9 y10 y11 n, cs.length = P.cellsOf t ∧ DataW.trod enc P W base sp held n f0.type ((cs.drop f0.offset).take (P.cellsOf f0.type)) = some y0 ∧ DataW.trod enc P W base sp held n f1.type ((cs.drop f1.offset).take (P.cellsOf f1.type)) = some y1 ∧ DataW.trod enc P W base sp held n f2.type ((cs.drop f2.offset).take (P.cellsOf f2.type)) = some y2 ∧ DataW.trod enc P W base sp held n f3.type ((cs.drop f3.offset).take (P.cellsOf f3.type)) = some y3 ∧ DataW.trod enc P W base sp held n f4.type ((cs.drop f4.offset).take (P.cellsOf f4.type)) = some y4 ∧ DataW.trod enc P W base sp held n f5.type ((cs.drop f5.offset).take (P.cellsOf f5.type)) = some y5 ∧ DataW.trod enc P W base sp held n f6.type ((cs.drop f6.offset).take (P.cellsOf f6.type)) = some y6 ∧ DataW.trod enc P W base sp held n f7.type ((cs.drop f7.offset).take (P.cellsOf f7.type)) = some y7 ∧ DataW.trod enc P W base sp held n f8.type ((cs.drop f8.offset).take (P.cellsOf f8.type)) = some y8 ∧ DataW.trod enc P W base sp held n f9.type ((cs.drop f9.offset).take (P.cellsOf f9.type)) = some y9 ∧ DataW.trod enc P W base sp held n f10.type ((cs.drop f10.offset).take (P.cellsOf f10.type)) = some y10 ∧ DataW.trod enc P W base sp held n f11.type ((cs.drop f11.offset).take (P.cellsOf f11.type)) = some y11 := by
  obtain ⟨xs, n, _, _, hl, hlen, hf⟩ := DataW.trod_struct ht h
  match xs, hlen with
  | [y0, y1, y2, y3, y4, y5, y6, y7, y8, y9, y10, y11], _ => exact ⟨y0, y1, y2, y3, y4, y5, y6, y7, y8, y9, y10, y11, n, hl, by simpa using hf 0 f0 rfl, by simpa using hf 1 f1 rfl, by simpa using hf 2 f2 rfl, by simpa using hf 3 f3 rfl, by simpa using hf 4 f4 rfl, by simpa using hf 5 f5 rfl, by simpa using hf 6 f6 rfl, by simpa using hf 7 f7 rfl, by simpa using hf 8 f8 rfl, by simpa using hf 9 f9 rfl, by simpa using hf 10 f10 rfl, by simpa using hf 11 f11 rfl⟩

set_option maxRecDepth 1000000 in
set_option maxHeartbeats 1000000 in
/-- a node as a parameter -/
theorem open_node {H : Type} {enc : TypeId × Value → H} {W : World} {r : Reach} {b0 base : Nat} {sp : Nat → Bool} {held : Bool} {v : Value} {dw : DataW H} {ps : List MemPlace} (hval : Value.okWide Try.prog W r b0 28 v) (hd : DataW.Trod enc Try.prog W base sp held 28 v dw ps) :
    ∃ (d : NodeD) (p : NodeL), v = .agg #[.int .i64 d.id, .int .i64 d.term, .int .i64 d.vote, .int .i64 d.role, .int .i64 d.lead, .slice p.co d.conf.length p.cc, .int .i64 d.start, .int .i64 d.sterm, .slice p.eo d.ents.length p.ec, .int .i64 d.commit, .int .i64 d.clock, .int .i64 d.limit, .slice p.vo d.votes.length p.vc, .slice p.po d.peers.length p.pc] ∧ d.Fits ∧ NodeAt W d p := by
  obtain ⟨cs, rfl, _⟩ := okWide_struct Try.underlying28 hval
  obtain ⟨fuel, hf⟩ := hd
  obtain ⟨y0, y1, y2, y3, y4, y5, y6, y7, y8, y9, y10, y11, n, hl, h0, h1, h2, h3, h4, h5, h6, h7, h8, h9, h10, h11⟩ := node_fields Try.underlying28 hf
  rw [node_cells1] at hl
  obtain ⟨c⟩ := cs
  have hl' : c.length = 14 := by simpa [Value.cells] using hl
  match c, hl' with
  | [x0, x1, x2, x3, x4, x5, x6, x7, x8, x9, x10, x11, x12, x13], _ =>
    simp only [Value.cells, ent_cells3, log_cells1, snap_cellsI, peer_cellsS] at h0 h1 h2 h3 h4 h5 h6 h7 h8 h9 h10 h11
    obtain ⟨k0, e0, _, s0⟩ := DataW.trod_int Try.underlying3 h0
    obtain ⟨k1, e1, _, s1⟩ := DataW.trod_int Try.underlying3 h1
    obtain ⟨k2, e2, _, s2⟩ := DataW.trod_int Try.underlying3 h2
    obtain ⟨k3, e3, _, s3⟩ := DataW.trod_int Try.underlying3 h3
    obtain ⟨k4, e4, _, s4⟩ := DataW.trod_int Try.underlying3 h4
    obtain ⟨co, zs, cc, e5, r5⟩ := open_intCells h5
    obtain ⟨z0, z1, z2, m, _, g0, g1, g2⟩ := ent_fields Try.underlying25 h6
    simp only [ent_cells3, log_cellsS] at g0 g1 g2
    obtain ⟨kt, et, _, st⟩ := DataW.trod_int Try.underlying3 g0
    obtain ⟨ks, es, _, ss⟩ := DataW.trod_int Try.underlying3 g1
    obtain ⟨eo, l, ec, e6, r6⟩ := open_ents g2
    obtain ⟨k7, e7, _, s7⟩ := DataW.trod_int Try.underlying3 h7
    obtain ⟨k8, e8, _, s8⟩ := DataW.trod_int Try.underlying3 h8
    obtain ⟨k9, e9, _, s9⟩ := DataW.trod_int Try.underlying3 h9
    obtain ⟨vo, vs, vc, e10, r10⟩ := open_intCells h10
    obtain ⟨po, pl, pc, e11, r11⟩ := open_peerRow h11
    simp at e0 e1 e2 e3 e4 e5 e6 e7 e8 e9 e10 e11 et es
    subst e0 e1 e2 e3 e4 e5 e6 e7 e8 e9 e10 e11 et es
    exact ⟨⟨k0, k1, k2, k3, k4, zs, kt, ks, l, k7, k8, k9, vs, pl⟩, ⟨co, cc, eo, ec, vo, vc, po, pc⟩, rfl, ⟨bounds_i64 s0, bounds_i64 s1, bounds_i64 s2, bounds_i64 s3, bounds_i64 s4, bounds_i64 st, bounds_i64 ss, bounds_i64 s7, bounds_i64 s8, bounds_i64 s9, Nat.le_trans r5.1 r5.2.1, Nat.le_trans r6.1 r6.2.1, r6.2.2.2, Nat.le_trans r10.1 r10.2.1, Nat.le_trans r11.1 r11.2.1⟩, ⟨r5.2.2.1, r6.2.2.1, r10.2.2.1, r11.2.2.1⟩⟩
end Go.Proofs.Ytglibbpigmpanaa

namespace Go.Proofs.Ytglibbpigmpanaa
open Go.RowKit

theorem peerBulk_zero (l : List PeerD) : peerBulk l = 0 := by
  induction l with
  | nil => rfl
  | cons f l ih => simp [peerBulk, peerOne, ih]
set_option maxRecDepth 1000000 in
theorem szPeerS_any (ao : Option Addr) (l : List PeerD) (cap : Nat) (n : Int) (h0 : 0 ≤ n) (h1 : n ≤ 1048576) (hl : l.length ≤ 9223372036854775807) (w : World) :
    Calls Try.prog 13 #[.slice ao l.length cap, .int .i64 n] w fun e w' => ((n - l.length - peerBulk l < 0 ∧ e = .returned (.int .i64 (-1))) ∨ (0 ≤ n - l.length - peerBulk l ∧ e = .returned (.int .i64 (n - l.length)))) ∧ w' = w := by
  rw [peerBulk_zero]
  by_cases hn : n - (l.length : Int) < 0
  · go_enter Try.func13, Try.ntmps13
    go_wp2
    go_ret
    exact ⟨Or.inl ⟨by omega, rfl⟩, rfl⟩
  · go_enter Try.func13, Try.ntmps13
    go_wp2
    go_ret
    exact ⟨Or.inr ⟨by omega, rfl⟩, rfl⟩
end Go.Proofs.Ytglibbpigmpanaa
