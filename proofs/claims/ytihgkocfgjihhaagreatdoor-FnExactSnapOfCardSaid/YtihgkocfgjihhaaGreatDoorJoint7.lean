/-
  A node that came in, read as data.
  The walks of laws.szFile, szFileS, szDisk: a disk's letters are counted.
  A disk that came in, read as data: its files lie one behind the other.
-/
import Derived.Test.YtihgkocfgjihhaaGreatDoorJoint1
import Derived.Test.YtihgkocfgjihhaaGreatDoorJoint4
import Derived.Test.YtihgkocfgjihhaaGreatDoorJoint6
import Derived.Deep.Strs
import Derived.ChangeSame
import Derived.OpenShut
namespace Go.Proofs.YtihgkocfgjihhaaGreatDoor
open Go.ChangeShapes Go.WideShapes Go.RowKit Go.Deep

/-- numbers that are numbers, rows that are rows -/
structure NodeD.Fits (d : NodeD) : Prop where
  id : -9223372036854775808 ≤ d.id ∧ d.id ≤ 9223372036854775807
  term : -9223372036854775808 ≤ d.term ∧ d.term ≤ 9223372036854775807
  vote : -9223372036854775808 ≤ d.vote ∧ d.vote ≤ 9223372036854775807
  role : -9223372036854775808 ≤ d.role ∧ d.role ≤ 9223372036854775807
  lead : -9223372036854775808 ≤ d.lead ∧ d.lead ≤ 9223372036854775807
  start : -9223372036854775808 ≤ d.start ∧ d.start ≤ 9223372036854775807
  sterm : -9223372036854775808 ≤ d.sterm ∧ d.sterm ≤ 9223372036854775807
  commit : -9223372036854775808 ≤ d.commit ∧ d.commit ≤ 9223372036854775807
  clock : -9223372036854775808 ≤ d.clock ∧ d.clock ≤ 9223372036854775807
  limit : -9223372036854775808 ≤ d.limit ∧ d.limit ≤ 9223372036854775807
  conf : d.conf.length ≤ maxLen
  ents : d.ents.length ≤ maxLen
  each : EntsFit d.ents
  votes : d.votes.length ≤ maxLen
  peers : d.peers.length ≤ maxLen
set_option maxRecDepth 1000000 in
theorem node_cells1 : Tryz.prog.cellsOf 39 = 14 := by kernel_rfl
set_option maxRecDepth 1000000 in
theorem node_fields {H : Type} {enc : TypeId × Value → H} {P : Program} {W : World} {base : Nat} {sp : Nat → Bool} {held : Bool} {fuel : Nat} {t : TypeId} {f0 f1 f2 f3 f4 f5 f6 f7 f8 f9 f10 f11 : Field} {cs : List Value} {x : DataW H × List MemPlace} (ht : P.underlying t = some (.struct #[f0, f1, f2, f3, f4, f5, f6, f7, f8, f9, f10, f11])) (h : DataW.trod enc P W base sp held fuel t cs = some x) :
    ∃ y0 y1 y2 y3 y4 y5 y6 y7 y8 y9 y10 y11 n, cs.length = P.cellsOf t ∧ DataW.trod enc P W base sp held n f0.type ((cs.drop f0.offset).take (P.cellsOf f0.type)) = some y0 ∧ DataW.trod enc P W base sp held n f1.type ((cs.drop f1.offset).take (P.cellsOf f1.type)) = some y1 ∧ DataW.trod enc P W base sp held n f2.type ((cs.drop f2.offset).take (P.cellsOf f2.type)) = some y2 ∧ DataW.trod enc P W base sp held n f3.type ((cs.drop f3.offset).take (P.cellsOf f3.type)) = some y3 ∧ DataW.trod enc P W base sp held n f4.type ((cs.drop f4.offset).take (P.cellsOf f4.type)) = some y4 ∧ DataW.trod enc P W base sp held n f5.type ((cs.drop f5.offset).take (P.cellsOf f5.type)) = some y5 ∧ DataW.trod enc P W base sp held n f6.type ((cs.drop f6.offset).take (P.cellsOf f6.type)) = some y6 ∧ DataW.trod enc P W base sp held n f7.type ((cs.drop f7.offset).take (P.cellsOf f7.type)) = some y7 ∧ DataW.trod enc P W base sp held n f8.type ((cs.drop f8.offset).take (P.cellsOf f8.type)) = some y8 ∧ DataW.trod enc P W base sp held n f9.type ((cs.drop f9.offset).take (P.cellsOf f9.type)) = some y9 ∧ DataW.trod enc P W base sp held n f10.type ((cs.drop f10.offset).take (P.cellsOf f10.type)) = some y10 ∧ DataW.trod enc P W base sp held n f11.type ((cs.drop f11.offset).take (P.cellsOf f11.type)) = some y11 := by
  obtain ⟨xs, n, _, _, hl, hlen, hf⟩ := DataW.trod_struct ht h
  match xs, hlen with
  | [y0, y1, y2, y3, y4, y5, y6, y7, y8, y9, y10, y11], _ => exact ⟨y0, y1, y2, y3, y4, y5, y6, y7, y8, y9, y10, y11, n, hl, by simpa using hf 0 f0 rfl, by simpa using hf 1 f1 rfl, by simpa using hf 2 f2 rfl, by simpa using hf 3 f3 rfl, by simpa using hf 4 f4 rfl, by simpa using hf 5 f5 rfl, by simpa using hf 6 f6 rfl, by simpa using hf 7 f7 rfl, by simpa using hf 8 f8 rfl, by simpa using hf 9 f9 rfl, by simpa using hf 10 f10 rfl, by simpa using hf 11 f11 rfl⟩

set_option maxRecDepth 1000000 in
set_option maxHeartbeats 1000000 in
/-- a node as a parameter -/
theorem open_node {H : Type} {enc : TypeId × Value → H} {W : World} {r : Reach} {b0 base : Nat} {sp : Nat → Bool} {held : Bool} {v : Value} {dw : DataW H} {ps : List MemPlace} (hval : Value.okWide Tryz.prog W r b0 39 v) (hd : DataW.Trod enc Tryz.prog W base sp held 39 v dw ps) :
    ∃ (d : NodeD) (p : NodeL), v = .agg #[.int .i64 d.id, .int .i64 d.term, .int .i64 d.vote, .int .i64 d.role, .int .i64 d.lead, .slice p.co d.conf.length p.cc, .int .i64 d.start, .int .i64 d.sterm, .slice p.eo d.ents.length p.ec, .int .i64 d.commit, .int .i64 d.clock, .int .i64 d.limit, .slice p.vo d.votes.length p.vc, .slice p.po d.peers.length p.pc] ∧ d.Fits ∧ NodeAt W d p := by
  obtain ⟨cs, rfl, _⟩ := okWide_struct Tryz.underlying39 hval
  obtain ⟨fuel, hf⟩ := hd
  obtain ⟨y0, y1, y2, y3, y4, y5, y6, y7, y8, y9, y10, y11, n, hl, h0, h1, h2, h3, h4, h5, h6, h7, h8, h9, h10, h11⟩ := node_fields Tryz.underlying39 hf
  rw [node_cells1] at hl
  obtain ⟨c⟩ := cs
  have hl' : c.length = 14 := by simpa [Value.cells] using hl
  match c, hl' with
  | [x0, x1, x2, x3, x4, x5, x6, x7, x8, x9, x10, x11, x12, x13], _ =>
    simp only [Value.cells, ent_cells3, log_cells1, snap_cellsI, peer_cellsS] at h0 h1 h2 h3 h4 h5 h6 h7 h8 h9 h10 h11
    obtain ⟨k0, e0, _, s0⟩ := DataW.trod_int Tryz.underlying3 h0
    obtain ⟨k1, e1, _, s1⟩ := DataW.trod_int Tryz.underlying3 h1
    obtain ⟨k2, e2, _, s2⟩ := DataW.trod_int Tryz.underlying3 h2
    obtain ⟨k3, e3, _, s3⟩ := DataW.trod_int Tryz.underlying3 h3
    obtain ⟨k4, e4, _, s4⟩ := DataW.trod_int Tryz.underlying3 h4
    obtain ⟨co, zs, cc, e5, r5⟩ := open_intCells h5
    obtain ⟨z0, z1, z2, m, _, g0, g1, g2⟩ := ent_fields Tryz.underlying36 h6
    simp only [ent_cells3, log_cellsS] at g0 g1 g2
    obtain ⟨kt, et, _, st⟩ := DataW.trod_int Tryz.underlying3 g0
    obtain ⟨ks, es, _, ss⟩ := DataW.trod_int Tryz.underlying3 g1
    obtain ⟨eo, l, ec, e6, r6⟩ := open_ents g2
    obtain ⟨k7, e7, _, s7⟩ := DataW.trod_int Tryz.underlying3 h7
    obtain ⟨k8, e8, _, s8⟩ := DataW.trod_int Tryz.underlying3 h8
    obtain ⟨k9, e9, _, s9⟩ := DataW.trod_int Tryz.underlying3 h9
    obtain ⟨vo, vs, vc, e10, r10⟩ := open_intCells h10
    obtain ⟨po, pl, pc, e11, r11⟩ := open_peerRow h11
    simp at e0 e1 e2 e3 e4 e5 e6 e7 e8 e9 e10 e11 et es
    subst e0 e1 e2 e3 e4 e5 e6 e7 e8 e9 e10 e11 et es
    exact ⟨⟨k0, k1, k2, k3, k4, zs, kt, ks, l, k7, k8, k9, vs, pl⟩, ⟨co, cc, eo, ec, vo, vc, po, pc⟩, rfl, ⟨bounds_i64 s0, bounds_i64 s1, bounds_i64 s2, bounds_i64 s3, bounds_i64 s4, bounds_i64 st, bounds_i64 ss, bounds_i64 s7, bounds_i64 s8, bounds_i64 s9, Nat.le_trans r5.1 r5.2.1, Nat.le_trans r6.1 r6.2.1, r6.2.2.2, Nat.le_trans r10.1 r10.2.1, Nat.le_trans r11.1 r11.2.1⟩, ⟨r5.2.2.1, r6.2.2.1, r10.2.2.1, r11.2.2.1⟩⟩
end Go.Proofs.YtihgkocfgjihhaaGreatDoor

namespace Go.Proofs.YtihgkocfgjihhaaGreatDoor
open Go.RowKit

set_option maxRecDepth 1000000 in
theorem szFile_any (f : FileD) (n : Int) (h0 : 0 ≤ n) (h1 : n ≤ 1048576) (hs : f.name.size ≤ 9223372036854775807) (ht : f.text.size ≤ 9223372036854775807) (w : World) :
    Calls Tryz.prog 134 #[f.value, .int .i64 n] w fun e w' => ((n - f.name.size - f.text.size < 0 ∧ e = .returned (.int .i64 (-1))) ∨ (0 ≤ n - f.name.size - f.text.size ∧ e = .returned (.int .i64 (n - f.name.size - f.text.size)))) ∧ Below w.heap.size w w' := by
  unfold FileD.value
  go_enter Tryz.func134, Tryz.ntmps134
  go_wp2
  · go_ret
    exact ⟨Or.inl ⟨by omega, rfl⟩, (Below.refl _ _).alloc (Nat.le_refl _) _⟩
  · go_ret
    exact ⟨Or.inl ⟨by omega, rfl⟩, (Below.refl _ _).alloc (Nat.le_refl _) _⟩
  · go_ret
    exact ⟨Or.inr ⟨by omega, rfl⟩, (Below.refl _ _).alloc (Nat.le_refl _) _⟩

set_option maxRecDepth 1000000 in
set_option maxHeartbeats 1000000 in
theorem szFileS_any (ao : Option Addr) (l : List FileD) (cap : Nat) (n : Int) (h0 : 0 ≤ n) (h1 : n ≤ 1048576) (hl : l.length ≤ 9223372036854775807) (hf : FilesFit l) (w : World) (ha : FilesAt w ao l) :
    Calls Tryz.prog 88 #[.slice ao l.length cap, .int .i64 n] w fun e w' => ((n - l.length - fileBulk l < 0 ∧ e = .returned (.int .i64 (-1))) ∨ (0 ≤ n - l.length - fileBulk l ∧ e = .returned (.int .i64 (n - l.length - fileBulk l)))) ∧ Below w.heap.size w w' := by
  have HA := (show Hid (FilesAt w ao l) from ha)
  have HF := (show Hid (FilesFit l) from hf)
  have HN := fileBulk_nonneg l
  clear ha hf
  by_cases hn : n - (l.length : Int) < 0
  · go_enter Tryz.func88, Tryz.ntmps88
    go_wp2
    go_ret
    exact ⟨Or.inl ⟨by omega, rfl⟩, Below.refl _ _⟩
  · go_enter Tryz.func88, Tryz.ntmps88
    go_wp2
    go_loopg [1, 5] l.length (fun g y i wr => ∃ (k : Nat), k + g = l.length ∧ i = .int .i64 k ∧ y = .int .i64 (n - l.length - fileBulk (l.take k)) ∧ 0 ≤ n - l.length - fileBulk (l.take k) ∧ Hid (Below w.heap.size w wr))
    case atStart => exact ⟨0, by omega, rfl, by simp [fileBulk], by simp [fileBulk]; omega, (show Below _ _ _ from Below.refl _ _)⟩
    case round =>
      obtain ⟨k, hkg, rfl, rfl, hpos, BR⟩ := hrel
      cases gk with
      | zero =>
        have hlt : ¬ (k : Int) < (l.length : Int) := by omega
        rw [List.take_of_length_le (by omega)] at hpos ⊢
        go_wp2
        go_ret
        exact ⟨Or.inr ⟨by omega, rfl⟩, BR.out⟩
      | succ g =>
        have hlt : k < l.length := by omega
        have hlt' : (k : Int) < (l.length : Int) := by omega
        obtain ⟨b, off, rfl, hc⟩ := HA.out.on BR.out (by intro e; rw [e] at hlt; simp at hlt)
        obtain ⟨x0, x1, x2⟩ := hc k hlt
        clear hc
        have hfit := HF.out k hlt
        have C := (show Hid _ from szFile_any l[k] (n - l.length - fileBulk (l.take k)) hpos (by have := fileBulk_nonneg (l.take k); omega) hfit.1 hfit.2)
        have hstep := fileBulk_take l k hlt
        have hmore := fileBulk_le l (k + 1)
        unfold FileD.value at C
        rw [show n - (l.length : Int) - fileBulk (l.take k) - l[k].name.size - l[k].text.size = n - l.length - fileBulk (l.take (k + 1)) by omega] at C
        have HS : Hid (fileBulk (l.take (k + 1)) ≤ fileBulk l) := hmore
        clear hfit hstep hmore
        go_wp2_with fail
        refine (C.out _).mono ?_
        rintro e w1 ⟨(⟨hneg, rfl⟩ | ⟨hnn, rfl⟩), b1⟩
        · have B1 := (show Hid (Below w.heap.size w w1) from BR.out.trans (b1.mono BR.out.size))
          have hL : n - (l.length : Int) - fileBulk l < 0 := by have := HS.out; omega
          clear b1 C
          go_wp2
          go_ret
          exact ⟨Or.inl ⟨hL, rfl⟩, B1.out⟩
        · have B1 := (show Hid (Below w.heap.size w w1) from BR.out.trans (b1.mono BR.out.size))
          clear b1 C
          go_wp2
          go_roundg g
          case measure => omega
          case rel => exact ⟨k + 1, by omega, by go_num, rfl, hnn, B1⟩

theorem szDisk_any (ao : Option Addr) (l : List FileD) (cap : Nat) (n : Int) (h0 : 0 ≤ n) (h1 : n ≤ 1048576) (hl : l.length ≤ 9223372036854775807) (hf : FilesFit l) (w : World) (ha : FilesAt w ao l) :
    Calls Tryz.prog 38 #[.agg #[.slice ao l.length cap], .int .i64 n] w fun e w' => ((n - l.length - fileBulk l < 0 ∧ e = .returned (.int .i64 (-1))) ∨ (0 ≤ n - l.length - fileBulk l ∧ e = .returned (.int .i64 (n - l.length - fileBulk l)))) ∧ Below w.heap.size w w' := by
  have C := (show Hid _ from fun w ha => szFileS_any ao l cap n h0 h1 hl hf w ha)
  have HA := (show Hid (FilesAt w ao l) from ha)
  clear ha hf
  go_enter Tryz.func38, Tryz.ntmps38
  go_wp2_with fail
  refine (C.out _ (HA.out.on ((Below.refl _ _).alloc (Nat.le_refl _) _))).mono ?_
  rintro e w1 ⟨(⟨hneg, rfl⟩ | ⟨hnn, rfl⟩), b1⟩
  · have B1 := (show Hid (Below w.heap.size w w1) from ((Below.refl _ w).alloc (Nat.le_refl _) _).trans (b1.mono (by simp [World.alloc, -World.alloc_eq])))
    clear b1 C
    go_wp2
    go_ret
    exact ⟨Or.inl ⟨hneg, rfl⟩, B1.out⟩
  · have B1 := (show Hid (Below w.heap.size w w1) from ((Below.refl _ w).alloc (Nat.le_refl _) _).trans (b1.mono (by simp [World.alloc, -World.alloc_eq])))
    clear b1 C
    go_wp2
    go_ret
    exact ⟨Or.inr ⟨hnn, rfl⟩, B1.out⟩
end Go.Proofs.YtihgkocfgjihhaaGreatDoor

namespace Go.Proofs.YtihgkocfgjihhaaGreatDoor
open Go.ChangeShapes Go.WideShapes Go.RowKit Go.Deep

set_option maxRecDepth 1000000 in
theorem disk_cells1 : Tryz.prog.cellsOf 42 = 1 := by kernel_rfl
set_option maxRecDepth 1000000 in
theorem disk_cellsS : Tryz.prog.cellsOf 40 = 1 := by kernel_rfl
set_option maxRecDepth 1000000 in
theorem disk_cellsF : Tryz.prog.cellsOf 178 = 3 := by kernel_rfl
set_option maxRecDepth 1000000 in
theorem disk_cells9 : Tryz.prog.cellsOf 9 = 1 := by kernel_rfl
set_option maxRecDepth 1000000 in
theorem disk_cells3 : Tryz.prog.cellsOf 3 = 1 := by kernel_rfl

set_option maxRecDepth 1000000 in
/-- three cells that read as a file -/
theorem open_file {H : Type} {enc : TypeId × Value → H} {W : World} {base : Nat} {sp : Nat → Bool} {held : Bool} {fuel : Nat} {cs : List Value} {x : DataW H × List MemPlace} (h : DataW.trod enc Tryz.prog W base sp held fuel 178 cs = some x) :
    ∃ f : FileD, cs = fileEnc f ∧ f.name.size ≤ maxLen ∧ f.text.size ≤ maxLen ∧ -9223372036854775808 ≤ f.kept ∧ f.kept ≤ 9223372036854775807 := by
  obtain ⟨y0, y1, y2, n, _, hl, h0, h1, h2⟩ := trod_struct3 Tryz.underlying178 h
  rw [disk_cellsF] at hl
  match cs, hl with
  | [a, b, c], _ =>
    simp only [disk_cells9, disk_cells3] at h0 h1 h2
    obtain ⟨s, e0, _, s0⟩ := DataW.trod_string Tryz.underlying9 h0
    obtain ⟨t, e1, _, s1⟩ := DataW.trod_string Tryz.underlying9 h1
    obtain ⟨k, e2, _, s2⟩ := DataW.trod_int Tryz.underlying3 h2
    simp at e0 e1 e2
    subst e0 e1 e2
    have hb := bounds_i64 s2
    exact ⟨⟨s, t, k⟩, rfl, s0, s1, hb.1, hb.2⟩

/-- files whose numbers are numbers -/
def KeptFit (l : List FileD) : Prop := ∀ j (hj : j < l.length), -9223372036854775808 ≤ l[j].kept ∧ l[j].kept ≤ 9223372036854775807

set_option maxRecDepth 1000000 in
theorem open_files {H : Type} {enc : TypeId × Value → H} {W : World} {base : Nat} {sp : Nat → Bool} {held : Bool} {fuel : Nat} {cs : List Value} {x : DataW H × List MemPlace} (h : DataW.trod enc Tryz.prog W base sp held fuel 40 cs = some x) :
    ∃ ao l cap, cs = [.slice ao l.length cap] ∧ l.length ≤ cap ∧ cap ≤ maxLen ∧ FilesAt W ao l ∧ FilesFit l ∧ KeptFit l := by
  rcases open_slice Tryz.underlying40 h with ⟨rfl, _⟩ | ⟨a, len, cap, m, n, D, Pl, rfl, hb, hl, hm, hmm, _, hx⟩
  · exact ⟨none, [], 0, rfl, Nat.le_refl _, by unfold maxLen; omega, fun h => absurd rfl h, fun j hj => by simp at hj, fun j hj => by simp at hj⟩
  · have hlm : len ≤ m := by rw [hmm]; split <;> omega
    have each : ∀ i, i < len → ∃ f : FileD, (W.cells? base (a.add (i * 3)) 3 = some (fileEnc f)) ∧ f.name.size ≤ maxLen ∧ f.text.size ≤ maxLen ∧ -9223372036854775808 ≤ f.kept ∧ f.kept ≤ 9223372036854775807 := fun i hi => by
      obtain ⟨cs', e1, e2⟩ := hx i (by omega)
      rw [disk_cellsF] at e1
      obtain ⟨f, rfl, r⟩ := open_file e2
      exact ⟨f, e1, r⟩
    have hin : Inhabited FileD := ⟨⟨ByteArray.empty, ByteArray.empty, 0⟩⟩
    obtain ⟨F, hF⟩ := choose_lt each
    have hll : ((List.range len).map F).length = len := by simp
    refine ⟨some a, (List.range len).map F, cap, by rw [hll], by rw [hll]; exact hl, hm, ?_, ?_, ?_⟩
    · intro hne
      have hp : 0 < len := by
        rcases Nat.eq_zero_or_pos len with e | e
        · subst e; exact absurd rfl hne
        · exact e
      obtain ⟨b, off, spot⟩ := a
      have hc : ∀ i c, i < len → c < 3 → W.cell? ((Addr.add ⟨b, off, spot⟩ (i * 3)).add c) = (fileEnc (F i))[c]? := fun i c hi hc => (World.cells?_some (hF i hi).1).2.2 c hc
      have hspot : spot = none := by
        have := hc 0 0 hp (by omega)
        simpa [Addr.add] using World.cell?_spot this
      subst hspot
      refine ⟨b, off, rfl, fun j hj => ?_⟩
      simp only [List.getElem_map, List.getElem_range]
      have hj' : j < len := by omega
      have h0 := hc j 0 hj' (by omega)
      have h1 := hc j 1 hj' (by omega)
      have h2 := hc j 2 hj' (by omega)
      rw [add_plain, add_plain] at h0 h1 h2
      exact ⟨h0, h1, h2⟩
    · intro j hj
      simp only [List.getElem_map, List.getElem_range]
      have := (hF j (by omega)).2
      exact ⟨Nat.le_trans this.1 (show maxLen ≤ 9223372036854775807 by decide), Nat.le_trans this.2.1 (show maxLen ≤ 9223372036854775807 by decide)⟩
    · intro j hj
      simp only [List.getElem_map, List.getElem_range]
      exact (hF j (by omega)).2.2.2

set_option maxRecDepth 1000000 in
/-- a disk as a parameter -/
theorem open_disk {H : Type} {enc : TypeId × Value → H} {W : World} {r : Reach} {b0 base : Nat} {sp : Nat → Bool} {held : Bool} {v : Value} {d : DataW H} {ps : List MemPlace} (hval : Value.okWide Tryz.prog W r b0 42 v) (hd : DataW.Trod enc Tryz.prog W base sp held 42 v d ps) :
    ∃ ao l cap, v = .agg #[.slice ao l.length cap] ∧ l.length ≤ cap ∧ cap ≤ maxLen ∧ FilesAt W ao l ∧ FilesFit l ∧ KeptFit l := by
  obtain ⟨cs, rfl, _⟩ := okWide_struct Tryz.underlying42 hval
  obtain ⟨fuel, hf⟩ := hd
  obtain ⟨y0, n, _, hl, h0⟩ := trod_struct1 Tryz.underlying42 hf
  rw [disk_cells1] at hl
  simp only [disk_cellsS] at h0
  obtain ⟨ao, l, cap, e, r⟩ := open_files h0
  refine ⟨ao, l, cap, ?_, r⟩
  obtain ⟨c⟩ := cs
  have hl' : c.length = 1 := by simpa [Value.cells] using hl
  match c, hl' with
  | [x], _ =>
    simp [Value.cells] at e
    rw [e]
end Go.Proofs.YtihgkocfgjihhaaGreatDoor
