/-
  The walk of laws.szNode: a node's letters are counted.
-/
import Derived.Test.YteceaohhnjlmbaaJoint9
import Derived.Test.YteceaohhnjlmbaaJoint4
import Derived.Test.YteceaohhnjlmbaaJoint10
namespace Go.Proofs.Yteceaohhnjlmbaa
open Go.RowKit Go.Sort

/-- what is counted -/
def nodeBulk (d : NodeD) : Int := (d.conf.length : Int) + d.ents.length + entBulk d.ents + d.votes.length + d.peers.length
theorem nodeSmall {d : NodeD} (h : 0 ≤ (1048576 : Int) - nodeBulk d) : d.Small := by
  have h1 := entBulk_nonneg d.ents
  unfold nodeBulk at h
  exact ⟨by omega, by omega, (entsSmall (l := d.ents) (by omega)).2, by omega, by omega⟩
set_option maxRecDepth 1000000 in
set_option maxHeartbeats 1000000 in
theorem szNode_any (d : NodeD) (p : NodeL) (hd : d.Fits) (w : World) (ha : NodeAt w d p) :
    Calls Try.prog 6 #[.agg #[.int .i64 d.id, .int .i64 d.term, .int .i64 d.vote, .int .i64 d.role, .int .i64 d.lead, .slice p.co d.conf.length p.cc, .int .i64 d.start, .int .i64 d.sterm, .slice p.eo d.ents.length p.ec, .int .i64 d.commit, .int .i64 d.clock, .int .i64 d.limit, .slice p.vo d.votes.length p.vc, .slice p.po d.peers.length p.pc], .int .i64 1048576] w fun e w' => ((1048576 - nodeBulk d < 0 ∧ e = .returned (.int .i64 (-1))) ∨ (0 ≤ 1048576 - nodeBulk d ∧ ∃ x : Int, 0 ≤ x ∧ e = .returned (.int .i64 x))) ∧ Below w.heap.size w w' := by
  have hN := entBulk_nonneg d.ents
  have HS : Hid (nodeBulk d = (d.conf.length : Int) + d.ents.length + entBulk d.ents + d.votes.length + d.peers.length) := rfl
  have hl1 := hd.conf
  have hl2 := hd.ents
  have hl3 := hd.votes
  have hl4 := hd.peers
  unfold maxLen at hl1 hl2 hl3 hl4
  have C := hid (fun w => szIntS_any p.co d.conf.length p.cc 1048576 (by omega) (by omega) hl1 w)
  have D := hid (fun k h0 h1 w ha => szLog_any d.start d.sterm p.eo d.ents p.ec k h0 h1 hl2 hd.each w ha)
  have E := hid (fun k h0 h1 w => szIntS_any p.vo d.votes.length p.vc k h0 h1 hl3 w)
  have F := hid (fun k h0 h1 w => szPeerS_any p.po d.peers p.pc k h0 h1 hl4 w)
  have HX := hid (show BlockIs (w.alloc (.cells #[.int .i64 d.id, .int .i64 d.term, .int .i64 d.vote, .int .i64 d.role, .int .i64 d.lead, .slice p.co d.conf.length p.cc, .int .i64 d.start, .int .i64 d.sterm, .slice p.eo d.ents.length p.ec, .int .i64 d.commit, .int .i64 d.clock, .int .i64 d.limit, .slice p.vo d.votes.length p.vc, .slice p.po d.peers.length p.pc] 28)) w.heap.size 28 [.int .i64 d.id, .int .i64 d.term, .int .i64 d.vote, .int .i64 d.role, .int .i64 d.lead, .slice p.co d.conf.length p.cc, .int .i64 d.start, .int .i64 d.sterm, .slice p.eo d.ents.length p.ec, .int .i64 d.commit, .int .i64 d.clock, .int .i64 d.limit, .slice p.vo d.votes.length p.vc, .slice p.po d.peers.length p.pc] from heap_alloc_new w _)
  have HB := hid (below_more (Below.refl w.heap.size w) (.cells #[.int .i64 d.id, .int .i64 d.term, .int .i64 d.vote, .int .i64 d.role, .int .i64 d.lead, .slice p.co d.conf.length p.cc, .int .i64 d.start, .int .i64 d.sterm, .slice p.eo d.ents.length p.ec, .int .i64 d.commit, .int .i64 d.clock, .int .i64 d.limit, .slice p.vo d.votes.length p.vc, .slice p.po d.peers.length p.pc] 28))
  have HA := hid (ha.on HB.out)
  obtain ⟨W, hW⟩ : ∃ W, w.alloc (.cells #[.int .i64 d.id, .int .i64 d.term, .int .i64 d.vote, .int .i64 d.role, .int .i64 d.lead, .slice p.co d.conf.length p.cc, .int .i64 d.start, .int .i64 d.sterm, .slice p.eo d.ents.length p.ec, .int .i64 d.commit, .int .i64 d.clock, .int .i64 d.limit, .slice p.vo d.votes.length p.vc, .slice p.po d.peers.length p.pc] 28) = W := ⟨_, rfl⟩
  rw [hW] at HX HB HA
  have x5 := HX.out.cell (j := 5) rfl
  have x6 := HX.out.cell (j := 6) rfl
  have x7 := HX.out.cell (j := 7) rfl
  have x8 := HX.out.cell (j := 8) rfl
  clear ha hd
  go_enter Try.func6, Try.ntmps6
  go_wp2_with fail
  refine (C.out _).mono ?_
  rintro e w1 ⟨(⟨hneg, rfl⟩ | ⟨hnn, rfl⟩), hw⟩
  · rw [hw]
    clear hw C D E F
    go_wp2
    go_ret
    exact ⟨Or.inl ⟨by rw [HS.out]; omega, rfl⟩, HB.out⟩
  · rw [hw]
    clear hw w1
    obtain ⟨q1, hq1⟩ : ∃ q : Int, 1048576 - (d.conf.length : Int) = q := ⟨_, rfl⟩
    have HQ1 := hid hq1
    rw [hq1] at hnn ⊢
    have hq1' : q1 ≤ 1048576 := by omega
    clear hq1 C
    go_wp2_with fail
    refine (D.out q1 hnn hq1' _ HA.out.ents).mono ?_
    rintro e w2 ⟨(⟨hneg, rfl⟩ | ⟨hn2, rfl⟩), b2⟩
    · have B2 := hid (below_via HB.out b2)
      clear b2 D E F
      go_wp2
      go_ret
      exact ⟨Or.inl ⟨by have := HQ1.out; rw [HS.out]; omega, rfl⟩, B2.out⟩
    · have B2 := hid (below_via HB.out b2)
      have X2 := hid (HX.out.on b2 HX.out.lt)
      have y12 := X2.out.cell (j := 12) rfl
      have y13 := X2.out.cell (j := 13) rfl
      obtain ⟨q2, hq2⟩ : ∃ q : Int, q1 - (d.ents.length : Int) - entBulk d.ents = q := ⟨_, rfl⟩
      have HQ2 := hid hq2
      rw [hq2] at hn2 ⊢
      have hq2' : q2 ≤ 1048576 := by omega
      clear hq2 D b2 x5 x6 x7 x8 HX hW
      go_wp2_with fail
      refine (E.out q2 hn2 hq2' _).mono ?_
      rintro e w3 ⟨(⟨hneg, rfl⟩ | ⟨hn3, rfl⟩), hw⟩
      · rw [hw]
        clear hw E F
        go_wp2
        go_ret
        exact ⟨Or.inl ⟨by have := HQ1.out; have := HQ2.out; rw [HS.out]; omega, rfl⟩, B2.out⟩
      · rw [hw]
        clear hw w3
        obtain ⟨q3, hq3⟩ : ∃ q : Int, q2 - (d.votes.length : Int) = q := ⟨_, rfl⟩
        have HQ3 := hid hq3
        rw [hq3] at hn3 ⊢
        have hq3' : q3 ≤ 1048576 := by omega
        clear hq3 E
        have hpb := peerBulk_zero d.peers
        go_wp2_with fail
        refine (F.out q3 hn3 hq3' _).mono ?_
        rintro e w4 ⟨(⟨hneg, rfl⟩ | ⟨hn4, rfl⟩), hw⟩
        · rw [hw]
          clear hw F
          go_wp2
          go_ret
          exact ⟨Or.inl ⟨by have := HQ1.out; have := HQ2.out; have := HQ3.out; rw [HS.out]; omega, rfl⟩, B2.out⟩
        · rw [hw]
          clear hw w4
          obtain ⟨q4, hq4⟩ : ∃ q : Int, q3 - (d.peers.length : Int) = q := ⟨_, rfl⟩
          have HQ4 := hid hq4
          rw [hq4] at ⊢
          have hq4' : 0 ≤ q4 := by omega
          clear hq4 F
          go_wp2
          go_ret
          exact ⟨Or.inr ⟨by have := HQ1.out; have := HQ2.out; have := HQ3.out; have := HQ4.out; rw [HS.out]; omega, q4, hq4', rfl⟩, B2.out⟩
end Go.Proofs.Yteceaohhnjlmbaa
