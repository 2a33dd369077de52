/-
  The walk of spec.NodeOk: when a node is right.
-/
import Derived.Test.YtglibbpigmpanaaJoint18
import Derived.Test.YtglibbpigmpanaaJoint19
import Derived.Test.YtglibbpigmpanaaJoint16
import Derived.Test.YtglibbpigmpanaaJoint20
import Derived.Test.YtglibbpigmpanaaJoint15
import Derived.Deep.QuietTactic
import Derived.BigQuiet
import Derived.Lib.QuietBelow
import Derived.Deep.RegionWith
import Derived.Deep.CutBlock
import Derived.Deep.DeepCutAuto
import Derived.Deep.LoopGhost
namespace Go.Proofs.Ytglibbpigmpanaa
open Go.RowKit Go.Sort

theorem log_lastS {d : NodeD} (hh : nodeHead d = true) : wrap64 (d.start + d.ents.length) = lastD d ∧ 0 ≤ lastD d ∧ lastD d ≤ 1000000 := by
  obtain ⟨h1, h2, h3, h4, _⟩ := node_last hh
  unfold lastD at h4 ⊢
  exact ⟨IntWalk.wrap64_in _ (by omega), by omega, h4⟩
theorem node_early {d : NodeD} (h : (within d.id 1 4 && confOk d.conf && logOk d.start d.sterm d.ents && within d.term 0 100000 && within d.vote 0 4 && within d.lead 0 4 && within d.role 0 2) = false) : nodeOk d = false := by
  cases hq : nodeOk d with
  | false => rfl
  | true =>
    simp only [nodeOk, nodeHead, nodeMid, Bool.and_eq_true] at hq
    obtain ⟨⟨⟨⟨a1, a2⟩, a3⟩, ⟨⟨⟨⟨⟨⟨⟨b1, b2⟩, b3⟩, b4⟩, _⟩, _⟩, _⟩, _⟩⟩, _⟩ := hq
    rw [a1, a2, a3, b1, b2, b3, b4] at h
    exact absurd h (by decide)
/-- what is asked behind the first seven -/
theorem node_late {d : NodeD} (hh : nodeHead d = true) (h4 : within d.term 0 100000 = true) (h5 : within d.vote 0 4 = true) (h6 : within d.lead 0 4 = true) (h7 : within d.role 0 2 = true) : nodeOk d = (decide (lastT d.sterm d.ents ≤ d.term) && within d.commit d.start (lastD d) && within d.clock 0 20 && within d.limit 1 20 && riseTo d.votes d.votes.length && (decide (d.votes.length = 0) || decide (d.role = 1)) && (if d.role = 2 then peersAre d.peers (othersD (confTo d.conf d.ents d.ents.length) d.id) (lastD d) else decide (d.peers.length = 0))) := by
  rw [nodeOk, hh, nodeMid, roleD, h4, h5, h6, h7]
  simp only [Bool.true_and, Bool.and_assoc]
set_option maxRecDepth 1000000 in
set_option maxHeartbeats 8000000 in
theorem specNodeOk_any (d : NodeD) (p : NodeL) (hs : d.Small) (w : World) (ha : NodeAt w d p) :
    Calls Try.prog 14 #[.agg #[.int .i64 d.id, .int .i64 d.term, .int .i64 d.vote, .int .i64 d.role, .int .i64 d.lead, .slice p.co d.conf.length p.cc, .int .i64 d.start, .int .i64 d.sterm, .slice p.eo d.ents.length p.ec, .int .i64 d.commit, .int .i64 d.clock, .int .i64 d.limit, .slice p.vo d.votes.length p.vc, .slice p.po d.peers.length p.pc]] w fun e w' => e = .returned (.bool (nodeOk d)) ∧ Below w.heap.size w w' := by
  obtain ⟨co, cc, eo, ec, vo, vc, po, pc⟩ := p
  obtain ⟨hac, hae, hav, hap⟩ := ha
  dsimp only at hac hae hav hap ⊢
  have hb := below_more (Below.refl w.heap.size w) (.cells #[.int .i64 d.id, .int .i64 d.term, .int .i64 d.vote, .int .i64 d.role, .int .i64 d.lead, .slice co d.conf.length cc, .int .i64 d.start, .int .i64 d.sterm, .slice eo d.ents.length ec, .int .i64 d.commit, .int .i64 d.clock, .int .i64 d.limit, .slice vo d.votes.length vc, .slice po d.peers.length pc] 35)
  have X0 : Hid (BlockIs (w.alloc (.cells #[.int .i64 d.id, .int .i64 d.term, .int .i64 d.vote, .int .i64 d.role, .int .i64 d.lead, .slice co d.conf.length cc, .int .i64 d.start, .int .i64 d.sterm, .slice eo d.ents.length ec, .int .i64 d.commit, .int .i64 d.clock, .int .i64 d.limit, .slice vo d.votes.length vc, .slice po d.peers.length pc] 35)) w.heap.size 35 [.int .i64 d.id, .int .i64 d.term, .int .i64 d.vote, .int .i64 d.role, .int .i64 d.lead, .slice co d.conf.length cc, .int .i64 d.start, .int .i64 d.sterm, .slice eo d.ents.length ec, .int .i64 d.commit, .int .i64 d.clock, .int .i64 d.limit, .slice vo d.votes.length vc, .slice po d.peers.length pc]) := heap_alloc_new w _
  obtain ⟨W, hW⟩ : ∃ W, w.alloc (.cells #[.int .i64 d.id, .int .i64 d.term, .int .i64 d.vote, .int .i64 d.role, .int .i64 d.lead, .slice co d.conf.length cc, .int .i64 d.start, .int .i64 d.sterm, .slice eo d.ents.length ec, .int .i64 d.commit, .int .i64 d.clock, .int .i64 d.limit, .slice vo d.votes.length vc, .slice po d.peers.length pc] 35) = W := ⟨_, rfl⟩
  rw [hW] at hb X0
  have B := hid hb
  have HAC := hid hac
  have HAE := hid hae
  have HAV := hid hav
  have HAP := hid hap
  have hcl := hs.conf
  have hel := hs.ents
  have hvl := hs.votes
  have hpl := hs.peers
  have HS := hid hs
  have C2' := fun w ha => specConfOk_any co d.conf cc hcl w ha
  have C3' := fun w ha => specLogOk_any d.start d.sterm eo d.ents ec hel HS.out.each w ha
  clear hac hae hav hap hb hs
  have c0 := X0.out.cell (j := 0) rfl
  have c5 := X0.out.cell (j := 5) rfl
  have c6 := X0.out.cell (j := 6) rfl
  have c7 := X0.out.cell (j := 7) rfl
  have c8 := X0.out.cell (j := 8) rfl
  have c1 := X0.out.cell (j := 1) rfl
  have c2 := X0.out.cell (j := 2) rfl
  have c3 := X0.out.cell (j := 3) rfl
  have c4 := X0.out.cell (j := 4) rfl
  have I1' := fun w => l01In_any d.id 1 4 w
  cases h0 : within d.id 1 4 with
  | false =>
    have HR : Hid (nodeOk d = false) := node_early (by simp [h0])
    rw [h0] at I1'
    have I1 := hid I1'
    clear I1' h0
    go_enter Try.func14, Try.ntmps14
    go_wp2_with (first | (go_at_call 15; with_reducible refine Calls.mono (I1.out _) ?_; rintro e w9 ⟨rfl, hw⟩; rw [hw]; clear hw w9) | fail)
    go_ret
    exact ⟨by rw [HR.out]; rfl, B.out⟩
  | true =>
  rw [h0] at I1'
  have I1 := hid I1'
  clear I1'
  cases h1 : confOk d.conf with
  | false =>
    have HR : Hid (nodeOk d = false) := node_early (by simp [h0, h1])
    rw [h1] at C2'
    have C2 := hid C2'
    clear C2' h0 h1
    go_enter Try.func14, Try.ntmps14
    go_wp2_with (first | (go_at_call 15; with_reducible refine Calls.mono (I1.out _) ?_; rintro e w9 ⟨rfl, hw⟩; rw [hw]; clear hw w9) | (go_at_call 38; refine (C2.out _ (HAC.out.on B.out)).mono ?_; rintro e w2 ⟨rfl, hb⟩; have X2 := hid (X0.out.on hb X0.out.lt); have B2 := hid (below_via B.out hb); have d6 := X2.out.cell (j := 6) rfl; have d7 := X2.out.cell (j := 7) rfl; have d8 := X2.out.cell (j := 8) rfl; clear hb c0 c1 c2 c3 c4 c5 c6 c7 c8) | fail)
    go_ret
    exact ⟨by rw [HR.out]; rfl, B2.out⟩
  | true =>
  rw [h1] at C2'
  have C2 := hid C2'
  clear C2'
  cases h2 : logOk d.start d.sterm d.ents with
  | false =>
    have HR : Hid (nodeOk d = false) := node_early (by simp [h0, h1, h2])
    rw [h2] at C3'
    have C3 := hid C3'
    clear C3' h0 h1 h2
    go_enter Try.func14, Try.ntmps14
    go_wp2_with (first | (go_at_call 15; with_reducible refine Calls.mono (I1.out _) ?_; rintro e w9 ⟨rfl, hw⟩; rw [hw]; clear hw w9) | (go_at_call 38; refine (C2.out _ (HAC.out.on B.out)).mono ?_; rintro e w2 ⟨rfl, hb⟩; have X2 := hid (X0.out.on hb X0.out.lt); have B2 := hid (below_via B.out hb); have d6 := X2.out.cell (j := 6) rfl; have d7 := X2.out.cell (j := 7) rfl; have d8 := X2.out.cell (j := 8) rfl; clear hb c0 c1 c2 c3 c4 c5 c6 c7 c8) | (go_at_call 39; refine (C3.out _ (HAE.out.on B2.out)).mono ?_; rintro e w3 ⟨rfl, hb⟩; have X3 := hid (X2.out.on hb X2.out.lt); have B3 := hid (below_via B2.out hb); have g1 := X3.out.cell (j := 1) rfl; have g2 := X3.out.cell (j := 2) rfl; have g3 := X3.out.cell (j := 3) rfl; have g4 := X3.out.cell (j := 4) rfl; have g6 := X3.out.cell (j := 6) rfl; have g7 := X3.out.cell (j := 7) rfl; have g8 := X3.out.cell (j := 8) rfl; clear hb X2 B2 d6 d7 d8) | fail)
    go_ret
    exact ⟨by rw [HR.out]; rfl, B3.out⟩
  | true =>
  rw [h2] at C3'
  have C3 := hid C3'
  clear C3'
  have I4' := fun w => l01In_any d.term 0 100000 w
  cases h3 : within d.term 0 100000 with
  | false =>
    have HR : Hid (nodeOk d = false) := node_early (by simp [h0, h1, h2, h3])
    rw [h3] at I4'
    have I4 := hid I4'
    clear I4' h0 h1 h2 h3
    go_enter Try.func14, Try.ntmps14
    go_wp2_with (first | (go_at_call 15; with_reducible refine Calls.mono (I1.out _) ?_; rintro e w9 ⟨rfl, hw⟩; rw [hw]; clear hw w9) | (go_at_call 38; refine (C2.out _ (HAC.out.on B.out)).mono ?_; rintro e w2 ⟨rfl, hb⟩; have X2 := hid (X0.out.on hb X0.out.lt); have B2 := hid (below_via B.out hb); have d6 := X2.out.cell (j := 6) rfl; have d7 := X2.out.cell (j := 7) rfl; have d8 := X2.out.cell (j := 8) rfl; clear hb c0 c1 c2 c3 c4 c5 c6 c7 c8) | (go_at_call 39; refine (C3.out _ (HAE.out.on B2.out)).mono ?_; rintro e w3 ⟨rfl, hb⟩; have X3 := hid (X2.out.on hb X2.out.lt); have B3 := hid (below_via B2.out hb); have g1 := X3.out.cell (j := 1) rfl; have g2 := X3.out.cell (j := 2) rfl; have g3 := X3.out.cell (j := 3) rfl; have g4 := X3.out.cell (j := 4) rfl; have g6 := X3.out.cell (j := 6) rfl; have g7 := X3.out.cell (j := 7) rfl; have g8 := X3.out.cell (j := 8) rfl; clear hb X2 B2 d6 d7 d8) | (go_at_call 15; with_reducible refine Calls.mono (I4.out _) ?_; rintro e w9 ⟨rfl, hw⟩; rw [hw]; clear hw w9) | fail)
    go_ret
    exact ⟨by rw [HR.out]; rfl, B3.out⟩
  | true =>
  rw [h3] at I4'
  have I4 := hid I4'
  clear I4'
  have I5' := fun w => l01In_any d.vote 0 4 w
  cases h4 : within d.vote 0 4 with
  | false =>
    have HR : Hid (nodeOk d = false) := node_early (by simp [h0, h1, h2, h3, h4])
    rw [h4] at I5'
    have I5 := hid I5'
    clear I5' h0 h1 h2 h3 h4
    go_enter Try.func14, Try.ntmps14
    go_wp2_with (first | (go_at_call 15; with_reducible refine Calls.mono (I1.out _) ?_; rintro e w9 ⟨rfl, hw⟩; rw [hw]; clear hw w9) | (go_at_call 38; refine (C2.out _ (HAC.out.on B.out)).mono ?_; rintro e w2 ⟨rfl, hb⟩; have X2 := hid (X0.out.on hb X0.out.lt); have B2 := hid (below_via B.out hb); have d6 := X2.out.cell (j := 6) rfl; have d7 := X2.out.cell (j := 7) rfl; have d8 := X2.out.cell (j := 8) rfl; clear hb c0 c1 c2 c3 c4 c5 c6 c7 c8) | (go_at_call 39; refine (C3.out _ (HAE.out.on B2.out)).mono ?_; rintro e w3 ⟨rfl, hb⟩; have X3 := hid (X2.out.on hb X2.out.lt); have B3 := hid (below_via B2.out hb); have g1 := X3.out.cell (j := 1) rfl; have g2 := X3.out.cell (j := 2) rfl; have g3 := X3.out.cell (j := 3) rfl; have g4 := X3.out.cell (j := 4) rfl; have g6 := X3.out.cell (j := 6) rfl; have g7 := X3.out.cell (j := 7) rfl; have g8 := X3.out.cell (j := 8) rfl; clear hb X2 B2 d6 d7 d8) | (go_at_call 15; with_reducible refine Calls.mono (I4.out _) ?_; rintro e w9 ⟨rfl, hw⟩; rw [hw]; clear hw w9) | (go_at_call 15; with_reducible refine Calls.mono (I5.out _) ?_; rintro e w9 ⟨rfl, hw⟩; rw [hw]; clear hw w9) | fail)
    go_ret
    exact ⟨by rw [HR.out]; rfl, B3.out⟩
  | true =>
  rw [h4] at I5'
  have I5 := hid I5'
  clear I5'
  have I6' := fun w => l01In_any d.lead 0 4 w
  cases h5 : within d.lead 0 4 with
  | false =>
    have HR : Hid (nodeOk d = false) := node_early (by simp [h0, h1, h2, h3, h4, h5])
    rw [h5] at I6'
    have I6 := hid I6'
    clear I6' h0 h1 h2 h3 h4 h5
    go_enter Try.func14, Try.ntmps14
    go_wp2_with (first | (go_at_call 15; with_reducible refine Calls.mono (I1.out _) ?_; rintro e w9 ⟨rfl, hw⟩; rw [hw]; clear hw w9) | (go_at_call 38; refine (C2.out _ (HAC.out.on B.out)).mono ?_; rintro e w2 ⟨rfl, hb⟩; have X2 := hid (X0.out.on hb X0.out.lt); have B2 := hid (below_via B.out hb); have d6 := X2.out.cell (j := 6) rfl; have d7 := X2.out.cell (j := 7) rfl; have d8 := X2.out.cell (j := 8) rfl; clear hb c0 c1 c2 c3 c4 c5 c6 c7 c8) | (go_at_call 39; refine (C3.out _ (HAE.out.on B2.out)).mono ?_; rintro e w3 ⟨rfl, hb⟩; have X3 := hid (X2.out.on hb X2.out.lt); have B3 := hid (below_via B2.out hb); have g1 := X3.out.cell (j := 1) rfl; have g2 := X3.out.cell (j := 2) rfl; have g3 := X3.out.cell (j := 3) rfl; have g4 := X3.out.cell (j := 4) rfl; have g6 := X3.out.cell (j := 6) rfl; have g7 := X3.out.cell (j := 7) rfl; have g8 := X3.out.cell (j := 8) rfl; clear hb X2 B2 d6 d7 d8) | (go_at_call 15; with_reducible refine Calls.mono (I4.out _) ?_; rintro e w9 ⟨rfl, hw⟩; rw [hw]; clear hw w9) | (go_at_call 15; with_reducible refine Calls.mono (I5.out _) ?_; rintro e w9 ⟨rfl, hw⟩; rw [hw]; clear hw w9) | (go_at_call 15; with_reducible refine Calls.mono (I6.out _) ?_; rintro e w9 ⟨rfl, hw⟩; rw [hw]; clear hw w9) | fail)
    go_ret
    exact ⟨by rw [HR.out]; rfl, B3.out⟩
  | true =>
  rw [h5] at I6'
  have I6 := hid I6'
  clear I6'
  have I7' := fun w => l01In_any d.role 0 2 w
  cases h6 : within d.role 0 2 with
  | false =>
    have HR : Hid (nodeOk d = false) := node_early (by simp [h0, h1, h2, h3, h4, h5, h6])
    rw [h6] at I7'
    have I7 := hid I7'
    clear I7' h0 h1 h2 h3 h4 h5 h6
    go_enter Try.func14, Try.ntmps14
    go_wp2_with (first | (go_at_call 15; with_reducible refine Calls.mono (I1.out _) ?_; rintro e w9 ⟨rfl, hw⟩; rw [hw]; clear hw w9) | (go_at_call 38; refine (C2.out _ (HAC.out.on B.out)).mono ?_; rintro e w2 ⟨rfl, hb⟩; have X2 := hid (X0.out.on hb X0.out.lt); have B2 := hid (below_via B.out hb); have d6 := X2.out.cell (j := 6) rfl; have d7 := X2.out.cell (j := 7) rfl; have d8 := X2.out.cell (j := 8) rfl; clear hb c0 c1 c2 c3 c4 c5 c6 c7 c8) | (go_at_call 39; refine (C3.out _ (HAE.out.on B2.out)).mono ?_; rintro e w3 ⟨rfl, hb⟩; have X3 := hid (X2.out.on hb X2.out.lt); have B3 := hid (below_via B2.out hb); have g1 := X3.out.cell (j := 1) rfl; have g2 := X3.out.cell (j := 2) rfl; have g3 := X3.out.cell (j := 3) rfl; have g4 := X3.out.cell (j := 4) rfl; have g6 := X3.out.cell (j := 6) rfl; have g7 := X3.out.cell (j := 7) rfl; have g8 := X3.out.cell (j := 8) rfl; clear hb X2 B2 d6 d7 d8) | (go_at_call 15; with_reducible refine Calls.mono (I4.out _) ?_; rintro e w9 ⟨rfl, hw⟩; rw [hw]; clear hw w9) | (go_at_call 15; with_reducible refine Calls.mono (I5.out _) ?_; rintro e w9 ⟨rfl, hw⟩; rw [hw]; clear hw w9) | (go_at_call 15; with_reducible refine Calls.mono (I6.out _) ?_; rintro e w9 ⟨rfl, hw⟩; rw [hw]; clear hw w9) | (go_at_call 15; with_reducible refine Calls.mono (I7.out _) ?_; rintro e w9 ⟨rfl, hw⟩; rw [hw]; clear hw w9) | fail)
    go_ret
    exact ⟨by rw [HR.out]; rfl, B3.out⟩
  | true =>
  rw [h6] at I7'
  have I7 := hid I7'
  clear I7'
  have hh : nodeHead d = true := by rw [nodeHead, h0, h1, h2]; rfl
  have HN := hid (node_late hh h3 h4 h5 h6)
  have hrl := within_iff.1 h6
  clear h0 h1 h2 h3 h4 h5 h6
  obtain ⟨l1, l2, l3⟩ := log_lastS hh
  obtain ⟨n1, n2, n3, _⟩ := node_last hh
  have CL' := fun w ha => specLogLast_any d.start d.sterm (by omega) eo d.ents ec (by omega) w ha
  rw [l1] at CL'
  have HH := hid hh
  have R' := fun w ha => l05Rise_any vo d.votes vc hvl w ha
  obtain ⟨last, hla⟩ : ∃ x, lastD d = x := ⟨_, rfl⟩
  obtain ⟨lt, hlt⟩ : ∃ x, lastT d.sterm d.ents = x := ⟨_, rfl⟩
  rw [hla] at CL' HN l2 l3
  rw [hlt] at CL' HN
  have CL := hid CL'
  clear CL' hla hlt l1 hh n3
  go_enter Try.func14, Try.ntmps14
  go_wp2_with (first | (go_at_call 15; with_reducible refine Calls.mono (I1.out _) ?_; rintro e w9 ⟨rfl, hw⟩; rw [hw]; clear hw w9) | (go_at_call 38; refine (C2.out _ (HAC.out.on B.out)).mono ?_; rintro e w2 ⟨rfl, hb⟩; have X2 := hid (X0.out.on hb X0.out.lt); have B2 := hid (below_via B.out hb); have d6 := X2.out.cell (j := 6) rfl; have d7 := X2.out.cell (j := 7) rfl; have d8 := X2.out.cell (j := 8) rfl; clear hb c0 c1 c2 c3 c4 c5 c6 c7 c8) | (go_at_call 39; refine (C3.out _ (HAE.out.on B2.out)).mono ?_; rintro e w3 ⟨rfl, hb⟩; have X3 := hid (X2.out.on hb X2.out.lt); have B3 := hid (below_via B2.out hb); have g1 := X3.out.cell (j := 1) rfl; have g2 := X3.out.cell (j := 2) rfl; have g3 := X3.out.cell (j := 3) rfl; have g4 := X3.out.cell (j := 4) rfl; have g6 := X3.out.cell (j := 6) rfl; have g7 := X3.out.cell (j := 7) rfl; have g8 := X3.out.cell (j := 8) rfl; clear hb X2 B2 d6 d7 d8) | (go_at_call 15; with_reducible refine Calls.mono (I4.out _) ?_; rintro e w9 ⟨rfl, hw⟩; rw [hw]; clear hw w9) | (go_at_call 15; with_reducible refine Calls.mono (I5.out _) ?_; rintro e w9 ⟨rfl, hw⟩; rw [hw]; clear hw w9) | (go_at_call 15; with_reducible refine Calls.mono (I6.out _) ?_; rintro e w9 ⟨rfl, hw⟩; rw [hw]; clear hw w9) | (go_at_call 15; with_reducible refine Calls.mono (I7.out _) ?_; rintro e w9 ⟨rfl, hw⟩; rw [hw]; clear hw w9) | fail)
  refine (CL.out _ (HAE.out.on B3.out)).mono ?_
  rintro e w4 ⟨rfl, hb⟩
  have X4 := hid (X3.out.on hb X3.out.lt)
  have B4 := hid (below_via B3.out hb)
  clear hb X3 B3 CL C2 C3 X0 B I1 I4 I5 I6 I7 g1 g2 g3 g4 g6 g7 g8
  have c0 := X4.out.cell (j := 0) rfl
  have c1 := X4.out.cell (j := 1) rfl
  have c2 := X4.out.cell (j := 2) rfl
  have c3 := X4.out.cell (j := 3) rfl
  have c4 := X4.out.cell (j := 4) rfl
  have c5 := X4.out.cell (j := 5) rfl
  have c6 := X4.out.cell (j := 6) rfl
  have c7 := X4.out.cell (j := 7) rfl
  have c8 := X4.out.cell (j := 8) rfl
  have c9 := X4.out.cell (j := 9) rfl
  have c10 := X4.out.cell (j := 10) rfl
  have c11 := X4.out.cell (j := 11) rfl
  have c12 := X4.out.cell (j := 12) rfl
  have c13 := X4.out.cell (j := 13) rfl
  by_cases q0 : lt ≤ d.term
  rotate_left
  · have q0' : d.term < lt := by omega
    have HR : Hid (nodeOk d = false) := (show _ = _ by rw [HN.out]; simp [q0])
    go_wp2_with (first | fail)
    go_ret
    exact ⟨by rw [HR.out]; rfl, B4.out⟩
  have J1' := fun w => l01In_any d.commit d.start last w
  cases q1 : within d.commit d.start last with
  | false =>
    rw [q1] at J1'
    have J1 := hid J1'
    clear J1'
    have HR : Hid (nodeOk d = false) := (show _ = _ by rw [HN.out]; simp [q0, q1])
    go_wp2_with (first | (go_at_call 15; with_reducible refine Calls.mono (J1.out _) ?_; rintro e w9 ⟨rfl, hw⟩; rw [hw]; clear hw w9) | fail)
    go_ret
    exact ⟨by rw [HR.out]; rfl, B4.out⟩
  | true =>
  rw [q1] at J1'
  have J1 := hid J1'
  clear J1'
  have J2' := fun w => l01In_any d.clock 0 20 w
  cases q2 : within d.clock 0 20 with
  | false =>
    rw [q2] at J2'
    have J2 := hid J2'
    clear J2'
    have HR : Hid (nodeOk d = false) := (show _ = _ by rw [HN.out]; simp [q0, q1, q2])
    go_wp2_with (first | (go_at_call 15; with_reducible refine Calls.mono (J1.out _) ?_; rintro e w9 ⟨rfl, hw⟩; rw [hw]; clear hw w9) | (go_at_call 15; with_reducible refine Calls.mono (J2.out _) ?_; rintro e w9 ⟨rfl, hw⟩; rw [hw]; clear hw w9) | fail)
    go_ret
    exact ⟨by rw [HR.out]; rfl, B4.out⟩
  | true =>
  rw [q2] at J2'
  have J2 := hid J2'
  clear J2'
  have J3' := fun w => l01In_any d.limit 1 20 w
  cases q3 : within d.limit 1 20 with
  | false =>
    rw [q3] at J3'
    have J3 := hid J3'
    clear J3'
    have HR : Hid (nodeOk d = false) := (show _ = _ by rw [HN.out]; simp [q0, q1, q2, q3])
    go_wp2_with (first | (go_at_call 15; with_reducible refine Calls.mono (J1.out _) ?_; rintro e w9 ⟨rfl, hw⟩; rw [hw]; clear hw w9) | (go_at_call 15; with_reducible refine Calls.mono (J2.out _) ?_; rintro e w9 ⟨rfl, hw⟩; rw [hw]; clear hw w9) | (go_at_call 15; with_reducible refine Calls.mono (J3.out _) ?_; rintro e w9 ⟨rfl, hw⟩; rw [hw]; clear hw w9) | fail)
    go_ret
    exact ⟨by rw [HR.out]; rfl, B4.out⟩
  | true =>
  rw [q3] at J3'
  have J3 := hid J3'
  clear J3'
  cases q4 : riseTo d.votes d.votes.length with
  | false =>
    rw [q4] at R'
    have RV := hid R'
    clear R'
    have HR : Hid (nodeOk d = false) := (show _ = _ by rw [HN.out]; simp [q0, q1, q2, q3, q4])
    go_wp2_with (first | (go_at_call 15; with_reducible refine Calls.mono (J1.out _) ?_; rintro e w9 ⟨rfl, hw⟩; rw [hw]; clear hw w9) | (go_at_call 15; with_reducible refine Calls.mono (J2.out _) ?_; rintro e w9 ⟨rfl, hw⟩; rw [hw]; clear hw w9) | (go_at_call 15; with_reducible refine Calls.mono (J3.out _) ?_; rintro e w9 ⟨rfl, hw⟩; rw [hw]; clear hw w9) | (go_at_call 41; refine (RV.out _ (HAV.out.on B4.out)).mono ?_; rintro e w5 ⟨rfl, hb⟩; have X5 := hid (X4.out.on hb X4.out.lt); have B5 := hid (below_via B4.out hb); have g0 := X5.out.cell (j := 0) rfl; have g3 := X5.out.cell (j := 3) rfl; have g12 := X5.out.cell (j := 12) rfl; have g13 := X5.out.cell (j := 13) rfl; have XA := X5.out.on (below_more (Below.refl _ _) (.cells #[] 3)) X5.out.lt; have a3 := XA.cell (j := 3) rfl; have a13 := XA.cell (j := 13) rfl; clear XA hb) | fail)
    go_ret
    exact ⟨by rw [HR.out]; rfl, B5.out⟩
  | true =>
  rw [q4] at R'
  have RV := hid R'
  clear R'
  by_cases q5 : d.votes.length = 0 ∨ d.role = 1
  rotate_left
  · have v0 : ¬ d.votes.length = 0 := fun q => q5 (Or.inl q)
    have v1 : ¬ d.role = 1 := fun q => q5 (Or.inr q)
    have v0' : (0 : Int) < (d.votes.length : Int) := by omega
    have v1b : (d.role == 1) = false := by rw [beq_eq_false_iff_ne]; exact v1
    have v1n : (d.role != 1) = true := by simp [v1]
    have HR : Hid (nodeOk d = false) := (show _ = _ by rw [HN.out]; simp [q0, q1, q2, q3, q4, v0, v1])
    clear v0 v1 q5
    go_wp2_with (first | (go_at_call 15; with_reducible refine Calls.mono (J1.out _) ?_; rintro e w9 ⟨rfl, hw⟩; rw [hw]; clear hw w9) | (go_at_call 15; with_reducible refine Calls.mono (J2.out _) ?_; rintro e w9 ⟨rfl, hw⟩; rw [hw]; clear hw w9) | (go_at_call 15; with_reducible refine Calls.mono (J3.out _) ?_; rintro e w9 ⟨rfl, hw⟩; rw [hw]; clear hw w9) | (go_at_call 41; refine (RV.out _ (HAV.out.on B4.out)).mono ?_; rintro e w5 ⟨rfl, hb⟩; have X5 := hid (X4.out.on hb X4.out.lt); have B5 := hid (below_via B4.out hb); have g0 := X5.out.cell (j := 0) rfl; have g3 := X5.out.cell (j := 3) rfl; have g12 := X5.out.cell (j := 12) rfl; have g13 := X5.out.cell (j := 13) rfl; have XA := X5.out.on (below_more (Below.refl _ _) (.cells #[] 3)) X5.out.lt; have a3 := XA.cell (j := 3) rfl; have a13 := XA.cell (j := 13) rfl; clear XA hb) | fail)
    go_ret
    exact ⟨by rw [HR.out]; rfl, B5.out⟩
  have HF : Hid (nodeOk d = (if d.role = 2 then peersAre d.peers (othersD (confTo d.conf d.ents d.ents.length) d.id) last else decide (d.peers.length = 0))) := (show _ = _ by rw [HN.out, decide_eq_true q0, q1, q2, q3, q4]; rcases q5 with q | q <;> simp [q])
  have v5 : Hid (d.votes.length = 0 ∨ d.role = 1) := q5
  clear q5 HN
  by_cases r2 : d.role = 2
  · have hv0 : d.votes.length = 0 := by rcases v5.out with q | q; exact q; omega
    have hv1 : ¬ (0 : Int) < (d.votes.length : Int) := by omega
    have r2b : (d.role == 2) = true := by rw [beq_iff_eq]; exact r2
    have HG : Hid (nodeOk d = peersAre d.peers (othersD (confTo d.conf d.ents d.ents.length) d.id) last) := (show _ = _ by rw [HF.out, if_pos r2])
    clear HF v5 hv0 r2
    have CC' := fun w h1 h2 => specConfOf_any d ⟨co, cc, eo, ec, vo, vc, po, pc⟩ HH.out HS.out w h1 h2
    have hTl : (confTo d.conf d.ents d.ents.length).length ≤ 4 := (confOk_len (confTo_ok _ _ (by have h9 := HH.out; rw [nodeHead, Bool.and_eq_true, Bool.and_eq_true] at h9; exact h9.1.2) _ (Nat.le_refl _))).2
    obtain ⟨T, hT⟩ : ∃ T, confTo d.conf d.ents d.ents.length = T := ⟨_, rfl⟩
    rw [hT] at CC' HG hTl
    have CO' := fun ua uc w h => l18Others_any ua uc T d.id (by omega) w h
    have hol : (othersD T d.id).length ≤ 4 := Nat.le_trans (List.length_filter_le _ _) hTl
    obtain ⟨os, hos⟩ : ∃ x, othersD T d.id = x := ⟨_, rfl⟩
    rw [hos] at CO' HG hol
    have CC := hid CC'
    have CO := hid CO'
    clear CC' CO' hT hos
    go_upto_region 8 with (first | (go_at_call 15; with_reducible refine Calls.mono (J1.out _) ?_; rintro e w9 ⟨rfl, hw⟩; rw [hw]; clear hw w9) | (go_at_call 15; with_reducible refine Calls.mono (J2.out _) ?_; rintro e w9 ⟨rfl, hw⟩; rw [hw]; clear hw w9) | (go_at_call 15; with_reducible refine Calls.mono (J3.out _) ?_; rintro e w9 ⟨rfl, hw⟩; rw [hw]; clear hw w9) | (go_at_call 41; refine (RV.out _ (HAV.out.on B4.out)).mono ?_; rintro e w5 ⟨rfl, hb⟩; have X5 := hid (X4.out.on hb X4.out.lt); have B5 := hid (below_via B4.out hb); have g0 := X5.out.cell (j := 0) rfl; have g3 := X5.out.cell (j := 3) rfl; have g12 := X5.out.cell (j := 12) rfl; have g13 := X5.out.cell (j := 13) rfl; have XA := X5.out.on (below_more (Below.refl _ _) (.cells #[] 3)) X5.out.lt; have a3 := XA.cell (j := 3) rfl; have a13 := XA.cell (j := 13) rfl; clear XA hb) | fail)
    have hY := below_more (Below.refl w5.heap.size w5) (.cells #[] 3)
    have x6 := X5.out.on hY X5.out.lt
    have b6 := below_via B5.out hY
    obtain ⟨W6, hW6⟩ : ∃ V, w5.alloc (.cells #[] 3) = V := ⟨_, rfl⟩
    rw [hW6] at x6 b6 ⊢
    have X6 := hid x6
    have B6 := hid b6
    have BD6 : Below w.heap.size w W6.drew := below_drewN b6 1
    have AC6 := hid (HAC.out.on BD6)
    have AE6 := hid (HAE.out.on BD6)
    have m0 := x6.cell (j := 0) rfl
    have m1 := x6.cell (j := 1) rfl
    have m2 := x6.cell (j := 2) rfl
    have m3 := x6.cell (j := 3) rfl
    have m4 := x6.cell (j := 4) rfl
    have m5 := x6.cell (j := 5) rfl
    have m6 := x6.cell (j := 6) rfl
    have m7 := x6.cell (j := 7) rfl
    have m8 := x6.cell (j := 8) rfl
    have m9 := x6.cell (j := 9) rfl
    have m10 := x6.cell (j := 10) rfl
    have m11 := x6.cell (j := 11) rfl
    have m12 := x6.cell (j := 12) rfl
    have m13 := x6.cell (j := 13) rfl
    clear hY x6 b6 hW6 X4 B4 c0 c1 c2 c3 c4 c5 c6 c7 c8 c9 c10 c11 c12 c13 g0 g3 g12 g13 a3 a13 J1 J2 J3 RV
    go_cut [5] (fun o wx => ∃ (ua : Option Addr) (uc : Nat), o = .slice ua os.length uc ∧ Hid (IntsAt wx ua os) ∧ Hid (Below w.heap.size w wx) ∧ Hid (BlockIs wx w.heap.size 35 [.int .i64 d.id, .int .i64 d.term, .int .i64 d.vote, .int .i64 d.role, .int .i64 d.lead, .slice co d.conf.length cc, .int .i64 d.start, .int .i64 d.sterm, .slice eo d.ents.length ec, .int .i64 d.commit, .int .i64 d.clock, .int .i64 d.limit, .slice vo d.votes.length vc, .slice po d.peers.length pc]))
    case first =>
      go_region_with (first | (go_at_call 43; refine (CC.out _ AC6.out AE6.out).mono ?_; rintro e w7 ⟨ua, uc, rfl, ho, hb⟩; have O7 := hid (ints_row rfl ho); have X7 := hid (X6.out.on (below_via (below_drewN (Below.refl _ _) 1) hb) X6.out.lt); have k0 := X7.out.cell (j := 0) rfl; have B7 := hid (below_via BD6 hb); clear ho hb) | (go_at_call 42; refine (CO.out _ _ _ O7.out).mono ?_; rintro e w8 ⟨ub, ud, rfl, ho, hb⟩; have O8 := hid (ints_row rfl ho); have X8 := hid (X7.out.on hb X7.out.lt); have B8 := hid (below_via B7.out hb); clear ho hb))
      all_goals (go_wp2_with fail; go_meet; exact ⟨ub, ud, rfl, O8, B8, X8⟩)
    case rest =>
    rename World => w9
    obtain ⟨ua, uc, rfl, O9, B9, X9⟩ := hcut
    clear CC CO AC6 AE6 BD6 B6 X6 B5 X5 m0 m1 m2 m3 m4 m5 m6 m7 m8 m9 m10 m11 m12 m13
    have f13 := X9.out.cell (j := 13) rfl
    by_cases hlen : d.peers.length = os.length
    · have hlz : (d.peers.length : Int) = (os.length : Int) := by omega
      have hlb : ((d.peers.length : Int) == (os.length : Int)) = true := by rw [beq_iff_eq]; exact hlz
      have hln : ((d.peers.length : Int) != (os.length : Int)) = false := by simp [hlz]
      clear hlz
      have HLEN := hid hlen
      clear hlen
      go_wp2
      clear f13 hlb hln
      go_loopg [6] os.length (fun g i wr => ∃ (k : Nat), k + g = os.length ∧ i = .int .i64 k ∧ Hid (peersTo d.peers os last k = true) ∧ Hid (IntsAt wr ua os) ∧ Hid (Below w.heap.size w wr) ∧ Hid (BlockIs wr w.heap.size 35 [.int .i64 d.id, .int .i64 d.term, .int .i64 d.vote, .int .i64 d.role, .int .i64 d.lead, .slice co d.conf.length cc, .int .i64 d.start, .int .i64 d.sterm, .slice eo d.ents.length ec, .int .i64 d.commit, .int .i64 d.clock, .int .i64 d.limit, .slice vo d.votes.length vc, .slice po d.peers.length pc]))
      case atStart => exact ⟨0, by omega, rfl, (show _ = _ from rfl), O9, B9, X9⟩
      case round =>
        obtain ⟨k, hkg, rfl, HT, OR, BR, XR⟩ := hrel
        clear O9 B9 X9
        cases gk with
        | zero =>
          have hlt : ¬ (k : Int) < (os.length : Int) := by omega
          have hlt0 : ¬ k < os.length := by omega
          have HR : Hid (nodeOk d = true) := (show _ = _ by rw [HG.out, peersAre, decide_eq_true HLEN.out, Bool.true_and]; have h9 := HT.out; rw [show k = os.length by omega] at h9; exact h9)
          go_wp2
          go_ret
          exact ⟨by rw [HR.out]; rfl, BR.out⟩
        | succ g =>
          have hk : k < d.peers.length := by have := HLEN.out; omega
          have hko : k < os.length := by omega
          have hlt : (k : Int) < (os.length : Int) := by omega
          have hlt0 : k < os.length := by omega
          have hltp : (k : Int) < (d.peers.length : Int) := by omega
          have hne : d.peers ≠ [] := by intro q; rw [q] at hk; simp at hk
          have hno : os ≠ [] := by intro q; rw [q] at hko; simp at hko
          obtain ⟨b, off, rfl, hc⟩ := HAP.out.on BR.out hne
          obtain ⟨ob, oo, rfl, hco⟩ := OR.out hno
          obtain ⟨x0, x1, x2, x3⟩ := hc k hk
          have f13 := XR.out.cell (j := 13) rfl
          obtain ⟨W2, hW2⟩ : ∃ W2, wr.alloc (.cells #[.int .i64 d.peers[k].pid, .int .i64 d.peers[k].next, .int .i64 d.peers[k].upto, .int .i64 d.peers[k].sent] 67) = W2 := ⟨_, rfl⟩
          have hb2 : Below wr.heap.size wr W2 := by rw [← hW2]; exact below_more (Below.refl _ wr) _
          have hx2 : BlockIs W2 wr.heap.size 67 [.int .i64 d.peers[k].pid, .int .i64 d.peers[k].next, .int .i64 d.peers[k].upto, .int .i64 d.peers[k].sent] := by rw [← hW2]; exact heap_alloc_new wr _
          have n0 := hx2.cell (j := 0) rfl
          have n1 := hx2.cell (j := 1) rfl
          have n2 := hx2.cell (j := 2) rfl
          have n3 := hx2.cell (j := 3) rfl
          have q0 := (hb2.cell (p := ⟨ob, oo + k, none⟩) (World.block_lt_of_cell? wr _ (hco k hko))).trans (hco k hko)
          have B2 := hid (below_via BR.out hb2)
          have OR2 := hid (OR.out.on hb2)
          have XR2 := hid (XR.out.on hb2 XR.out.lt)
          have hstep := peersTo_step (last := last) hk hko
          have hbad := peers_no (last := last) hk hko
          clear hc hco hb2 hx2
          by_cases hid9 : d.peers[k].pid = os[k]
          rotate_left
          · have hib : (d.peers[k].pid == os[k]) = false := by rw [beq_eq_false_iff_ne]; exact hid9
            have hin : (d.peers[k].pid != os[k]) = true := by simp [hid9]
            have HR : Hid (nodeOk d = false) := (show _ = _ by rw [HG.out]; exact hbad (by rw [decide_eq_false hid9, Bool.false_and]))
            clear hstep hbad
            go_wp2
            go_quiet (fail)
            go_wp2
            go_ret
            exact ⟨by rw [HR.out]; rfl, below_drewN B2.out _⟩
          have hib : (d.peers[k].pid == os[k]) = true := by rw [beq_iff_eq]; exact hid9
          have hin : (d.peers[k].pid != os[k]) = false := by simp [hid9]
          have HID := hid hid9
          clear hid9
          have P1' := fun w => l01In_any d.peers[k].next 1 (last + 1) w
          cases hP1 : within d.peers[k].next 1 (last + 1) with
          | false =>
            have HR : Hid (nodeOk d = false) := (show _ = _ by rw [HG.out]; exact hbad (by rw [peerOk]; simp [hP1]))
            rw [hP1] at P1'
            have P1 := hid P1'
            clear P1' hstep hbad hP1
            go_wp2
            go_quiet (first | (go_at_call 15; with_reducible refine Calls.quiet_of_same (P1.out _)) | fail)
            go_wp2
            go_ret
            exact ⟨by rw [HR.out]; rfl, below_drewN B2.out _⟩
          | true =>
          rw [hP1] at P1'
          have P1 := hid P1'
          clear P1'
          have hnx := within_iff.1 hP1
          have P2' := fun w => l01In_any d.peers[k].upto 0 (d.peers[k].next - 1) w
          cases hP2 : within d.peers[k].upto 0 (d.peers[k].next - 1) with
          | false =>
            have HR : Hid (nodeOk d = false) := (show _ = _ by rw [HG.out]; exact hbad (by rw [peerOk]; simp [hP1, hP2]))
            rw [hP2] at P2'
            have P2 := hid P2'
            clear P2' hstep hbad hP1 hP2
            go_wp2
            go_quiet (first | (go_at_call 15; with_reducible refine Calls.quiet_of_same (P1.out _)) | (go_at_call 15; with_reducible refine Calls.quiet_of_same (P2.out _)) | fail)
            go_wp2
            go_ret
            exact ⟨by rw [HR.out]; rfl, below_drewN B2.out _⟩
          | true =>
          rw [hP2] at P2'
          have P2 := hid P2'
          clear P2'
          have P3' := fun w => l01In_any d.peers[k].sent 0 20000 w
          cases hP3 : within d.peers[k].sent 0 20000 with
          | false =>
            have HR : Hid (nodeOk d = false) := (show _ = _ by rw [HG.out]; exact hbad (by rw [peerOk]; simp [hP1, hP2, hP3]))
            rw [hP3] at P3'
            have P3 := hid P3'
            clear P3' hstep hbad hP1 hP2 hP3
            go_wp2
            go_quiet (first | (go_at_call 15; with_reducible refine Calls.quiet_of_same (P1.out _)) | (go_at_call 15; with_reducible refine Calls.quiet_of_same (P2.out _)) | (go_at_call 15; with_reducible refine Calls.quiet_of_same (P3.out _)) | fail)
            go_wp2
            go_ret
            exact ⟨by rw [HR.out]; rfl, below_drewN B2.out _⟩
          | true =>
          rw [hP3] at P3'
          have P3 := hid P3'
          clear P3'
          have HN : Hid (peersTo d.peers os last (k + 1) = true) := (show _ = _ by rw [hstep, HT.out, decide_eq_true HID.out, peerOk, hP1, hP2, hP3]; rfl)
          clear hstep hbad hP1 hP2 hP3
          go_wp2
          go_quiet (first | (go_at_call 15; with_reducible refine Calls.quiet_of_same (P1.out _)) | (go_at_call 15; with_reducible refine Calls.quiet_of_same (P2.out _)) | (go_at_call 15; with_reducible refine Calls.quiet_of_same (P3.out _)) | fail)
          go_wp2
          go_roundg g
          case measure => omega
          case rel => exact ⟨k + 1, by omega, by go_num, HN, OR2.out.on (below_drewN (Below.refl _ _) _), below_drewN B2.out _, XR2.out.on (below_drewN (Below.refl _ _) _) XR2.out.lt⟩
    · have hlz : ¬ (d.peers.length : Int) = (os.length : Int) := by omega
      have hlb : ((d.peers.length : Int) == (os.length : Int)) = false := by rw [beq_eq_false_iff_ne]; exact hlz
      have hln : ((d.peers.length : Int) != (os.length : Int)) = true := by simp [hlz]
      have HR : Hid (nodeOk d = false) := (show _ = _ by rw [HG.out, peersAre, decide_eq_false hlen]; rfl)
      go_wp2
      go_ret
      exact ⟨by rw [HR.out]; rfl, B9.out⟩
  · have r2b : (d.role == 2) = false := by rw [beq_eq_false_iff_ne]; exact r2
    have HG : Hid (nodeOk d = decide (d.peers.length = 0)) := (show _ = _ by rw [HF.out, if_neg r2])
    clear HF r2
    by_cases hv : d.votes.length = 0
    · have hv1 : ¬ (0 : Int) < (d.votes.length : Int) := by omega
      clear hv v5
      by_cases hp : d.peers.length = 0
      · have hpb : ((d.peers.length : Int) == 0) = true := by rw [beq_iff_eq]; omega
        have hpn : ((d.peers.length : Int) != 0) = false := by simp [hp]
        have HR : Hid (nodeOk d = true) := (show _ = _ by rw [HG.out, decide_eq_true hp])
        clear hp HG
        go_wp2_with (first | (go_at_call 15; with_reducible refine Calls.mono (J1.out _) ?_; rintro e w9 ⟨rfl, hw⟩; rw [hw]; clear hw w9) | (go_at_call 15; with_reducible refine Calls.mono (J2.out _) ?_; rintro e w9 ⟨rfl, hw⟩; rw [hw]; clear hw w9) | (go_at_call 15; with_reducible refine Calls.mono (J3.out _) ?_; rintro e w9 ⟨rfl, hw⟩; rw [hw]; clear hw w9) | (go_at_call 41; refine (RV.out _ (HAV.out.on B4.out)).mono ?_; rintro e w5 ⟨rfl, hb⟩; have X5 := hid (X4.out.on hb X4.out.lt); have B5 := hid (below_via B4.out hb); have g0 := X5.out.cell (j := 0) rfl; have g3 := X5.out.cell (j := 3) rfl; have g12 := X5.out.cell (j := 12) rfl; have g13 := X5.out.cell (j := 13) rfl; have XA := X5.out.on (below_more (Below.refl _ _) (.cells #[] 3)) X5.out.lt; have a3 := XA.cell (j := 3) rfl; have a13 := XA.cell (j := 13) rfl; clear XA hb) | fail)
        have hY := below_more (Below.refl w5.heap.size w5) (.cells #[] 3)
        have B6 := hid (below_via B5.out hY)
        clear hY
        go_loopg [6] 0 (fun _ i wr => i = .int .i64 0 ∧ Hid (Below w.heap.size w wr))
        case atStart => exact ⟨rfl, B6⟩
        case round =>
          obtain ⟨rfl, BR⟩ := hrel
          go_wp2
          go_ret
          exact ⟨by rw [HR.out]; rfl, BR.out⟩
      · have hpb : ((d.peers.length : Int) == 0) = false := by rw [beq_eq_false_iff_ne]; omega
        have hpn : ((d.peers.length : Int) != 0) = true := by simp [hp]
        have HR : Hid (nodeOk d = false) := (show _ = _ by rw [HG.out, decide_eq_false hp])
        clear hp HG
        go_wp2_with (first | (go_at_call 15; with_reducible refine Calls.mono (J1.out _) ?_; rintro e w9 ⟨rfl, hw⟩; rw [hw]; clear hw w9) | (go_at_call 15; with_reducible refine Calls.mono (J2.out _) ?_; rintro e w9 ⟨rfl, hw⟩; rw [hw]; clear hw w9) | (go_at_call 15; with_reducible refine Calls.mono (J3.out _) ?_; rintro e w9 ⟨rfl, hw⟩; rw [hw]; clear hw w9) | (go_at_call 41; refine (RV.out _ (HAV.out.on B4.out)).mono ?_; rintro e w5 ⟨rfl, hb⟩; have X5 := hid (X4.out.on hb X4.out.lt); have B5 := hid (below_via B4.out hb); have g0 := X5.out.cell (j := 0) rfl; have g3 := X5.out.cell (j := 3) rfl; have g12 := X5.out.cell (j := 12) rfl; have g13 := X5.out.cell (j := 13) rfl; have XA := X5.out.on (below_more (Below.refl _ _) (.cells #[] 3)) X5.out.lt; have a3 := XA.cell (j := 3) rfl; have a13 := XA.cell (j := 13) rfl; clear XA hb) | fail)
        go_ret
        exact ⟨by rw [HR.out]; rfl, below_more B5.out _⟩
    · have hv1 : (0 : Int) < (d.votes.length : Int) := by omega
      have r1 : d.role = 1 := by rcases v5.out with q | q; exact absurd q hv; exact q
      have r1b : (d.role == 1) = true := by rw [beq_iff_eq]; exact r1
      have r1n : (d.role != 1) = false := by simp [r1]
      clear hv v5 r1
      by_cases hp : d.peers.length = 0
      · have hpb : ((d.peers.length : Int) == 0) = true := by rw [beq_iff_eq]; omega
        have hpn : ((d.peers.length : Int) != 0) = false := by simp [hp]
        have HR : Hid (nodeOk d = true) := (show _ = _ by rw [HG.out, decide_eq_true hp])
        clear hp HG
        go_wp2_with (first | (go_at_call 15; with_reducible refine Calls.mono (J1.out _) ?_; rintro e w9 ⟨rfl, hw⟩; rw [hw]; clear hw w9) | (go_at_call 15; with_reducible refine Calls.mono (J2.out _) ?_; rintro e w9 ⟨rfl, hw⟩; rw [hw]; clear hw w9) | (go_at_call 15; with_reducible refine Calls.mono (J3.out _) ?_; rintro e w9 ⟨rfl, hw⟩; rw [hw]; clear hw w9) | (go_at_call 41; refine (RV.out _ (HAV.out.on B4.out)).mono ?_; rintro e w5 ⟨rfl, hb⟩; have X5 := hid (X4.out.on hb X4.out.lt); have B5 := hid (below_via B4.out hb); have g0 := X5.out.cell (j := 0) rfl; have g3 := X5.out.cell (j := 3) rfl; have g12 := X5.out.cell (j := 12) rfl; have g13 := X5.out.cell (j := 13) rfl; have XA := X5.out.on (below_more (Below.refl _ _) (.cells #[] 3)) X5.out.lt; have a3 := XA.cell (j := 3) rfl; have a13 := XA.cell (j := 13) rfl; clear XA hb) | fail)
        have hY := below_more (Below.refl w5.heap.size w5) (.cells #[] 3)
        have B6 := hid (below_via B5.out hY)
        clear hY
        go_loopg [6] 0 (fun _ i wr => i = .int .i64 0 ∧ Hid (Below w.heap.size w wr))
        case atStart => exact ⟨rfl, B6⟩
        case round =>
          obtain ⟨rfl, BR⟩ := hrel
          go_wp2
          go_ret
          exact ⟨by rw [HR.out]; rfl, BR.out⟩
      · have hpb : ((d.peers.length : Int) == 0) = false := by rw [beq_eq_false_iff_ne]; omega
        have hpn : ((d.peers.length : Int) != 0) = true := by simp [hp]
        have HR : Hid (nodeOk d = false) := (show _ = _ by rw [HG.out, decide_eq_false hp])
        clear hp HG
        go_wp2_with (first | (go_at_call 15; with_reducible refine Calls.mono (J1.out _) ?_; rintro e w9 ⟨rfl, hw⟩; rw [hw]; clear hw w9) | (go_at_call 15; with_reducible refine Calls.mono (J2.out _) ?_; rintro e w9 ⟨rfl, hw⟩; rw [hw]; clear hw w9) | (go_at_call 15; with_reducible refine Calls.mono (J3.out _) ?_; rintro e w9 ⟨rfl, hw⟩; rw [hw]; clear hw w9) | (go_at_call 41; refine (RV.out _ (HAV.out.on B4.out)).mono ?_; rintro e w5 ⟨rfl, hb⟩; have X5 := hid (X4.out.on hb X4.out.lt); have B5 := hid (below_via B4.out hb); have g0 := X5.out.cell (j := 0) rfl; have g3 := X5.out.cell (j := 3) rfl; have g12 := X5.out.cell (j := 12) rfl; have g13 := X5.out.cell (j := 13) rfl; have XA := X5.out.on (below_more (Below.refl _ _) (.cells #[] 3)) X5.out.lt; have a3 := XA.cell (j := 3) rfl; have a13 := XA.cell (j := 13) rfl; clear XA hb) | fail)
        go_ret
        exact ⟨by rw [HR.out]; rfl, below_more B5.out _⟩
end Go.Proofs.Ytglibbpigmpanaa
