/-
  The walk of impl.NodeOk: when a node is right.
-/
import Derived.Test.YtglibbpigmpanaaJoint39
import Derived.Test.YtglibbpigmpanaaJoint41
namespace Go.Proofs.Ytglibbpigmpanaa
open Go.RowKit Go.Sort

set_option maxRecDepth 1000000 in
set_option maxHeartbeats 4000000 in
theorem implNodeOk_any (d : NodeD) (p : NodeL) (hs : d.Small) (w : World) (ha : NodeAt w d p) :
    Calls Try.prog 23 #[.agg #[.int .i64 d.id, .int .i64 d.term, .int .i64 d.vote, .int .i64 d.role, .int .i64 d.lead, .slice p.co d.conf.length p.cc, .int .i64 d.start, .int .i64 d.sterm, .slice p.eo d.ents.length p.ec, .int .i64 d.commit, .int .i64 d.clock, .int .i64 d.limit, .slice p.vo d.votes.length p.vc, .slice p.po d.peers.length p.pc]] w fun e w' => e = .returned (.bool (nodeOk d)) ∧ Below w.heap.size w w' := by
  have hb := below_more (Below.refl w.heap.size w) (.cells #[.int .i64 d.id, .int .i64 d.term, .int .i64 d.vote, .int .i64 d.role, .int .i64 d.lead, .slice p.co d.conf.length p.cc, .int .i64 d.start, .int .i64 d.sterm, .slice p.eo d.ents.length p.ec, .int .i64 d.commit, .int .i64 d.clock, .int .i64 d.limit, .slice p.vo d.votes.length p.vc, .slice p.po d.peers.length p.pc] 35)
  have X0 : Hid (BlockIs (w.alloc (.cells #[.int .i64 d.id, .int .i64 d.term, .int .i64 d.vote, .int .i64 d.role, .int .i64 d.lead, .slice p.co d.conf.length p.cc, .int .i64 d.start, .int .i64 d.sterm, .slice p.eo d.ents.length p.ec, .int .i64 d.commit, .int .i64 d.clock, .int .i64 d.limit, .slice p.vo d.votes.length p.vc, .slice p.po d.peers.length p.pc] 35)) w.heap.size 35 [.int .i64 d.id, .int .i64 d.term, .int .i64 d.vote, .int .i64 d.role, .int .i64 d.lead, .slice p.co d.conf.length p.cc, .int .i64 d.start, .int .i64 d.sterm, .slice p.eo d.ents.length p.ec, .int .i64 d.commit, .int .i64 d.clock, .int .i64 d.limit, .slice p.vo d.votes.length p.vc, .slice p.po d.peers.length p.pc]) := heap_alloc_new w _
  obtain ⟨W, hW⟩ : ∃ W, w.alloc (.cells #[.int .i64 d.id, .int .i64 d.term, .int .i64 d.vote, .int .i64 d.role, .int .i64 d.lead, .slice p.co d.conf.length p.cc, .int .i64 d.start, .int .i64 d.sterm, .slice p.eo d.ents.length p.ec, .int .i64 d.commit, .int .i64 d.clock, .int .i64 d.limit, .slice p.vo d.votes.length p.vc, .slice p.po d.peers.length p.pc] 35) = W := ⟨_, rfl⟩
  rw [hW] at hb X0
  have B := hid hb
  have A := hid (ha.on hb)
  have hcl := hs.conf
  have hel := hs.ents
  have HS := hid hs
  have C1' := fun w => idOkN_any d.id w
  have C2' := fun w ha => implConfOk_any p.co d.conf p.cc hcl w ha
  have C3' := fun w ha => implLogOk_any d.start d.sterm p.eo d.ents p.ec hel w ha
  clear ha hb hs
  have c0 := X0.out.cell (j := 0) rfl
  have c5 := X0.out.cell (j := 5) rfl
  have c6 := X0.out.cell (j := 6) rfl
  have c7 := X0.out.cell (j := 7) rfl
  have c8 := X0.out.cell (j := 8) rfl
  cases h1 : within d.id 1 4 with
  | false =>
    have HR : Hid (nodeOk d = false) := nodeOk_no (by rw [nodeHead, h1]; simp)
    rw [h1] at C1'
    have C1 := hid C1'
    clear C1' C2' C3' h1
    go_enter Try.func23, Try.ntmps23
    go_wp2_with (first | (go_at_call 48; refine (C1.out _).mono ?_; rintro e w1 ⟨rfl, hw⟩; rw [hw]; clear hw w1) | fail)
    go_ret
    exact ⟨by rw [HR.out]; rfl, B.out⟩
  | true =>
  rw [h1] at C1'
  have C1 := hid C1'
  clear C1'
  cases h2 : confOk d.conf with
  | false =>
    have HR : Hid (nodeOk d = false) := nodeOk_no (by rw [nodeHead, h2]; simp)
    rw [h2] at C2'
    have C2 := hid C2'
    clear C2' C3' h1 h2
    go_enter Try.func23, Try.ntmps23
    go_wp2_with (first | (go_at_call 48; refine (C1.out _).mono ?_; rintro e w1 ⟨rfl, hw⟩; rw [hw]; clear hw w1) | (go_at_call 49; refine (C2.out _ A.out.conf).mono ?_; rintro e w2 ⟨rfl, hb⟩; have X2 := hid (X0.out.on hb X0.out.lt); have A2 := hid (A.out.on hb); have B2 := hid (below_via B.out hb); have d6 := X2.out.cell (j := 6) rfl; have d7 := X2.out.cell (j := 7) rfl; have d8 := X2.out.cell (j := 8) rfl; clear hb c0 c5 c6 c7 c8) | fail)
    go_ret
    exact ⟨by rw [HR.out]; rfl, B2.out⟩
  | true =>
  rw [h2] at C2'
  have C2 := hid C2'
  clear C2'
  cases h3 : logOk d.start d.sterm d.ents with
  | false =>
    have HR : Hid (nodeOk d = false) := nodeOk_no (by rw [nodeHead, h3]; simp)
    rw [h3] at C3'
    have C3 := hid C3'
    clear C3' h1 h2 h3
    go_enter Try.func23, Try.ntmps23
    go_wp2_with (first | (go_at_call 48; refine (C1.out _).mono ?_; rintro e w1 ⟨rfl, hw⟩; rw [hw]; clear hw w1) | (go_at_call 49; refine (C2.out _ A.out.conf).mono ?_; rintro e w2 ⟨rfl, hb⟩; have X2 := hid (X0.out.on hb X0.out.lt); have A2 := hid (A.out.on hb); have B2 := hid (below_via B.out hb); have d6 := X2.out.cell (j := 6) rfl; have d7 := X2.out.cell (j := 7) rfl; have d8 := X2.out.cell (j := 8) rfl; clear hb c0 c5 c6 c7 c8) | (go_at_call 50; refine (C3.out _ A2.out.ents).mono ?_; rintro e w3 ⟨rfl, hb⟩; have X3 := hid (X2.out.on hb X2.out.lt); have A3 := hid (A2.out.on hb); have B3 := hid (below_via B2.out hb); have g6 := X3.out.cell (j := 6) rfl; have g7 := X3.out.cell (j := 7) rfl; have g8 := X3.out.cell (j := 8) rfl; clear hb X2 A2 B2 d6 d7 d8) | fail)
    go_ret
    exact ⟨by rw [HR.out]; rfl, B3.out⟩
  | true =>
  rw [h3] at C3'
  have C3 := hid C3'
  clear C3'
  have hh : nodeHead d = true := by rw [nodeHead, h1, h2, h3]; rfl
  clear h1 h2 h3
  have HN := hid (nodeOk_is hh)
  obtain ⟨l1, l2, l3⟩ := log_last hh
  obtain ⟨n1, n2, n3, _⟩ := node_last hh
  have CL' := fun w ha => implLogLast_any d.start d.sterm (by omega) p.eo d.ents p.ec (by omega) w ha
  rw [l1] at CL'
  have CR' := fun w ha => roleOk_any d p hh HS.out w ha
  have D1' := fun w => idOrNobody_any d.vote w
  have D2' := fun w => idOrNobody_any d.lead w
  have D3' := fun w => limitOk_any d.limit w
  obtain ⟨last, hla⟩ : ∃ x, lastD d = x := ⟨_, rfl⟩
  obtain ⟨lt, hlt⟩ : ∃ x, lastT d.sterm d.ents = x := ⟨_, rfl⟩
  rw [hla] at CL' HN l2 l3
  rw [hlt] at CL' HN
  have CL := hid CL'
  clear CL' hla hlt l1 hh n1 n2 n3
  go_enter Try.func23, Try.ntmps23
  go_wp2_with (first | (go_at_call 48; refine (C1.out _).mono ?_; rintro e w1 ⟨rfl, hw⟩; rw [hw]; clear hw w1) | (go_at_call 49; refine (C2.out _ A.out.conf).mono ?_; rintro e w2 ⟨rfl, hb⟩; have X2 := hid (X0.out.on hb X0.out.lt); have A2 := hid (A.out.on hb); have B2 := hid (below_via B.out hb); have d6 := X2.out.cell (j := 6) rfl; have d7 := X2.out.cell (j := 7) rfl; have d8 := X2.out.cell (j := 8) rfl; clear hb c0 c5 c6 c7 c8) | (go_at_call 50; refine (C3.out _ A2.out.ents).mono ?_; rintro e w3 ⟨rfl, hb⟩; have X3 := hid (X2.out.on hb X2.out.lt); have A3 := hid (A2.out.on hb); have B3 := hid (below_via B2.out hb); have g6 := X3.out.cell (j := 6) rfl; have g7 := X3.out.cell (j := 7) rfl; have g8 := X3.out.cell (j := 8) rfl; clear hb X2 A2 B2 d6 d7 d8) | fail)
  refine (CL.out _ A3.out.ents).mono ?_
  rintro e w4 ⟨rfl, hb⟩
  have X4 := hid (X3.out.on hb X3.out.lt)
  have A4 := hid (A3.out.on hb)
  have B4 := hid (below_via B3.out hb)
  clear hb X3 A3 B3 CL C1 C2 C3 X0 A B g6 g7 g8
  have c0 := X4.out.cell (j := 0) rfl
  have c1 := X4.out.cell (j := 1) rfl
  have c2 := X4.out.cell (j := 2) rfl
  have c3 := X4.out.cell (j := 3) rfl
  have c4 := X4.out.cell (j := 4) rfl
  have c5 := X4.out.cell (j := 5) rfl
  have c6 := X4.out.cell (j := 6) rfl
  have c7 := X4.out.cell (j := 7) rfl
  have c8 := X4.out.cell (j := 8) rfl
  have c9 := X4.out.cell (j := 9) rfl
  have c10 := X4.out.cell (j := 10) rfl
  have c11 := X4.out.cell (j := 11) rfl
  have c12 := X4.out.cell (j := 12) rfl
  have c13 := X4.out.cell (j := 13) rfl
  by_cases q0 : lt ≤ d.term
  rotate_left
  · have HR : Hid (nodeOk d = false) := (show _ = _ by rw [HN.out]; simp [q0])
    go_wp2_with (first | fail)
    go_ret
    exact ⟨by rw [HR.out]; first | rfl | simp_all, B4.out⟩
  by_cases q1 : d.term ≤ 100000
  rotate_left
  · have HR : Hid (nodeOk d = false) := (show _ = _ by rw [HN.out]; simp [q0, q1])
    go_wp2_with (first | fail)
    go_ret
    exact ⟨by rw [HR.out]; first | rfl | simp_all, B4.out⟩
  cases q2 : within d.vote 0 4 with
  | false =>
    rw [q2] at D1'
    have D1 := hid D1'
    clear D1'
    have HR : Hid (nodeOk d = false) := (show _ = _ by rw [HN.out]; simp [q0, q1, q2])
    go_wp2_with (first | (go_at_call 52; with_reducible refine Calls.mono (D1.out _) ?_; rintro e w5 ⟨rfl, hw⟩; rw [hw]; clear hw w5) | fail)
    go_ret
    exact ⟨by rw [HR.out]; first | rfl | simp_all, B4.out⟩
  | true =>
  rw [q2] at D1'
  have D1 := hid D1'
  clear D1'
  cases q3 : within d.lead 0 4 with
  | false =>
    rw [q3] at D2'
    have D2 := hid D2'
    clear D2'
    have HR : Hid (nodeOk d = false) := (show _ = _ by rw [HN.out]; simp [q0, q1, q2, q3])
    go_wp2_with (first | (go_at_call 52; with_reducible refine Calls.mono (D1.out _) ?_; rintro e w5 ⟨rfl, hw⟩; rw [hw]; clear hw w5) | (go_at_call 52; with_reducible refine Calls.mono (D2.out _) ?_; rintro e w5 ⟨rfl, hw⟩; rw [hw]; clear hw w5) | fail)
    go_ret
    exact ⟨by rw [HR.out]; first | rfl | simp_all, B4.out⟩
  | true =>
  rw [q3] at D2'
  have D2 := hid D2'
  clear D2'
  by_cases q4 : d.start ≤ d.commit
  rotate_left
  · have HR : Hid (nodeOk d = false) := (show _ = _ by rw [HN.out]; simp [q0, q1, q2, q3, q4])
    go_wp2_with (first | (go_at_call 52; with_reducible refine Calls.mono (D1.out _) ?_; rintro e w5 ⟨rfl, hw⟩; rw [hw]; clear hw w5) | (go_at_call 52; with_reducible refine Calls.mono (D2.out _) ?_; rintro e w5 ⟨rfl, hw⟩; rw [hw]; clear hw w5) | fail)
    go_ret
    exact ⟨by rw [HR.out]; first | rfl | simp_all, B4.out⟩
  by_cases q5 : d.commit ≤ last
  rotate_left
  · have HR : Hid (nodeOk d = false) := (show _ = _ by rw [HN.out]; simp [q0, q1, q2, q3, q4, q5])
    go_wp2_with (first | (go_at_call 52; with_reducible refine Calls.mono (D1.out _) ?_; rintro e w5 ⟨rfl, hw⟩; rw [hw]; clear hw w5) | (go_at_call 52; with_reducible refine Calls.mono (D2.out _) ?_; rintro e w5 ⟨rfl, hw⟩; rw [hw]; clear hw w5) | fail)
    go_ret
    exact ⟨by rw [HR.out]; first | rfl | simp_all, B4.out⟩
  by_cases q6 : 0 ≤ d.clock
  rotate_left
  · have HR : Hid (nodeOk d = false) := (show _ = _ by rw [HN.out]; simp [q0, q1, q2, q3, q4, q5, q6])
    go_wp2_with (first | (go_at_call 52; with_reducible refine Calls.mono (D1.out _) ?_; rintro e w5 ⟨rfl, hw⟩; rw [hw]; clear hw w5) | (go_at_call 52; with_reducible refine Calls.mono (D2.out _) ?_; rintro e w5 ⟨rfl, hw⟩; rw [hw]; clear hw w5) | fail)
    go_ret
    exact ⟨by rw [HR.out]; first | rfl | simp_all, B4.out⟩
  by_cases q7 : d.clock ≤ 20
  rotate_left
  · have HR : Hid (nodeOk d = false) := (show _ = _ by rw [HN.out]; simp [q0, q1, q2, q3, q4, q5, q6, q7])
    go_wp2_with (first | (go_at_call 52; with_reducible refine Calls.mono (D1.out _) ?_; rintro e w5 ⟨rfl, hw⟩; rw [hw]; clear hw w5) | (go_at_call 52; with_reducible refine Calls.mono (D2.out _) ?_; rintro e w5 ⟨rfl, hw⟩; rw [hw]; clear hw w5) | fail)
    go_ret
    exact ⟨by rw [HR.out]; first | rfl | simp_all, B4.out⟩
  cases q8 : within d.limit 1 20 with
  | false =>
    rw [q8] at D3'
    have D3 := hid D3'
    clear D3'
    have HR : Hid (nodeOk d = false) := (show _ = _ by rw [HN.out]; simp [q0, q1, q2, q3, q4, q5, q6, q7, q8])
    go_wp2_with (first | (go_at_call 52; with_reducible refine Calls.mono (D1.out _) ?_; rintro e w5 ⟨rfl, hw⟩; rw [hw]; clear hw w5) | (go_at_call 52; with_reducible refine Calls.mono (D2.out _) ?_; rintro e w5 ⟨rfl, hw⟩; rw [hw]; clear hw w5) | (go_at_call 53; with_reducible refine Calls.mono (D3.out _) ?_; rintro e w5 ⟨rfl, hw⟩; rw [hw]; clear hw w5) | fail)
    go_ret
    exact ⟨by rw [HR.out]; first | rfl | simp_all, B4.out⟩
  | true =>
  rw [q8] at D3'
  have D3 := hid D3'
  clear D3'
  obtain ⟨R, hR⟩ : ∃ x, roleI d = x := ⟨_, rfl⟩
  have HR : Hid (nodeOk d = R) := (show _ = _ by rw [HN.out]; simp [q0, q1, q2, q3, q4, q5, q6, q7, q8, hR])
  rw [hR] at CR'
  have CR := hid CR'
  clear CR' hR HN
  go_wp2_with (first | (go_at_call 52; with_reducible refine Calls.mono (D1.out _) ?_; rintro e w5 ⟨rfl, hw⟩; rw [hw]; clear hw w5) | (go_at_call 52; with_reducible refine Calls.mono (D2.out _) ?_; rintro e w5 ⟨rfl, hw⟩; rw [hw]; clear hw w5) | (go_at_call 53; with_reducible refine Calls.mono (D3.out _) ?_; rintro e w5 ⟨rfl, hw⟩; rw [hw]; clear hw w5) | (go_at_call 54; refine (CR.out _ A4.out).mono ?_; rintro e w6 ⟨rfl, hb⟩; have B6 := hid (below_via B4.out hb); clear hb) | fail)
  go_ret
  exact ⟨by rw [HR.out]; first | rfl | simp_all, B6.out⟩
end Go.Proofs.Ytglibbpigmpanaa
