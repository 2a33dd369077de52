/-
  The walk of impl.roleOk: what the role asks of votes and peers.
-/
import Derived.Test.YteceaohhnjlmbaaJoint37
import Derived.Test.YteceaohhnjlmbaaJoint32
namespace Go.Proofs.Yteceaohhnjlmbaa
open Go.RowKit Go.Sort

set_option maxRecDepth 1000000 in
set_option maxHeartbeats 2000000 in
theorem roleOk_any (d : NodeD) (p : NodeL) (hh : nodeHead d = true) (hs : d.Small) (w : World) (ha : NodeAt w d p) :
    Calls Try.prog 38 #[.agg #[.int .i64 d.id, .int .i64 d.term, .int .i64 d.vote, .int .i64 d.role, .int .i64 d.lead, .slice p.co d.conf.length p.cc, .int .i64 d.start, .int .i64 d.sterm, .slice p.eo d.ents.length p.ec, .int .i64 d.commit, .int .i64 d.clock, .int .i64 d.limit, .slice p.vo d.votes.length p.vc, .slice p.po d.peers.length p.pc]] w fun e w' => e = .returned (.bool (roleI d)) ∧ Below w.heap.size w w' := by
  have hb := below_more (Below.refl w.heap.size w) (.cells #[.int .i64 d.id, .int .i64 d.term, .int .i64 d.vote, .int .i64 d.role, .int .i64 d.lead, .slice p.co d.conf.length p.cc, .int .i64 d.start, .int .i64 d.sterm, .slice p.eo d.ents.length p.ec, .int .i64 d.commit, .int .i64 d.clock, .int .i64 d.limit, .slice p.vo d.votes.length p.vc, .slice p.po d.peers.length p.pc] 36)
  have X0 : Hid (BlockIs (w.alloc (.cells #[.int .i64 d.id, .int .i64 d.term, .int .i64 d.vote, .int .i64 d.role, .int .i64 d.lead, .slice p.co d.conf.length p.cc, .int .i64 d.start, .int .i64 d.sterm, .slice p.eo d.ents.length p.ec, .int .i64 d.commit, .int .i64 d.clock, .int .i64 d.limit, .slice p.vo d.votes.length p.vc, .slice p.po d.peers.length p.pc] 36)) w.heap.size 36 [.int .i64 d.id, .int .i64 d.term, .int .i64 d.vote, .int .i64 d.role, .int .i64 d.lead, .slice p.co d.conf.length p.cc, .int .i64 d.start, .int .i64 d.sterm, .slice p.eo d.ents.length p.ec, .int .i64 d.commit, .int .i64 d.clock, .int .i64 d.limit, .slice p.vo d.votes.length p.vc, .slice p.po d.peers.length p.pc]) := heap_alloc_new w _
  obtain ⟨W, hW⟩ : ∃ W, w.alloc (.cells #[.int .i64 d.id, .int .i64 d.term, .int .i64 d.vote, .int .i64 d.role, .int .i64 d.lead, .slice p.co d.conf.length p.cc, .int .i64 d.start, .int .i64 d.sterm, .slice p.eo d.ents.length p.ec, .int .i64 d.commit, .int .i64 d.clock, .int .i64 d.limit, .slice p.vo d.votes.length p.vc, .slice p.po d.peers.length p.pc] 36) = W := ⟨_, rfl⟩
  rw [hW] at hb X0
  have c3 := X0.out.cell (j := 3) rfl
  have c10 := X0.out.cell (j := 12) rfl
  have c11 := X0.out.cell (j := 13) rfl
  have B := hid hb
  have A := hid (ha.on hb)
  have hvm := hs.votes
  have hpm := hs.peers
  clear ha hb
  by_cases h0 : d.role = 0
  · have r0 : (d.role == 0) = true := by rw [beq_iff_eq]; exact h0
    have HR0 : Hid (roleI d = (decide (d.votes.length = 0) && decide (d.peers.length = 0))) := (show _ = _ by unfold roleI; rw [if_pos h0])
    clear h0 hh hs A
    by_cases hv : d.votes.length = 0
    · have hvb : ((d.votes.length : Int) == 0) = true := by rw [beq_iff_eq]; omega
      by_cases hp : d.peers.length = 0
      · have hpb : ((d.peers.length : Int) == 0) = true := by rw [beq_iff_eq]; omega
        have HR : Hid (roleI d = true) := (show _ = _ by rw [HR0.out]; simp [hv, hp])
        clear hv hp HR0
        go_enter Try.func38, Try.ntmps38
        go_wp2
        go_ret
        exact ⟨by rw [HR.out]; first | rfl | simp [hpb], B.out⟩
      · have hpb : ((d.peers.length : Int) == 0) = false := by rw [beq_eq_false_iff_ne]; omega
        have HR : Hid (roleI d = false) := (show _ = _ by rw [HR0.out]; simp [hv, hp])
        clear hv hp HR0
        go_enter Try.func38, Try.ntmps38
        go_wp2
        go_ret
        exact ⟨by rw [HR.out]; first | rfl | simp [hpb], B.out⟩
    · have hvb : ((d.votes.length : Int) == 0) = false := by rw [beq_eq_false_iff_ne]; omega
      have HR : Hid (roleI d = false) := (show _ = _ by rw [HR0.out]; simp [hv])
      clear hv HR0
      go_enter Try.func38, Try.ntmps38
      go_wp2
      go_ret
      exact ⟨by rw [HR.out]; rfl, B.out⟩
  · have r0 : (d.role == 0) = false := by rw [beq_eq_false_iff_ne]; exact h0
    by_cases h1 : d.role = 1
    · have r1 : (d.role == 1) = true := by rw [beq_iff_eq]; exact h1
      have HR0 : Hid (roleI d = ((decide (d.votes.length = 0) || confOk d.votes) && decide (d.peers.length = 0))) := (show _ = _ by unfold roleI; rw [if_neg h0, if_pos h1, votes_conf])
      clear h0 h1 hh hs
      have C' := implConfOk_any p.vo d.votes p.vc hvm W A.out.votes
      clear A
      by_cases hp : d.peers.length = 0
      · have hpb : ((d.peers.length : Int) == 0) = true := by rw [beq_iff_eq]; omega
        by_cases hv : d.votes.length = 0
        · have hvb : ((d.votes.length : Int) == 0) = true := by rw [beq_iff_eq]; omega
          have HR : Hid (roleI d = true) := (show _ = _ by rw [HR0.out]; simp [hv, hp])
          clear hv hp HR0 C'
          go_enter Try.func38, Try.ntmps38
          go_wp2
          go_ret
          exact ⟨by rw [HR.out]; first | rfl | simp [hpb], B.out⟩
        · have hvb : ((d.votes.length : Int) == 0) = false := by rw [beq_eq_false_iff_ne]; omega
          cases hc : confOk d.votes with
          | false =>
            have HR : Hid (roleI d = false) := (show _ = _ by rw [HR0.out]; simp [hv, hp, hc])
            rw [hc] at C'
            have C := hid C'
            clear hv hp HR0 C' hc
            go_enter Try.func38, Try.ntmps38
            go_wp2_with (go_at_call 33; refine C.out.mono ?_; rintro e w1 ⟨rfl, hb⟩; have B2 := hid (below_via B.out hb); have c11' := (X0.out.on hb X0.out.lt).cell (j := 13) rfl; clear hb)
            go_ret
            exact ⟨by rw [HR.out]; first | rfl | simp [hpb], B2.out⟩
          | true =>
            have HR : Hid (roleI d = true) := (show _ = _ by rw [HR0.out]; simp [hv, hp, hc])
            rw [hc] at C'
            have C := hid C'
            clear hv hp HR0 C' hc
            go_enter Try.func38, Try.ntmps38
            go_wp2_with (go_at_call 33; refine C.out.mono ?_; rintro e w1 ⟨rfl, hb⟩; have B2 := hid (below_via B.out hb); have c11' := (X0.out.on hb X0.out.lt).cell (j := 13) rfl; clear hb)
            go_ret
            exact ⟨by rw [HR.out]; first | rfl | simp [hpb], B2.out⟩
      · have hpb : ((d.peers.length : Int) == 0) = false := by rw [beq_eq_false_iff_ne]; omega
        by_cases hv : d.votes.length = 0
        · have hvb : ((d.votes.length : Int) == 0) = true := by rw [beq_iff_eq]; omega
          have HR : Hid (roleI d = false) := (show _ = _ by rw [HR0.out]; simp [hv, hp])
          clear hv hp HR0 C'
          go_enter Try.func38, Try.ntmps38
          go_wp2
          go_ret
          exact ⟨by rw [HR.out]; first | rfl | simp [hpb], B.out⟩
        · have hvb : ((d.votes.length : Int) == 0) = false := by rw [beq_eq_false_iff_ne]; omega
          cases hc : confOk d.votes with
          | false =>
            have HR : Hid (roleI d = false) := (show _ = _ by rw [HR0.out]; simp [hv, hp, hc])
            rw [hc] at C'
            have C := hid C'
            clear hv hp HR0 C' hc
            go_enter Try.func38, Try.ntmps38
            go_wp2_with (go_at_call 33; refine C.out.mono ?_; rintro e w1 ⟨rfl, hb⟩; have B2 := hid (below_via B.out hb); have c11' := (X0.out.on hb X0.out.lt).cell (j := 13) rfl; clear hb)
            go_ret
            exact ⟨by rw [HR.out]; first | rfl | simp [hpb], B2.out⟩
          | true =>
            have HR : Hid (roleI d = false) := (show _ = _ by rw [HR0.out]; simp [hv, hp, hc])
            rw [hc] at C'
            have C := hid C'
            clear hv hp HR0 C' hc
            go_enter Try.func38, Try.ntmps38
            go_wp2_with (go_at_call 33; refine C.out.mono ?_; rintro e w1 ⟨rfl, hb⟩; have B2 := hid (below_via B.out hb); have c11' := (X0.out.on hb X0.out.lt).cell (j := 13) rfl; clear hb)
            go_ret
            exact ⟨by rw [HR.out]; first | rfl | simp [hpb], B2.out⟩
    · have r1 : (d.role == 1) = false := by rw [beq_eq_false_iff_ne]; exact h1
      by_cases h2 : d.role = 2
      · have r2 : (d.role == 2) = true := by rw [beq_iff_eq]; exact h2
        have HR0 : Hid (roleI d = (decide (d.votes.length = 0) && peersD d)) := (show _ = _ by unfold roleI; rw [if_neg h0, if_neg h1, if_pos h2])
        have C := hid (peersOk_any d p hh hs W A.out)
        clear h0 h1 h2 hh hs A
        obtain ⟨R, hR⟩ : ∃ x, peersD d = x := ⟨_, rfl⟩
        rw [hR] at C HR0
        clear hR
        by_cases hv : d.votes.length = 0
        · have hvb : ((d.votes.length : Int) == 0) = true := by rw [beq_iff_eq]; omega
          have HR : Hid (roleI d = R) := (show _ = _ by rw [HR0.out]; simp [hv])
          clear hv HR0
          have k0 := X0.out.cell (j := 0) rfl
          have k1 := X0.out.cell (j := 1) rfl
          have k2 := X0.out.cell (j := 2) rfl
          have k3 := X0.out.cell (j := 3) rfl
          have k4 := X0.out.cell (j := 4) rfl
          have k5 := X0.out.cell (j := 5) rfl
          have k6 := X0.out.cell (j := 6) rfl
          have k7 := X0.out.cell (j := 7) rfl
          have k8 := X0.out.cell (j := 8) rfl
          have k9 := X0.out.cell (j := 9) rfl
          have k10 := X0.out.cell (j := 10) rfl
          have k11 := X0.out.cell (j := 11) rfl
          have k12 := X0.out.cell (j := 12) rfl
          have k13 := X0.out.cell (j := 13) rfl
          go_enter Try.func38, Try.ntmps38
          go_wp2_with (first | (go_at_call 60; refine C.out.mono ?_; rintro e w1 ⟨rfl, hb⟩; have B2 := hid (below_via B.out hb); clear hb) | fail)
          go_ret
          exact ⟨by rw [HR.out]; first | rfl | simp, B2.out⟩
        · have hvb : ((d.votes.length : Int) == 0) = false := by rw [beq_eq_false_iff_ne]; omega
          have HR : Hid (roleI d = false) := (show _ = _ by rw [HR0.out]; simp [hv])
          clear hv HR0 C
          go_enter Try.func38, Try.ntmps38
          go_wp2
          go_ret
          exact ⟨by rw [HR.out]; rfl, B.out⟩
      · have r2 : (d.role == 2) = false := by rw [beq_eq_false_iff_ne]; exact h2
        have HR : Hid (roleI d = false) := (show _ = _ by unfold roleI; rw [if_neg h0, if_neg h1, if_neg h2])
        clear h0 h1 h2 hh hs A
        go_enter Try.func38, Try.ntmps38
        go_wp2
        go_ret
        exact ⟨by rw [HR.out]; rfl, B.out⟩
end Go.Proofs.Yteceaohhnjlmbaa
