/-
  The walk of impl.peersOk: whether the peers are those of the conf that holds, and right.
  The walk of impl.roleOk: what the role asks of votes and peers.
-/
import Derived.Test.YtglibbpigmpanaaJoint37
import Derived.Test.YtglibbpigmpanaaJoint38
import Derived.Test.YtglibbpigmpanaaJoint24
import Derived.BigQuiet
import Derived.Deep.LoopGhost
import Derived.Lib.QuietBelow
import Derived.Test.YtglibbpigmpanaaJoint29
namespace Go.Proofs.Ytglibbpigmpanaa
open Go.RowKit Go.Sort

theorem log_last {d : NodeD} (hh : nodeHead d = true) : wrap64 (d.start + d.ents.length) = lastD d ∧ 0 ≤ lastD d ∧ lastD d ≤ 1000000 := by
  obtain ⟨h1, h2, h3, h4, _⟩ := node_last hh
  unfold lastD at h4 ⊢
  exact ⟨IntWalk.wrap64_in _ (by omega), by omega, h4⟩
set_option maxRecDepth 1000000 in
set_option maxHeartbeats 2000000 in
theorem peersOk_any (d : NodeD) (p : NodeL) (hh : nodeHead d = true) (hs : d.Small) (w : World) (ha : NodeAt w d p) :
    Calls Try.prog 70 #[.agg #[.int .i64 d.id, .int .i64 d.term, .int .i64 d.vote, .int .i64 d.role, .int .i64 d.lead, .slice p.co d.conf.length p.cc, .int .i64 d.start, .int .i64 d.sterm, .slice p.eo d.ents.length p.ec, .int .i64 d.commit, .int .i64 d.clock, .int .i64 d.limit, .slice p.vo d.votes.length p.vc, .slice p.po d.peers.length p.pc]] w fun e w' => e = .returned (.bool (peersD d)) ∧ Below w.heap.size w w' := by
  obtain ⟨co, cc, eo, ec, vo, vc, po, pc⟩ := p
  obtain ⟨hac, hae, _, hap⟩ := ha
  dsimp only at hac hae hap ⊢
  have hb := below_more (Below.refl w.heap.size w) (.cells #[.int .i64 d.id, .int .i64 d.term, .int .i64 d.vote, .int .i64 d.role, .int .i64 d.lead, .slice co d.conf.length cc, .int .i64 d.start, .int .i64 d.sterm, .slice eo d.ents.length ec, .int .i64 d.commit, .int .i64 d.clock, .int .i64 d.limit, .slice vo d.votes.length vc, .slice po d.peers.length pc] 35)
  have X0 : Hid (BlockIs (w.alloc (.cells #[.int .i64 d.id, .int .i64 d.term, .int .i64 d.vote, .int .i64 d.role, .int .i64 d.lead, .slice co d.conf.length cc, .int .i64 d.start, .int .i64 d.sterm, .slice eo d.ents.length ec, .int .i64 d.commit, .int .i64 d.clock, .int .i64 d.limit, .slice vo d.votes.length vc, .slice po d.peers.length pc] 35)) w.heap.size 35 [.int .i64 d.id, .int .i64 d.term, .int .i64 d.vote, .int .i64 d.role, .int .i64 d.lead, .slice co d.conf.length cc, .int .i64 d.start, .int .i64 d.sterm, .slice eo d.ents.length ec, .int .i64 d.commit, .int .i64 d.clock, .int .i64 d.limit, .slice vo d.votes.length vc, .slice po d.peers.length pc]) := heap_alloc_new w _
  obtain ⟨W, hW⟩ : ∃ W, w.alloc (.cells #[.int .i64 d.id, .int .i64 d.term, .int .i64 d.vote, .int .i64 d.role, .int .i64 d.lead, .slice co d.conf.length cc, .int .i64 d.start, .int .i64 d.sterm, .slice eo d.ents.length ec, .int .i64 d.commit, .int .i64 d.clock, .int .i64 d.limit, .slice vo d.votes.length vc, .slice po d.peers.length pc] 35) = W := ⟨_, rfl⟩
  rw [hW] at hb X0
  obtain ⟨n1, n2, n3, n4, n5, n6, n7, n8⟩ := node_last hh
  obtain ⟨l1, l2, l3⟩ := log_last hh
  have CL' := fun w ha => implLogLast_any d.start d.sterm (by omega) eo d.ents ec (by omega) w ha
  have CO' := fun w h1 h2 => othersOf_any d ⟨co, cc, eo, ec, vo, vc, po, pc⟩ n7 hs.conf hs.ents n8 w h1 h2
  have HD : Hid (peersD d = peersAre d.peers (othersD (confIn d.conf d.ents) d.id) (lastD d)) := rfl
  rw [l1] at CL'
  have hpl := hs.peers
  have hol : (othersD (confIn d.conf d.ents) d.id).length ≤ 4 := Nat.le_trans (List.length_filter_le _ _) (confOk_len n8).2
  obtain ⟨last, hla⟩ : ∃ x, lastD d = x := ⟨_, rfl⟩
  obtain ⟨os, hos⟩ : ∃ x, othersD (confIn d.conf d.ents) d.id = x := ⟨_, rfl⟩
  obtain ⟨lt, hlt'⟩ : ∃ x, lastT d.sterm d.ents = x := ⟨_, rfl⟩
  obtain ⟨R, hR⟩ : ∃ x, peersD d = x := ⟨_, rfl⟩
  rw [hla] at CL' HD l2 l3
  rw [hlt'] at CL'
  rw [hos] at CO' HD hol
  rw [hR] at HD ⊢
  have CL := hid CL'
  have CO := hid CO'
  have AC := hid (hac.on hb)
  have AE := hid (hae.on hb)
  have AP := hid (hap.on hb)
  have B := hid hb
  clear CL' CO' l1 hla hos hlt' hR hac hae hap hb n1 n2 n3 n4 n5 n6 n7 n8 hs hh
  have c6 := X0.out.cell (j := 6) rfl
  have c7 := X0.out.cell (j := 7) rfl
  have c8 := X0.out.cell (j := 8) rfl
  go_enter Try.func70, Try.ntmps70
  go_wp2_with fail
  refine (CL.out _ AE.out).mono ?_
  rintro e w1 ⟨rfl, hb⟩
  have X1 := hid (X0.out.on hb X0.out.lt)
  have AC1 := hid (AC.out.on hb)
  have AE1 := hid (AE.out.on hb)
  have AP1 := hid (AP.out.on hb)
  have B1 := hid (below_via B.out hb)
  clear hb CL X0 AC AE AP B c6 c7 c8
  go_wp2_with (first | (refine wpList_load_whole Try.underlying35 node_size X1.out rfl rfl _ rfl rfl ?_) | fail)
  refine (CO.out _ AC1.out AE1.out).mono ?_
  rintro e w2 ⟨ua, uc, rfl, ho, hb⟩
  have c11 := (X1.out.on hb X1.out.lt).cell (j := 13) rfl
  have P2 := hid (AP1.out.on hb)
  have O2 := hid (ints_row rfl ho)
  have B2 := hid (below_via B1.out hb)
  clear hb ho CO X1 AC1 AE1 AP1 B1
  by_cases hlen : d.peers.length = os.length
  · have hlz : (d.peers.length : Int) = (os.length : Int) := by omega
    have hlb : ((d.peers.length : Int) == (os.length : Int)) = true := by rw [beq_iff_eq]; exact hlz
    go_wp2
    have HLEN := hid hlen
    clear c11 hlen hlz hlb
    go_loopg [25] d.peers.length (fun g i wr => ∃ (k : Nat), k + g = d.peers.length ∧ i = .int .i64 k ∧ Hid (peersTo d.peers os last k = true) ∧ Hid (IntsAt wr ua os) ∧ Hid (PeersAt wr po d.peers) ∧ Hid (Below w.heap.size w wr))
    case atStart => exact ⟨0, by omega, rfl, (show _ = _ from rfl), O2, P2, B2⟩
    case round =>
      obtain ⟨k, hkg, rfl, HT, OR, PR, BR⟩ := hrel
      clear O2 P2 B2
      cases gk with
      | zero =>
        have hlt : ¬ (k : Int) < (d.peers.length : Int) := by omega
        have hlt0 : ¬ k < d.peers.length := by omega
        have hltq : ¬ (k : Int) < (os.length : Int) := by have := HLEN.out; omega
        have HR : Hid (R = true) := (show _ = _ by rw [HD.out, peersAre, decide_eq_true HLEN.out, Bool.true_and]; have h9 := HT.out; rw [show k = os.length by have := HLEN.out; omega] at h9; exact h9)
        go_wp2
        go_ret
        exact ⟨by rw [HR.out]; rfl, BR.out⟩
      | succ g =>
        have hk : k < d.peers.length := by omega
        have hko : k < os.length := by have := HLEN.out; omega
        have hlt : (k : Int) < (d.peers.length : Int) := by omega
        have hlt0 : k < d.peers.length := by omega
        have hltp : (k : Int) < (os.length : Int) := by omega
        have hne : d.peers ≠ [] := by intro e; rw [e] at hk; simp at hk
        have hno : os ≠ [] := by intro e; rw [e] at hko; simp at hko
        obtain ⟨b, off, rfl, hc⟩ := PR.out hne
        obtain ⟨ob, oo, rfl, hco⟩ := OR.out hno
        obtain ⟨x0, x1, x2, x3⟩ := hc k hk
        obtain ⟨W2, hW2⟩ : ∃ W2, wr.alloc (.cells #[.int .i64 d.peers[k].pid, .int .i64 d.peers[k].next, .int .i64 d.peers[k].upto, .int .i64 d.peers[k].sent] 67) = W2 := ⟨_, rfl⟩
        have hb2 : Below wr.heap.size wr W2 := by rw [← hW2]; exact below_more (Below.refl _ wr) _
        have hx2 : BlockIs W2 wr.heap.size 67 [.int .i64 d.peers[k].pid, .int .i64 d.peers[k].next, .int .i64 d.peers[k].upto, .int .i64 d.peers[k].sent] := by rw [← hW2]; exact heap_alloc_new wr _
        have n0 := cell_regrown (hx2.cell (j := 0) rfl)
        have n1 := cell_regrown (hx2.cell (j := 1) rfl)
        have n2 := cell_regrown (hx2.cell (j := 2) rfl)
        have n3 := cell_regrown (hx2.cell (j := 3) rfl)
        have q0 := cell_regrown (show W2.cell? ⟨ob, oo + k, none⟩ = some (.int .i64 os[k]) from (hb2.cell (p := ⟨ob, oo + k, none⟩) (World.block_lt_of_cell? wr _ (hco k hko))).trans (hco k hko))
        have B2 := hid (below_via BR.out hb2)
        have OR2 := hid (OR.out.on hb2)
        have PR2 := hid (PR.out.on hb2)
        have C' := fun d' os' => Calls.regrown_of (w := W2) (d := d') (os := os') (peerOk_any d.peers[k] last l2 l3 _)
        have hstep := peersTo_step (last := last) hk hko
        have hbad := peers_no (last := last) hk hko
        clear hc hco hb2 hx2
        by_cases hid9 : d.peers[k].pid = os[k]
        · have hib : (d.peers[k].pid == os[k]) = true := by rw [beq_iff_eq]; exact hid9
          have hin : (d.peers[k].pid != os[k]) = false := by simp [hid9]
          have HID := hid hid9
          clear hid9
          cases hq : peerOk d.peers[k] last with
          | false =>
            have HR : Hid (R = false) := (show _ = _ by rw [HD.out]; exact hbad (by rw [hq, Bool.and_false]))
            rw [hq] at C'
            have C := hid C'
            clear C' hq hstep hbad
            go_wp2
            refine wp_region_quiet_below (by kernel_rfl) (by kernel_rfl) ?_
            repeat (first | go_big_quiet_step (first | (go_at_call 78; exact C.out _ _) | fail) | quiet_step (first | (go_at_call 78; exact C.out _ _) | fail))
            refine wpQuiet_nil ?_
            intro _ hw'
            obtain ⟨⟨dq, osq⟩, hw''⟩ := hw'
            subst hw''
            have BQ : Hid (Below w.heap.size w (grow (redrawn W2 dq) osq)) := B2.out.trans ((below_regrown W2 dq osq).mono B2.out.size)
            generalize grow (redrawn W2 dq) osq = wq at BQ ⊢
            clear n0 n1 n2 n3 q0 C
            go_wp2
            go_ret
            exact ⟨by rw [HR.out]; rfl, BQ.out⟩
          | true =>
            have HN : Hid (peersTo d.peers os last (k + 1) = true) := (show _ = _ by rw [hstep, HT.out, hq, decide_eq_true HID.out]; rfl)
            rw [hq] at C'
            have C := hid C'
            clear C' hq hstep hbad
            go_wp2
            refine wp_region_quiet_below (by kernel_rfl) (by kernel_rfl) ?_
            repeat (first | go_big_quiet_step (first | (go_at_call 78; exact C.out _ _) | fail) | quiet_step (first | (go_at_call 78; exact C.out _ _) | fail))
            refine wpQuiet_nil ?_
            intro _ hw'
            obtain ⟨⟨dq, osq⟩, hw''⟩ := hw'
            subst hw''
            have BQ : Hid (Below w.heap.size w (grow (redrawn W2 dq) osq)) := B2.out.trans ((below_regrown W2 dq osq).mono B2.out.size)
            have OQ := hid (OR2.out.on (below_regrown W2 dq osq))
            have PQ := hid (PR2.out.on (below_regrown W2 dq osq))
            generalize grow (redrawn W2 dq) osq = wq at BQ OQ PQ ⊢
            clear n0 n1 n2 n3 q0 C
            go_wp2
            go_roundg g
            case measure => omega
            case rel => exact ⟨k + 1, by omega, by go_num, HN, OQ, PQ, BQ⟩
        · have hib : (d.peers[k].pid == os[k]) = false := by rw [beq_eq_false_iff_ne]; exact hid9
          have hin : (d.peers[k].pid != os[k]) = true := by simp [hid9]
          have HR : Hid (R = false) := (show _ = _ by rw [HD.out]; exact hbad (by rw [decide_eq_false hid9, Bool.false_and]))
          clear C' hstep hbad
          go_wp2
          refine wp_region_quiet_below (by kernel_rfl) (by kernel_rfl) ?_
          repeat (first | go_big_quiet_step (fail) | quiet_step (fail))
          refine wpQuiet_nil ?_
          intro _ hw'
          obtain ⟨⟨dq, osq⟩, hw''⟩ := hw'
          subst hw''
          have BQ : Hid (Below w.heap.size w (grow (redrawn W2 dq) osq)) := B2.out.trans ((below_regrown W2 dq osq).mono B2.out.size)
          generalize grow (redrawn W2 dq) osq = wq at BQ ⊢
          clear n0 n1 n2 n3 q0
          go_wp2
          go_ret
          exact ⟨by rw [HR.out]; rfl, BQ.out⟩
  · have hlz : ¬ (d.peers.length : Int) = (os.length : Int) := by omega
    have hlb : ((d.peers.length : Int) == (os.length : Int)) = false := by rw [beq_eq_false_iff_ne]; exact hlz
    have HR : Hid (R = false) := (show _ = _ by rw [HD.out, peersAre, decide_eq_false hlen]; rfl)
    clear P2 O2 HD
    go_wp2
    go_ret
    exact ⟨by rw [HR.out]; rfl, B2.out⟩
end Go.Proofs.Ytglibbpigmpanaa

namespace Go.Proofs.Ytglibbpigmpanaa
open Go.RowKit Go.Sort

set_option maxRecDepth 1000000 in
set_option maxHeartbeats 2000000 in
theorem roleOk_any (d : NodeD) (p : NodeL) (hh : nodeHead d = true) (hs : d.Small) (w : World) (ha : NodeAt w d p) :
    Calls Try.prog 54 #[.agg #[.int .i64 d.id, .int .i64 d.term, .int .i64 d.vote, .int .i64 d.role, .int .i64 d.lead, .slice p.co d.conf.length p.cc, .int .i64 d.start, .int .i64 d.sterm, .slice p.eo d.ents.length p.ec, .int .i64 d.commit, .int .i64 d.clock, .int .i64 d.limit, .slice p.vo d.votes.length p.vc, .slice p.po d.peers.length p.pc]] w fun e w' => e = .returned (.bool (roleI d)) ∧ Below w.heap.size w w' := by
  have hb := below_more (Below.refl w.heap.size w) (.cells #[.int .i64 d.id, .int .i64 d.term, .int .i64 d.vote, .int .i64 d.role, .int .i64 d.lead, .slice p.co d.conf.length p.cc, .int .i64 d.start, .int .i64 d.sterm, .slice p.eo d.ents.length p.ec, .int .i64 d.commit, .int .i64 d.clock, .int .i64 d.limit, .slice p.vo d.votes.length p.vc, .slice p.po d.peers.length p.pc] 35)
  have X0 : Hid (BlockIs (w.alloc (.cells #[.int .i64 d.id, .int .i64 d.term, .int .i64 d.vote, .int .i64 d.role, .int .i64 d.lead, .slice p.co d.conf.length p.cc, .int .i64 d.start, .int .i64 d.sterm, .slice p.eo d.ents.length p.ec, .int .i64 d.commit, .int .i64 d.clock, .int .i64 d.limit, .slice p.vo d.votes.length p.vc, .slice p.po d.peers.length p.pc] 35)) w.heap.size 35 [.int .i64 d.id, .int .i64 d.term, .int .i64 d.vote, .int .i64 d.role, .int .i64 d.lead, .slice p.co d.conf.length p.cc, .int .i64 d.start, .int .i64 d.sterm, .slice p.eo d.ents.length p.ec, .int .i64 d.commit, .int .i64 d.clock, .int .i64 d.limit, .slice p.vo d.votes.length p.vc, .slice p.po d.peers.length p.pc]) := heap_alloc_new w _
  obtain ⟨W, hW⟩ : ∃ W, w.alloc (.cells #[.int .i64 d.id, .int .i64 d.term, .int .i64 d.vote, .int .i64 d.role, .int .i64 d.lead, .slice p.co d.conf.length p.cc, .int .i64 d.start, .int .i64 d.sterm, .slice p.eo d.ents.length p.ec, .int .i64 d.commit, .int .i64 d.clock, .int .i64 d.limit, .slice p.vo d.votes.length p.vc, .slice p.po d.peers.length p.pc] 35) = W := ⟨_, rfl⟩
  rw [hW] at hb X0
  have c3 := X0.out.cell (j := 3) rfl
  have c10 := X0.out.cell (j := 12) rfl
  have c11 := X0.out.cell (j := 13) rfl
  have B := hid hb
  have A := hid (ha.on hb)
  have hvm := hs.votes
  have hpm := hs.peers
  clear ha hb
  by_cases h0 : d.role = 0
  · have r0 : (d.role == 0) = true := by rw [beq_iff_eq]; exact h0
    have HR0 : Hid (roleI d = (decide (d.votes.length = 0) && decide (d.peers.length = 0))) := (show _ = _ by unfold roleI; rw [if_pos h0])
    clear h0 hh hs A
    by_cases hv : d.votes.length = 0
    · have hvb : ((d.votes.length : Int) == 0) = true := by rw [beq_iff_eq]; omega
      by_cases hp : d.peers.length = 0
      · have hpb : ((d.peers.length : Int) == 0) = true := by rw [beq_iff_eq]; omega
        have HR : Hid (roleI d = true) := (show _ = _ by rw [HR0.out]; simp [hv, hp])
        clear hv hp HR0
        go_enter Try.func54, Try.ntmps54
        go_wp2
        go_ret
        exact ⟨by rw [HR.out]; first | rfl | simp [hpb], B.out⟩
      · have hpb : ((d.peers.length : Int) == 0) = false := by rw [beq_eq_false_iff_ne]; omega
        have HR : Hid (roleI d = false) := (show _ = _ by rw [HR0.out]; simp [hv, hp])
        clear hv hp HR0
        go_enter Try.func54, Try.ntmps54
        go_wp2
        go_ret
        exact ⟨by rw [HR.out]; first | rfl | simp [hpb], B.out⟩
    · have hvb : ((d.votes.length : Int) == 0) = false := by rw [beq_eq_false_iff_ne]; omega
      have HR : Hid (roleI d = false) := (show _ = _ by rw [HR0.out]; simp [hv])
      clear hv HR0
      go_enter Try.func54, Try.ntmps54
      go_wp2
      go_ret
      exact ⟨by rw [HR.out]; rfl, B.out⟩
  · have r0 : (d.role == 0) = false := by rw [beq_eq_false_iff_ne]; exact h0
    by_cases h1 : d.role = 1
    · have r1 : (d.role == 1) = true := by rw [beq_iff_eq]; exact h1
      have HR0 : Hid (roleI d = ((decide (d.votes.length = 0) || confOk d.votes) && decide (d.peers.length = 0))) := (show _ = _ by unfold roleI; rw [if_neg h0, if_pos h1, votes_conf])
      clear h0 h1 hh hs
      have C' := implConfOk_any p.vo d.votes p.vc hvm W A.out.votes
      clear A
      by_cases hp : d.peers.length = 0
      · have hpb : ((d.peers.length : Int) == 0) = true := by rw [beq_iff_eq]; omega
        by_cases hv : d.votes.length = 0
        · have hvb : ((d.votes.length : Int) == 0) = true := by rw [beq_iff_eq]; omega
          have HR : Hid (roleI d = true) := (show _ = _ by rw [HR0.out]; simp [hv, hp])
          clear hv hp HR0 C'
          go_enter Try.func54, Try.ntmps54
          go_wp2
          go_ret
          exact ⟨by rw [HR.out]; first | rfl | simp [hpb], B.out⟩
        · have hvb : ((d.votes.length : Int) == 0) = false := by rw [beq_eq_false_iff_ne]; omega
          cases hc : confOk d.votes with
          | false =>
            have HR : Hid (roleI d = false) := (show _ = _ by rw [HR0.out]; simp [hv, hp, hc])
            rw [hc] at C'
            have C := hid C'
            clear hv hp HR0 C' hc
            go_enter Try.func54, Try.ntmps54
            go_wp2_with (go_at_call 49; refine C.out.mono ?_; rintro e w1 ⟨rfl, hb⟩; have B2 := hid (below_via B.out hb); have c11' := (X0.out.on hb X0.out.lt).cell (j := 13) rfl; clear hb)
            go_ret
            exact ⟨by rw [HR.out]; first | rfl | simp [hpb], B2.out⟩
          | true =>
            have HR : Hid (roleI d = true) := (show _ = _ by rw [HR0.out]; simp [hv, hp, hc])
            rw [hc] at C'
            have C := hid C'
            clear hv hp HR0 C' hc
            go_enter Try.func54, Try.ntmps54
            go_wp2_with (go_at_call 49; refine C.out.mono ?_; rintro e w1 ⟨rfl, hb⟩; have B2 := hid (below_via B.out hb); have c11' := (X0.out.on hb X0.out.lt).cell (j := 13) rfl; clear hb)
            go_ret
            exact ⟨by rw [HR.out]; first | rfl | simp [hpb], B2.out⟩
      · have hpb : ((d.peers.length : Int) == 0) = false := by rw [beq_eq_false_iff_ne]; omega
        by_cases hv : d.votes.length = 0
        · have hvb : ((d.votes.length : Int) == 0) = true := by rw [beq_iff_eq]; omega
          have HR : Hid (roleI d = false) := (show _ = _ by rw [HR0.out]; simp [hv, hp])
          clear hv hp HR0 C'
          go_enter Try.func54, Try.ntmps54
          go_wp2
          go_ret
          exact ⟨by rw [HR.out]; first | rfl | simp [hpb], B.out⟩
        · have hvb : ((d.votes.length : Int) == 0) = false := by rw [beq_eq_false_iff_ne]; omega
          cases hc : confOk d.votes with
          | false =>
            have HR : Hid (roleI d = false) := (show _ = _ by rw [HR0.out]; simp [hv, hp, hc])
            rw [hc] at C'
            have C := hid C'
            clear hv hp HR0 C' hc
            go_enter Try.func54, Try.ntmps54
            go_wp2_with (go_at_call 49; refine C.out.mono ?_; rintro e w1 ⟨rfl, hb⟩; have B2 := hid (below_via B.out hb); have c11' := (X0.out.on hb X0.out.lt).cell (j := 13) rfl; clear hb)
            go_ret
            exact ⟨by rw [HR.out]; first | rfl | simp [hpb], B2.out⟩
          | true =>
            have HR : Hid (roleI d = false) := (show _ = _ by rw [HR0.out]; simp [hv, hp, hc])
            rw [hc] at C'
            have C := hid C'
            clear hv hp HR0 C' hc
            go_enter Try.func54, Try.ntmps54
            go_wp2_with (go_at_call 49; refine C.out.mono ?_; rintro e w1 ⟨rfl, hb⟩; have B2 := hid (below_via B.out hb); have c11' := (X0.out.on hb X0.out.lt).cell (j := 13) rfl; clear hb)
            go_ret
            exact ⟨by rw [HR.out]; first | rfl | simp [hpb], B2.out⟩
    · have r1 : (d.role == 1) = false := by rw [beq_eq_false_iff_ne]; exact h1
      by_cases h2 : d.role = 2
      · have r2 : (d.role == 2) = true := by rw [beq_iff_eq]; exact h2
        have HR0 : Hid (roleI d = (decide (d.votes.length = 0) && peersD d)) := (show _ = _ by unfold roleI; rw [if_neg h0, if_neg h1, if_pos h2])
        have C := hid (peersOk_any d p hh hs W A.out)
        clear h0 h1 h2 hh hs A
        obtain ⟨R, hR⟩ : ∃ x, peersD d = x := ⟨_, rfl⟩
        rw [hR] at C HR0
        clear hR
        by_cases hv : d.votes.length = 0
        · have hvb : ((d.votes.length : Int) == 0) = true := by rw [beq_iff_eq]; omega
          have HR : Hid (roleI d = R) := (show _ = _ by rw [HR0.out]; simp [hv])
          clear hv HR0
          have k0 := X0.out.cell (j := 0) rfl
          have k1 := X0.out.cell (j := 1) rfl
          have k2 := X0.out.cell (j := 2) rfl
          have k3 := X0.out.cell (j := 3) rfl
          have k4 := X0.out.cell (j := 4) rfl
          have k5 := X0.out.cell (j := 5) rfl
          have k6 := X0.out.cell (j := 6) rfl
          have k7 := X0.out.cell (j := 7) rfl
          have k8 := X0.out.cell (j := 8) rfl
          have k9 := X0.out.cell (j := 9) rfl
          have k10 := X0.out.cell (j := 10) rfl
          have k11 := X0.out.cell (j := 11) rfl
          have k12 := X0.out.cell (j := 12) rfl
          have k13 := X0.out.cell (j := 13) rfl
          go_enter Try.func54, Try.ntmps54
          go_wp2_with (first | (go_at_call 70; refine C.out.mono ?_; rintro e w1 ⟨rfl, hb⟩; have B2 := hid (below_via B.out hb); clear hb) | fail)
          go_ret
          exact ⟨by rw [HR.out]; first | rfl | simp, B2.out⟩
        · have hvb : ((d.votes.length : Int) == 0) = false := by rw [beq_eq_false_iff_ne]; omega
          have HR : Hid (roleI d = false) := (show _ = _ by rw [HR0.out]; simp [hv])
          clear hv HR0 C
          go_enter Try.func54, Try.ntmps54
          go_wp2
          go_ret
          exact ⟨by rw [HR.out]; rfl, B.out⟩
      · have r2 : (d.role == 2) = false := by rw [beq_eq_false_iff_ne]; exact h2
        have HR : Hid (roleI d = false) := (show _ = _ by unfold roleI; rw [if_neg h0, if_neg h1, if_neg h2])
        clear h0 h1 h2 hh hs A
        go_enter Try.func54, Try.ntmps54
        go_wp2
        go_ret
        exact ⟨by rw [HR.out]; rfl, B.out⟩
end Go.Proofs.Ytglibbpigmpanaa
