/-
  The walks of impl.confBehind and impl.ConfOf: the conf that holds, in memory of its own.
-/
import Derived.Test.YtglibbpigmpanaaJoint29
import Derived.Test.YtglibbpigmpanaaJoint25
import Derived.Test.YtglibbpigmpanaaJoint30
import Derived.Test.YtglibbpigmpanaaJoint1
namespace Go.Proofs.Ytglibbpigmpanaa
open Go.RowKit Go.Sort

set_option maxRecDepth 1000000 in
set_option maxHeartbeats 1000000 in
theorem confBehind_any (d : NodeD) (p : NodeL) (lo : Option Addr) (l : List EntD) (lc : Nat) (hne : d.conf ≠ []) (hcl : d.conf.length ≤ 1048576) (hl : l.length ≤ 1048576) (w : World) (ha : IntsAt w p.co d.conf) (he : EntsAt w lo l) :
    Calls Try.prog 58 #[.agg #[.int .i64 d.id, .int .i64 d.term, .int .i64 d.vote, .int .i64 d.role, .int .i64 d.lead, .slice p.co d.conf.length p.cc, .int .i64 d.start, .int .i64 d.sterm, .slice p.eo d.ents.length p.ec, .int .i64 d.commit, .int .i64 d.clock, .int .i64 d.limit, .slice p.vo d.votes.length p.vc, .slice p.po d.peers.length p.pc], .slice lo l.length lc] w fun e w' => confDid (confIn d.conf l) w e w' := by
  have hb := below_more (Below.refl w.heap.size w) (.cells #[.int .i64 d.id, .int .i64 d.term, .int .i64 d.vote, .int .i64 d.role, .int .i64 d.lead, .slice p.co d.conf.length p.cc, .int .i64 d.start, .int .i64 d.sterm, .slice p.eo d.ents.length p.ec, .int .i64 d.commit, .int .i64 d.clock, .int .i64 d.limit, .slice p.vo d.votes.length p.vc, .slice p.po d.peers.length p.pc] 35)
  have X0 : Hid (BlockIs (w.alloc (.cells #[.int .i64 d.id, .int .i64 d.term, .int .i64 d.vote, .int .i64 d.role, .int .i64 d.lead, .slice p.co d.conf.length p.cc, .int .i64 d.start, .int .i64 d.sterm, .slice p.eo d.ents.length p.ec, .int .i64 d.commit, .int .i64 d.clock, .int .i64 d.limit, .slice p.vo d.votes.length p.vc, .slice p.po d.peers.length p.pc] 35)) w.heap.size 35 [.int .i64 d.id, .int .i64 d.term, .int .i64 d.vote, .int .i64 d.role, .int .i64 d.lead, .slice p.co d.conf.length p.cc, .int .i64 d.start, .int .i64 d.sterm, .slice p.eo d.ents.length p.ec, .int .i64 d.commit, .int .i64 d.clock, .int .i64 d.limit, .slice p.vo d.votes.length p.vc, .slice p.po d.peers.length p.pc]) := heap_alloc_new w _
  obtain ⟨W, hW⟩ : ∃ W, w.alloc (.cells #[.int .i64 d.id, .int .i64 d.term, .int .i64 d.vote, .int .i64 d.role, .int .i64 d.lead, .slice p.co d.conf.length p.cc, .int .i64 d.start, .int .i64 d.sterm, .slice p.eo d.ents.length p.ec, .int .i64 d.commit, .int .i64 d.clock, .int .i64 d.limit, .slice p.vo d.votes.length p.vc, .slice p.po d.peers.length p.pc] 35) = W := ⟨_, rfl⟩
  rw [hW] at hb X0
  have hs : w.heap.size ≤ W.heap.size := hb.size
  have C1' := lastConfIn_any lo l lc hl W (he.on hb)
  have hK := lastTo_le l l.length
  have HC : Hid (confIn d.conf l = match lastTo l l.length with
    | 0 => d.conf
    | k + 1 => match l[k]? with
      | none => d.conf
      | some e => (readConf e.data).1) := rfl
  obtain ⟨K, hKK⟩ : ∃ K, lastTo l l.length = K := ⟨_, rfl⟩
  rw [hKK] at C1' hK HC
  clear hKK
  have B := hid hb
  cases K with
  | zero =>
    have HR : Hid (confIn d.conf l = d.conf) := HC.out
    rw [HR.out]
    have C1 := hid C1'
    have C2 := hid (cloneInts_any p.co p.cc d.conf hne hcl W (ha.on hb))
    have c5 := X0.out.cell (j := 5) rfl
    clear HC HR C1' hb X0 ha he
    go_enter Try.func58, Try.ntmps58
    go_wp2_with fail
    refine C1.out.mono ?_
    rintro e w1 ⟨rfl, hw⟩
    rw [hw]
    clear hw w1 C1
    go_wp2_with fail
    refine C2.out.mono ?_
    rintro e w1 ⟨va, vc, rfl, ho, hb⟩
    have O := hid (row_down ho hs)
    have B2 := hid (below_via B.out hb)
    clear ho hb C2
    go_wp2
    go_ret
    exact ⟨va, vc, rfl, O.out, B2.out⟩
  | succ k =>
    have hk : k < l.length := by omega
    have HR : Hid (confIn d.conf l = (readConf l[k].data).1) := (show _ = _ by rw [HC.out]; simp only [List.getElem?_eq_getElem hk])
    rw [HR.out]
    have hl0 : l ≠ [] := by intro e; rw [e] at hk; simp at hk
    obtain ⟨b, off, rfl, hc⟩ := he.on hb hl0
    obtain ⟨_, _, x2⟩ := hc k hk
    obtain ⟨x, hx⟩ : ∃ x : Int, ((k + 1 : Nat) : Int) = x := ⟨_, rfl⟩
    have hx1 : x - 1 = (k : Int) := by omega
    have hx0 : ¬ x = 0 := by omega
    have hxb : (x == 0) = false := by rw [beq_eq_false_iff_ne]; exact hx0
    have hxr : x ≤ 1048576 ∧ 1 ≤ x := by omega
    rw [hx] at C1'
    have C1 := hid C1'
    have C2 := hid (fun w => implReadConf_any l[k].data w)
    clear HC HR C1' hb X0 ha he hc hx
    go_enter Try.func58, Try.ntmps58
    go_wp2_with fail
    refine C1.out.mono ?_
    rintro e w1 ⟨rfl, hw⟩
    rw [hw]
    clear hw w1 C1
    go_wp2_with fail
    refine (C2.out _).mono ?_
    rintro e w1 ⟨v, rfl, ho, hb⟩
    obtain ⟨va, vc, rfl⟩ := row_shape ho
    have O := hid (row_down ho hs)
    have B2 := hid (below_via B.out hb)
    clear ho hb C2
    go_wp2
    go_ret
    exact ⟨va, vc, rfl, O.out, B2.out⟩
set_option maxRecDepth 1000000 in
set_option maxHeartbeats 1000000 in
theorem implConfOf_any (d : NodeD) (p : NodeL) (hne : d.conf ≠ []) (hcl : d.conf.length ≤ 1048576) (hl : d.ents.length ≤ 1048576) (w : World) (ha : IntsAt w p.co d.conf) (he : EntsAt w p.eo d.ents) :
    Calls Try.prog 83 #[.agg #[.int .i64 d.id, .int .i64 d.term, .int .i64 d.vote, .int .i64 d.role, .int .i64 d.lead, .slice p.co d.conf.length p.cc, .int .i64 d.start, .int .i64 d.sterm, .slice p.eo d.ents.length p.ec, .int .i64 d.commit, .int .i64 d.clock, .int .i64 d.limit, .slice p.vo d.votes.length p.vc, .slice p.po d.peers.length p.pc]] w fun e w' => confDid (confIn d.conf d.ents) w e w' := by
  have hb := below_more (Below.refl w.heap.size w) (.cells #[.int .i64 d.id, .int .i64 d.term, .int .i64 d.vote, .int .i64 d.role, .int .i64 d.lead, .slice p.co d.conf.length p.cc, .int .i64 d.start, .int .i64 d.sterm, .slice p.eo d.ents.length p.ec, .int .i64 d.commit, .int .i64 d.clock, .int .i64 d.limit, .slice p.vo d.votes.length p.vc, .slice p.po d.peers.length p.pc] 35)
  have X0 : Hid (BlockIs (w.alloc (.cells #[.int .i64 d.id, .int .i64 d.term, .int .i64 d.vote, .int .i64 d.role, .int .i64 d.lead, .slice p.co d.conf.length p.cc, .int .i64 d.start, .int .i64 d.sterm, .slice p.eo d.ents.length p.ec, .int .i64 d.commit, .int .i64 d.clock, .int .i64 d.limit, .slice p.vo d.votes.length p.vc, .slice p.po d.peers.length p.pc] 35)) w.heap.size 35 [.int .i64 d.id, .int .i64 d.term, .int .i64 d.vote, .int .i64 d.role, .int .i64 d.lead, .slice p.co d.conf.length p.cc, .int .i64 d.start, .int .i64 d.sterm, .slice p.eo d.ents.length p.ec, .int .i64 d.commit, .int .i64 d.clock, .int .i64 d.limit, .slice p.vo d.votes.length p.vc, .slice p.po d.peers.length p.pc]) := heap_alloc_new w _
  obtain ⟨W, hW⟩ : ∃ W, w.alloc (.cells #[.int .i64 d.id, .int .i64 d.term, .int .i64 d.vote, .int .i64 d.role, .int .i64 d.lead, .slice p.co d.conf.length p.cc, .int .i64 d.start, .int .i64 d.sterm, .slice p.eo d.ents.length p.ec, .int .i64 d.commit, .int .i64 d.clock, .int .i64 d.limit, .slice p.vo d.votes.length p.vc, .slice p.po d.peers.length p.pc] 35) = W := ⟨_, rfl⟩
  rw [hW] at hb X0
  have hs : w.heap.size ≤ W.heap.size := hb.size
  have C := hid (confBehind_any d p p.eo d.ents p.ec hne hcl hl W (ha.on hb) (he.on hb))
  have c8 := X0.out.cell (j := 8) rfl
  have B := hid hb
  clear hb ha he
  go_enter Try.func83, Try.ntmps83
  go_wp2_with (first | (refine wpList_load_whole Try.underlying35 node_size X0.out rfl rfl _ rfl rfl ?_) | fail)
  refine C.out.mono ?_
  rintro e w1 ⟨va, vc, rfl, ho, hb⟩
  have O := hid (row_down ho hs)
  have B2 := hid (below_via B.out hb)
  clear ho hb C
  go_wp2
  go_ret
  exact ⟨va, vc, rfl, O.out, B2.out⟩
end Go.Proofs.Ytglibbpigmpanaa
