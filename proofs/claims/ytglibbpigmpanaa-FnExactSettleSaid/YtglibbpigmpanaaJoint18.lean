/-
  The walks of spec.ConfAt, ConfOf: the conf behind an index, in memory of its own.
-/
import Derived.Test.YtglibbpigmpanaaJoint1
import Derived.Test.YtglibbpigmpanaaJoint17
import Derived.Deep.LoopGhost
namespace Go.Proofs.Ytglibbpigmpanaa
open Go.RowKit Go.Sort

/-- how many of n entries behind s have an index of at most x -/
def uptoN (s : Int) (n : Nat) (x : Int) : Nat := min n (x - s).toNat
theorem row_grownN {w w' : World} {base size n g : Nat} {t t' : TypeId} {v : Value} {xs cs : List Value} (h : BlockIs w g t' cs) (hr : w.ownsRow base t size v n xs) (hg : w.grownBy w' v.ownBlock) (ht : t' ≠ t) : BlockIs w' g t' cs := by
  have hlt := h.lt
  unfold BlockIs at h ⊢
  rw [hg.block g hlt ?_]
  · exact h
  · intro e
    obtain ⟨cs2, h2, _⟩ := row_block hr e.symm
    unfold BlockIs at h2
    rw [h] at h2
    simp only [Option.some.injEq, Obj.cells.injEq] at h2
    exact ht h2.2.1
set_option maxRecDepth 1000000 in
set_option maxHeartbeats 2000000 in
theorem specConfAt_any (d : NodeD) (p : NodeL) (x : Int) (hne : d.conf ≠ []) (hcl : d.conf.length ≤ 1048576) (h0 : 0 ≤ d.start) (h1 : d.start ≤ 1000000) (hel : d.ents.length ≤ 1048576) (hsm : ∀ f ∈ d.ents, f.data.size ≤ 1048576) (hx0 : 0 ≤ x) (hx1 : x ≤ 2000000) (w : World) (ha : IntsAt w p.co d.conf) (he : EntsAt w p.eo d.ents) :
    Calls Try.prog 17 #[.agg #[.int .i64 d.id, .int .i64 d.term, .int .i64 d.vote, .int .i64 d.role, .int .i64 d.lead, .slice p.co d.conf.length p.cc, .int .i64 d.start, .int .i64 d.sterm, .slice p.eo d.ents.length p.ec, .int .i64 d.commit, .int .i64 d.clock, .int .i64 d.limit, .slice p.vo d.votes.length p.vc, .slice p.po d.peers.length p.pc], .int .i64 x] w fun e w' => confDid (confTo d.conf d.ents (uptoN d.start d.ents.length x)) w e w' := by
  obtain ⟨co, cc, eo, ec, vo, vc, po, pc⟩ := p
  dsimp only at ha he ⊢
  have hb1 := below_more (Below.refl w.heap.size w) (.cells #[.int .i64 d.id, .int .i64 d.term, .int .i64 d.vote, .int .i64 d.role, .int .i64 d.lead, .slice co d.conf.length cc, .int .i64 d.start, .int .i64 d.sterm, .slice eo d.ents.length ec, .int .i64 d.commit, .int .i64 d.clock, .int .i64 d.limit, .slice vo d.votes.length vc, .slice po d.peers.length pc] 35)
  have X0 : BlockIs (w.alloc (.cells #[.int .i64 d.id, .int .i64 d.term, .int .i64 d.vote, .int .i64 d.role, .int .i64 d.lead, .slice co d.conf.length cc, .int .i64 d.start, .int .i64 d.sterm, .slice eo d.ents.length ec, .int .i64 d.commit, .int .i64 d.clock, .int .i64 d.limit, .slice vo d.votes.length vc, .slice po d.peers.length pc] 35)) w.heap.size 35 [.int .i64 d.id, .int .i64 d.term, .int .i64 d.vote, .int .i64 d.role, .int .i64 d.lead, .slice co d.conf.length cc, .int .i64 d.start, .int .i64 d.sterm, .slice eo d.ents.length ec, .int .i64 d.commit, .int .i64 d.clock, .int .i64 d.limit, .slice vo d.votes.length vc, .slice po d.peers.length pc] := heap_alloc_new w _
  obtain ⟨W, hW⟩ : ∃ W, w.alloc (.cells #[.int .i64 d.id, .int .i64 d.term, .int .i64 d.vote, .int .i64 d.role, .int .i64 d.lead, .slice co d.conf.length cc, .int .i64 d.start, .int .i64 d.sterm, .slice eo d.ents.length ec, .int .i64 d.commit, .int .i64 d.clock, .int .i64 d.limit, .slice vo d.votes.length vc, .slice po d.peers.length pc] 35) = W := ⟨_, rfl⟩
  rw [hW] at hb1 X0
  have hsW : w.heap.size < W.heap.size := X0.lt
  have hb2 := below_more (Below.refl W.heap.size W) (.cells #[] 3)
  have G0 : (W.alloc (.cells #[] 3)).heap[W.heap.size]? = some (.cells #[] 3) := heap_alloc_new W _
  obtain ⟨W2, hW2⟩ : ∃ V, W.alloc (.cells #[] 3) = V := ⟨_, rfl⟩
  rw [hW2] at hb2 G0
  have X2 := X0.on hb2 X0.lt
  have B2 := below_via hb1 hb2
  have N2 := hid (no_ints (base := w.heap.size) G0 (Nat.le_of_lt hsW))
  have hs2 : w.heap.size ≤ W2.heap.size := B2.size
  obtain ⟨bc, oc, rfl, hcc⟩ := ha.on B2 hne
  have HCC := hid hcc
  have HE := hid he
  have c5 := X2.cell (j := 5) rfl
  have c0' := X0.cell (j := 5) rfl
  have XX2 := hid X2
  have BB2 := hid B2
  obtain ⟨m, hm⟩ : ∃ m, uptoN d.start d.ents.length x = m := ⟨_, rfl⟩
  rw [hm]
  have hm1 : m ≤ d.ents.length := by rw [← hm]; exact Nat.min_le_left _ _
  have hm2 : ∀ k : Nat, k < m → d.start + 1 + (k : Int) ≤ x := by intro k hk; rw [← hm] at hk; unfold uptoN at hk; omega
  have hm3 : m < d.ents.length → ¬ d.start + 1 + (m : Int) ≤ x := by intro hk; rw [← hm] at hk ⊢; unfold uptoN at hk ⊢; omega
  have HM2 := hid hm2
  have HM3 := hid hm3
  clear hm hm2 hm3 X2 X0 B2 hb1 hb2 G0 ha he hcc
  go_enter Try.func17, Try.ntmps17
  go_wp2_with (at_builtin; refine wpList_append_ints rfl (.tmp 9) (.tmp 11) rfl rfl (base := w.heap.size) (L := []) (zs := d.conf) rfl rfl rfl (by simp; omega) hs2 N2.out HCC.out ?_; intro va' vc' w3 hro hgr)
  have X3 := hid (row_grownN XX2.out N2.out hgr (by decide))
  have B3 := hid (BB2.out.grown hgr BB2.out.size (fun g q => by obtain ⟨_, _, hb⟩ := row_block N2.out q; exact hb))
  have O3 := hid hro
  clear hro hgr N2 XX2 BB2 HCC c5 c0' hW2
  simp only [List.nil_append] at O3
  have O3' : Hid (w3.ownsRow w.heap.size 3 1 (.slice va' d.conf.length vc') d.conf.length (intCells d.conf)) := O3.out
  clear O3
  go_wp2
  go_loopg [5, 6] m (fun g o i wr => ∃ (k : Nat) (ra : Option Addr) (rc : Nat), k + g = m ∧ i = .int .i64 k ∧ o = .slice ra (confTo d.conf d.ents k).length rc ∧ Hid (wr.ownsRow w.heap.size 3 1 (.slice ra (confTo d.conf d.ents k).length rc) (confTo d.conf d.ents k).length (intCells (confTo d.conf d.ents k))) ∧ Hid (Below w.heap.size w wr) ∧ Hid (BlockIs wr w.heap.size 35 [.int .i64 d.id, .int .i64 d.term, .int .i64 d.vote, .int .i64 d.role, .int .i64 d.lead, .slice (some ⟨bc, oc, none⟩) d.conf.length cc, .int .i64 d.start, .int .i64 d.sterm, .slice eo d.ents.length ec, .int .i64 d.commit, .int .i64 d.clock, .int .i64 d.limit, .slice vo d.votes.length vc, .slice po d.peers.length pc]))
  case atStart => exact ⟨0, va', vc', by omega, rfl, rfl, O3', B3, X3⟩
  case round =>
    obtain ⟨k, ra, rc, hkg, rfl, rfl, OR, BR, XR⟩ := hrel
    clear O3' B3 X3
    have x8 := XR.out.cell (j := 8) rfl
    have x6 := XR.out.cell (j := 6) rfl
    cases gk with
    | zero =>
      obtain rfl : k = m := by omega
      by_cases hlt : k < d.ents.length
      · have hltz : (k : Int) < (d.ents.length : Int) := by omega
        have hgd' : x < d.start + 1 + (k : Int) := by have := HM3.out hlt; omega
        have hgd : ¬ d.start + 1 + (k : Int) ≤ x := by omega
        have hgb : decide (d.start + 1 + (k : Int) ≤ x) = false := by simp; omega
        go_wp2
        go_ret
        exact ⟨ra, rc, rfl, OR.out, BR.out⟩
      · have hltz : ¬ (k : Int) < (d.ents.length : Int) := by omega
        go_wp2
        go_ret
        exact ⟨ra, rc, rfl, OR.out, BR.out⟩
    | succ g =>
      have hlt : k < d.ents.length := by omega
      have hltz : (k : Int) < (d.ents.length : Int) := by omega
      have hgd : d.start + 1 + (k : Int) ≤ x := HM2.out k (by omega)
      have hgb : decide (d.start + 1 + (k : Int) ≤ x) = true := by simp; omega
      have hne0 : d.ents ≠ [] := by intro q; rw [q] at hlt; simp at hlt
      obtain ⟨b, off, rfl, hc⟩ := HE.out.on BR.out hne0
      obtain ⟨_, y1, y2⟩ := hc k hlt
      clear hc
      have hst := confTo_step (c := d.conf) hlt
      by_cases h2 : d.ents[k].kind = 2
      · have h2b : (d.ents[k].kind == 2) = true := by rw [beq_iff_eq]; exact h2
        have C := hid (specReadConf_any d.ents[k].data (hsm _ (List.getElem_mem hlt)))
        have HH2 := hid h2
        clear h2
        go_wp2_with fail
        refine (C.out _).mono ?_
        rintro e w4 ⟨v, rfl, ho, hb⟩
        obtain ⟨ua, uc, rfl⟩ := row_shape ho
        have O4 := hid (row_down ho BR.out.size)
        have B4 := hid (below_via BR.out hb)
        have X4 := hid (XR.out.on hb XR.out.lt)
        have OR4 := hid (row_ext OR.out fun g cs h9 => h9.on hb h9.lt)
        clear ho hb C OR BR XR x8 x6
        cases hq : (readConf d.ents[k].data).2 with
        | true =>
          have HT : Hid (confTo d.conf d.ents (k + 1) = (readConf d.ents[k].data).1) := (show _ = _ by rw [hst, if_pos ⟨HH2.out, hq⟩])
          clear hst hq
          go_wp2
          go_roundg g
          case measure => omega
          case rel => exact ⟨k + 1, ua, uc, by omega, by go_num, by rw [HT.out], (show World.ownsRow _ _ _ _ _ _ _ by rw [HT.out]; exact O4.out), B4, X4⟩
        | false =>
          have HT : Hid (confTo d.conf d.ents (k + 1) = confTo d.conf d.ents k) := (show _ = _ by rw [hst, if_neg (fun q => by rw [hq] at q; exact absurd q.2 (by decide))])
          clear hst hq
          go_wp2
          go_roundg g
          case measure => omega
          case rel => exact ⟨k + 1, ra, rc, by omega, by go_num, by rw [HT.out], (show World.ownsRow _ _ _ _ _ _ _ by rw [HT.out]; exact OR4.out), B4, X4⟩
      · have h2b : (d.ents[k].kind == 2) = false := by rw [beq_eq_false_iff_ne]; exact h2
        have HT : Hid (confTo d.conf d.ents (k + 1) = confTo d.conf d.ents k) := (show _ = _ by rw [hst, if_neg (fun q => h2 q.1)])
        clear hst h2
        go_wp2
        go_roundg g
        case measure => omega
        case rel => exact ⟨k + 1, ra, rc, by omega, by go_num, by rw [HT.out], (show World.ownsRow _ _ _ _ _ _ _ by rw [HT.out]; exact OR.out), BR, XR⟩
set_option maxRecDepth 1000000 in
set_option maxHeartbeats 1000000 in
theorem specConfOf_any (d : NodeD) (p : NodeL) (hh : nodeHead d = true) (hs : d.Small) (w : World) (ha : IntsAt w p.co d.conf) (he : EntsAt w p.eo d.ents) :
    Calls Try.prog 43 #[.agg #[.int .i64 d.id, .int .i64 d.term, .int .i64 d.vote, .int .i64 d.role, .int .i64 d.lead, .slice p.co d.conf.length p.cc, .int .i64 d.start, .int .i64 d.sterm, .slice p.eo d.ents.length p.ec, .int .i64 d.commit, .int .i64 d.clock, .int .i64 d.limit, .slice p.vo d.votes.length p.vc, .slice p.po d.peers.length p.pc]] w fun e w' => confDid (confTo d.conf d.ents d.ents.length) w e w' := by
  have hb := below_more (Below.refl w.heap.size w) (.cells #[.int .i64 d.id, .int .i64 d.term, .int .i64 d.vote, .int .i64 d.role, .int .i64 d.lead, .slice p.co d.conf.length p.cc, .int .i64 d.start, .int .i64 d.sterm, .slice p.eo d.ents.length p.ec, .int .i64 d.commit, .int .i64 d.clock, .int .i64 d.limit, .slice p.vo d.votes.length p.vc, .slice p.po d.peers.length p.pc] 35)
  have X0 : Hid (BlockIs (w.alloc (.cells #[.int .i64 d.id, .int .i64 d.term, .int .i64 d.vote, .int .i64 d.role, .int .i64 d.lead, .slice p.co d.conf.length p.cc, .int .i64 d.start, .int .i64 d.sterm, .slice p.eo d.ents.length p.ec, .int .i64 d.commit, .int .i64 d.clock, .int .i64 d.limit, .slice p.vo d.votes.length p.vc, .slice p.po d.peers.length p.pc] 35)) w.heap.size 35 [.int .i64 d.id, .int .i64 d.term, .int .i64 d.vote, .int .i64 d.role, .int .i64 d.lead, .slice p.co d.conf.length p.cc, .int .i64 d.start, .int .i64 d.sterm, .slice p.eo d.ents.length p.ec, .int .i64 d.commit, .int .i64 d.clock, .int .i64 d.limit, .slice p.vo d.votes.length p.vc, .slice p.po d.peers.length p.pc]) := heap_alloc_new w _
  obtain ⟨W, hW⟩ : ∃ W, w.alloc (.cells #[.int .i64 d.id, .int .i64 d.term, .int .i64 d.vote, .int .i64 d.role, .int .i64 d.lead, .slice p.co d.conf.length p.cc, .int .i64 d.start, .int .i64 d.sterm, .slice p.eo d.ents.length p.ec, .int .i64 d.commit, .int .i64 d.clock, .int .i64 d.limit, .slice p.vo d.votes.length p.vc, .slice p.po d.peers.length p.pc] 35) = W := ⟨_, rfl⟩
  rw [hW] at hb X0
  have hsz : w.heap.size ≤ W.heap.size := hb.size
  obtain ⟨n1, n2, n3, n4, _, _, n7, _⟩ := node_last hh
  have C' := specConfAt_any d p 1000060 n7 hs.conf n1 n2 hs.ents hs.each (by omega) (by omega) W (ha.on hb) (he.on hb)
  have hu : uptoN d.start d.ents.length 1000060 = d.ents.length := by unfold uptoN; unfold lastD at n4; omega
  rw [hu] at C'
  have C := hid C'
  have B := hid hb
  clear C' hb ha he n1 n2 n3 n4 n7 hu hs hh
  obtain ⟨T, hT⟩ : ∃ T, confTo d.conf d.ents d.ents.length = T := ⟨_, rfl⟩
  rw [hT] at C ⊢
  clear hT
  go_enter Try.func43, Try.ntmps43
  go_wp2_with (first | (refine wpList_load_whole Try.underlying35 node_size X0.out rfl rfl _ rfl rfl ?_) | fail)
  refine C.out.mono ?_
  rintro e w1 ⟨va, vc, rfl, ho, hb⟩
  have O := hid (row_down ho hsz)
  have B2 := hid (below_via B.out hb)
  clear ho hb C
  go_wp2
  go_ret
  exact ⟨va, vc, rfl, O.out, B2.out⟩
end Go.Proofs.Ytglibbpigmpanaa
