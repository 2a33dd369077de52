/-
  A node's rows of the call's own: written over with marks, held to be them.
  What Settle answers is small.
-/
import Derived.Test.YtglibbpigmpanaaJoint1
import Derived.Test.YtglibbpigmpanaaJoint34
import Derived.Test.YtglibbpigmpanaaJoint47
import Derived.Test.YtglibbpigmpanaaJoint12
namespace Go.Proofs.Ytglibbpigmpanaa
open Go.RowKit Go.Sort

/-- nothing but one row's block was written -/
def Took (t : TypeId) (va : Option Addr) (n lo hi : Nat) (w w' : World) : Prop := ∃ o : Option Nat, w.grownBy w' o ∧ ∀ g, o = some g → va = some ⟨g, 0, none⟩ ∧ n ≠ 0 ∧ lo ≤ g ∧ g < hi ∧ ∃ cs, BlockIs w g t cs
theorem Took.block {t t' : TypeId} {va : Option Addr} {n lo hi j : Nat} {w w' : World} {cs : List Value} (h : Took t va n lo hi w w') (hb : BlockIs w j t' cs) (hne : t' ≠ t ∨ (n ≠ 0 → va ≠ some ⟨j, 0, none⟩)) : BlockIs w' j t' cs := by
  obtain ⟨o, hg, ho⟩ := h
  have h9 : some j ≠ o := by
    intro q
    obtain ⟨h1, h2, _, _, cs', h3⟩ := ho j q.symm
    exact hne.elim (fun h => h (block_one hb h3).1) (fun h => h h2 h1)
  unfold BlockIs at hb ⊢
  rw [hg.block j (BlockIs.lt (show BlockIs w j t' cs from hb)) h9]
  exact hb
theorem Took.own {t t' : TypeId} {va vb : Option Addr} {n m lo hi lo' hi' : Nat} {w w' : World} {cs : List Value} (h : Took t va n lo hi w w') (ho : OwnAt w t' cs m vb lo' hi') (hne : t' ≠ t ∨ (n ≠ 0 → m ≠ 0 → va ≠ vb)) : OwnAt w' t' cs m vb lo' hi' := by
  by_cases h0 : m = 0
  · exact Or.inl h0
  · rcases ho with h1 | ⟨g, r, e1, e2, e3, hb⟩
    · exact absurd h1 h0
    · exact Or.inr ⟨g, r, e1, e2, e3, h.block hb (hne.imp id fun h9 h2 => by rw [← e1]; exact h9 h2 h0)⟩
theorem Took.kept {t : TypeId} {va : Option Addr} {n lo hi : Nat} {w w' : World} (h : Took t va n lo hi w w') : KeptBut lo hi w w' := by
  intro j t' cs hj hb
  obtain ⟨o, hg, ho⟩ := h
  have h9 : some j ≠ o := by
    intro q
    obtain ⟨_, _, h1, h2, _⟩ := ho j q.symm
    exact hj ⟨h1, h2⟩
  unfold BlockIs at hb ⊢
  rw [hg.block j (BlockIs.lt (show BlockIs w j t' cs from hb)) h9]
  exact hb
theorem Took.below {t : TypeId} {va : Option Addr} {n lo hi : Nat} {w w' : World} (h : Took t va n lo hi w w') (hlo : lo ≤ w.heap.size) : Below lo w w' := by
  obtain ⟨o, hg, ho⟩ := h
  refine (Below.refl lo w).grown hg hlo (fun k q => ?_)
  obtain ⟨_, _, h1, _⟩ := ho k q
  omega
theorem markI_own (lo hi : Nat) (va : Option Addr) (vc m : Nat) (zs : List Int) (hm : m ≤ 10000000) (hl : zs.length ≤ 1048576) (w : World) (h : OwnAt w 3 (intCells zs) zs.length va lo hi) :
    Calls Try.prog 31 #[.slice va zs.length vc, .int .i64 m] w fun e w' => e = .returned (.int .i64 ((m + zs.length : Nat) : Int)) ∧ OwnAt w' 3 (intCells (countFrom m zs.length)) zs.length va lo hi ∧ Took 3 va zs.length lo hi w w' := by
  rcases h with h0 | ⟨g, r, rfl, h1, h2, hb⟩
  · obtain rfl : zs = [] := List.length_eq_zero_iff.1 h0
    refine Calls.mono (markIntS_nil va vc m w) ?_
    rintro e w' ⟨rfl, rfl⟩
    exact ⟨rfl, Or.inl rfl, none, World.grownBy.refl _ _, fun g q => by cases q⟩
  · by_cases h0 : zs = []
    · subst h0
      refine Calls.mono (markIntS_nil _ vc m w) ?_
      rintro e w' ⟨rfl, rfl⟩
      exact ⟨rfl, Or.inl rfl, none, World.grownBy.refl _ _, fun g q => by cases q⟩
    · refine Calls.mono (markIntS_more g zs r vc m hm hl w hb) ?_
      rintro e w' ⟨rfl, ⟨r', hr⟩, h3⟩
      exact ⟨rfl, Or.inr ⟨g, r', rfl, h1, h2, hr⟩, some g, h3, fun g' q => by cases q; exact ⟨rfl, fun q => h0 (List.length_eq_zero_iff.1 q), h1, h2, _, hb⟩⟩
set_option maxRecDepth 1000000 in
theorem markEntryS_noneS (a : Option Addr) (c : Nat) (m : Int) (w : World) : Calls Try.prog 63 #[.slice a 0 c, .int .i64 m] w fun e w' => e = .returned (.int .i64 m) ∧ w' = w := markEntryS_none a c m w
set_option maxRecDepth 1000000 in
theorem markLog_noneS (s t : Int) (a : Option Addr) (c : Nat) (m : Int) (w : World) : Calls Try.prog 32 #[.agg #[.int .i64 s, .int .i64 t, .slice a 0 c], .int .i64 m] w fun e w' => e = .returned (.int .i64 m) ∧ w.grownBy w' none := by
  have C := hid (fun w => markEntryS_none a c m w)
  have HB := hid (World.grownBy_alloc w (.cells #[.int .i64 s, .int .i64 t, .slice a 0 c] 32) none)
  go_enter Try.func32, Try.ntmps32
  go_wp2_with fail
  refine (C.out _).mono ?_
  rintro e w1 ⟨rfl, hw⟩
  rw [hw]
  clear hw C
  go_wp2
  go_ret
  exact ⟨rfl, HB.out⟩
theorem markL_own (lo hi : Nat) (s t : Int) (va : Option Addr) (vc m : Nat) (l : List EntD) (hm : m ≤ 10000000) (hl : l.length ≤ 1048576) (w : World) (h : OwnAt w 69 (entCells l) l.length va lo hi) :
    Calls Try.prog 32 #[.agg #[.int .i64 s, .int .i64 t, .slice va l.length vc], .int .i64 m] w fun e w' => e = .returned (.int .i64 ((m + 3 * l.length : Nat) : Int)) ∧ OwnAt w' 69 (entCells (marksE m l.length)) l.length va lo hi ∧ Took 69 va l.length lo hi w w' := by
  by_cases h0 : l = []
  · subst h0
    refine Calls.mono (markLog_noneS s t va vc m w) ?_
    rintro e w' ⟨rfl, hg⟩
    exact ⟨rfl, Or.inl rfl, none, hg, fun g q => by cases q⟩
  · rcases h with h1 | ⟨g, r, rfl, h1, h2, hb⟩
    · exact absurd (List.length_eq_zero_iff.1 h1) h0
    · refine Calls.mono (markLog_any s t g l vc m r hm hl w hb) ?_
      rintro e w' ⟨rfl, hr, h3⟩
      exact ⟨rfl, Or.inr ⟨g, r, rfl, h1, h2, hr⟩, some g, h3, fun g' q => by cases q; exact ⟨rfl, fun q => h0 (List.length_eq_zero_iff.1 q), h1, h2, _, hb⟩⟩
set_option maxRecDepth 1000000 in
theorem markPeerS_noneS (a : Option Addr) (c : Nat) (m : Int) (w : World) : Calls Try.prog 33 #[.slice a 0 c, .int .i64 m] w fun e w' => e = .returned (.int .i64 m) ∧ w' = w := by
  go_enter Try.func33, Try.ntmps33
  go_wp2
  go_loopg [1, 5] 0 (fun _ y i wr => wr = w ∧ i = .int .i64 0 ∧ y = .int .i64 m)
  case atStart => exact ⟨rfl, rfl, rfl⟩
  case round =>
    obtain ⟨rfl, rfl, rfl⟩ := hrel
    go_wp2
    go_ret
    exact ⟨rfl, rfl⟩
theorem markP_own (lo hi : Nat) (va : Option Addr) (vc m : Nat) (l : List PeerD) (hm : m ≤ 10000000) (hl : l.length ≤ 1048576) (w : World) (h : OwnAt w 67 (peerCells l) l.length va lo hi) :
    Calls Try.prog 33 #[.slice va l.length vc, .int .i64 m] w fun e w' => e = .returned (.int .i64 ((m + 4 * l.length : Nat) : Int)) ∧ OwnAt w' 67 (peerCells (marksPeer m l.length)) l.length va lo hi ∧ Took 67 va l.length lo hi w w' := by
  by_cases h0 : l = []
  · subst h0
    refine Calls.mono (markPeerS_noneS va vc m w) ?_
    rintro e w' ⟨rfl, rfl⟩
    exact ⟨rfl, Or.inl rfl, none, World.grownBy.refl _ _, fun g q => by cases q⟩
  · rcases h with h1 | ⟨g, r, rfl, h1, h2, hb⟩
    · exact absurd (List.length_eq_zero_iff.1 h1) h0
    · refine Calls.mono (markPeerS_any g l vc m r hm hl w hb) ?_
      rintro e w' ⟨rfl, hr, h3⟩
      exact ⟨rfl, Or.inr ⟨g, r, rfl, h1, h2, hr⟩, some g, h3, fun g' q => by cases q; exact ⟨rfl, fun q => h0 (List.length_eq_zero_iff.1 q), h1, h2, _, hb⟩⟩

/-- a node's rows are the call's own, laid between two heights -/
structure OwnN (W : World) (lo hi : Nat) (d : NodeD) (p : NodeL) : Prop where
  conf : OwnAt W 3 (intCells d.conf) d.conf.length p.co lo hi
  ents : OwnAt W 69 (entCells d.ents) d.ents.length p.eo lo hi
  votes : OwnAt W 3 (intCells d.votes) d.votes.length p.vo lo hi
  peers : OwnAt W 67 (peerCells d.peers) d.peers.length p.po lo hi
  apart : d.conf ≠ [] → d.votes ≠ [] → p.co ≠ p.vo
theorem row_ownN {w : World} {base size n : Nat} {t : TypeId} {va : Option Addr} {vc : Nat} {cs : List Value} (h : w.ownsRow base t size (.slice va n vc) n cs) : OwnAt w t cs n va base w.heap.size := by
  by_cases h0 : n = 0
  · exact Or.inl h0
  · obtain ⟨g, r, e, h1, h2⟩ := row_blockM (Nat.pos_of_ne_zero h0) h
    exact Or.inr ⟨g, r, e, h1, h2.lt, h2⟩
theorem SetRows.own {W : World} {lo : Nat} {d : NodeD} {p : NodeL} (h : SetRows W lo d p) : OwnN W lo W.heap.size d p :=
  ⟨row_ownN h.conf, h.ents, row_ownN h.votes, row_ownN h.peers, fun h1 h2 q => by
    obtain ⟨g, _, e1, _⟩ := row_blockM (List.length_pos_iff.2 h1) h.conf
    obtain ⟨g', _, e2, _⟩ := row_blockM (List.length_pos_iff.2 h2) h.votes
    rw [e1, e2] at q
    exact h.apart g (by rw [e1]; rfl) (by rw [e2, ← q]; rfl)⟩
theorem NodeOwn.own {W : World} {lo : Nat} {d : NodeD} {g5 g8 g12 g13 : Nat} (h : NodeOwn W d g5 g8 g12 g13) (h1 : lo ≤ g5) (h2 : g5 < g8) (h3 : g8 < g12) (h4 : g12 < g13) : OwnN W lo W.heap.size d (nodeNew d g5 g8 g12 g13) :=
  ⟨Or.inr ⟨g5, [], rfl, h1, h.conf.lt, by rw [List.append_nil]; exact h.conf⟩, Or.inr ⟨g8, [], rfl, by omega, h.ents.lt, by rw [List.append_nil]; exact h.ents⟩, Or.inr ⟨g12, [], rfl, by omega, h.votes.lt, by rw [List.append_nil]; exact h.votes⟩, Or.inr ⟨g13, [], rfl, by omega, h.peers.lt, by rw [List.append_nil]; exact h.peers⟩,
   fun _ _ q => by have q1 : (some ⟨g5, 0, none⟩ : Option Addr) = some ⟨g12, 0, none⟩ := q; cases q1; omega⟩
theorem OwnN.on {W W' : World} {lo hi : Nat} {d : NodeD} {p : NodeL} (h : OwnN W lo hi d p) (hb : Below W.heap.size W W') : OwnN W' lo hi d p := ⟨h.conf.on hb, h.ents.on hb, h.votes.on hb, h.peers.on hb, h.apart⟩
theorem OwnN.kept {W W' : World} {lo hi lo2 hi2 : Nat} {d : NodeD} {p : NodeL} (h : OwnN W lo hi d p) (hk : KeptBut lo2 hi2 W W') (ho : hi ≤ lo2 ∨ hi2 ≤ lo) : OwnN W' lo hi d p := ⟨h.conf.kept hk ho, h.ents.kept hk ho, h.votes.kept hk ho, h.peers.kept hk ho, h.apart⟩
theorem ownI_at {W : World} {lo hi n : Nat} {va : Option Addr} {l : List Int} (hn : l.length = n) (h : OwnAt W 3 (intCells l) n va lo hi) : IntsAt W va l := by
  rcases h with h0 | ⟨g, r, rfl, _, _, hb⟩
  · exact fun q => absurd (List.eq_nil_of_length_eq_zero (hn.trans h0)) q
  · exact intsAt_of hb
theorem ownE_at {W : World} {lo hi n : Nat} {va : Option Addr} {l : List EntD} (hn : l.length = n) (h : OwnAt W 69 (entCells l) n va lo hi) : EntsAt W va l := by
  rcases h with h0 | ⟨g, r, rfl, _, _, hb⟩
  · exact fun q => absurd (List.eq_nil_of_length_eq_zero (hn.trans h0)) q
  · exact entsAt_of hb
theorem ownP_at {W : World} {lo hi n : Nat} {va : Option Addr} {l : List PeerD} (hn : l.length = n) (h : OwnAt W 67 (peerCells l) n va lo hi) : PeersAt W va l := by
  rcases h with h0 | ⟨g, r, rfl, _, _, hb⟩
  · exact fun q => absurd (List.eq_nil_of_length_eq_zero (hn.trans h0)) q
  · exact peersAt_of hb
theorem OwnN.at {W : World} {lo hi : Nat} {d : NodeD} {p : NodeL} (h : OwnN W lo hi d p) : NodeAt W d p := ⟨ownI_at rfl h.conf, ownE_at rfl h.ents, ownI_at rfl h.votes, ownP_at rfl h.peers⟩
/-- the marks of a node's rows -/
structure MarksN (W : World) (a b c e : Nat) (p : NodeL) : Prop where
  conf : IntsAt W p.co (countFrom 1 a)
  ents : EntsAt W p.eo (marksE (1 + a) b)
  votes : IntsAt W p.vo (countFrom (1 + a + 3 * b) c)
  peers : PeersAt W p.po (marksPeer (1 + a + 3 * b + c) e)
theorem MarksN.on {W W' : World} {a b c e : Nat} {p : NodeL} (h : MarksN W a b c e p) (hb : Below W.heap.size W W') : MarksN W' a b c e p := ⟨h.conf.on hb, h.ents.on hb, h.votes.on hb, h.peers.on hb⟩
theorem countFrom_len (m n : Nat) : (countFrom m n).length = n := by simp [countFrom]

set_option maxRecDepth 1000000 in
set_option maxHeartbeats 2000000 in
theorem markNode_own (d : NodeD) (p : NodeL) (lo hi : Nat) (hs : d.Small) (w : World) (hlo : lo ≤ w.heap.size) (h : OwnN w lo hi d p) :
    Calls Try.prog 9 #[.agg #[.int .i64 d.id, .int .i64 d.term, .int .i64 d.vote, .int .i64 d.role, .int .i64 d.lead, .slice p.co d.conf.length p.cc, .int .i64 d.start, .int .i64 d.sterm, .slice p.eo d.ents.length p.ec, .int .i64 d.commit, .int .i64 d.clock, .int .i64 d.limit, .slice p.vo d.votes.length p.vc, .slice p.po d.peers.length p.pc], .int .i64 1] w fun e w' => e = .returned (.int .i64 ((1 + d.conf.length + 3 * d.ents.length + d.votes.length + 4 * d.peers.length : Nat) : Int)) ∧ MarksN w' d.conf.length d.ents.length d.votes.length d.peers.length p ∧ KeptBut lo hi w w' ∧ Below lo w w' := by
  have bn := below_more (Below.refl w.heap.size w) (.cells #[.int .i64 d.id, .int .i64 d.term, .int .i64 d.vote, .int .i64 d.role, .int .i64 d.lead, .slice p.co d.conf.length p.cc, .int .i64 d.start, .int .i64 d.sterm, .slice p.eo d.ents.length p.ec, .int .i64 d.commit, .int .i64 d.clock, .int .i64 d.limit, .slice p.vo d.votes.length p.vc, .slice p.po d.peers.length p.pc] 35)
  have xn : BlockIs (w.alloc (.cells #[.int .i64 d.id, .int .i64 d.term, .int .i64 d.vote, .int .i64 d.role, .int .i64 d.lead, .slice p.co d.conf.length p.cc, .int .i64 d.start, .int .i64 d.sterm, .slice p.eo d.ents.length p.ec, .int .i64 d.commit, .int .i64 d.clock, .int .i64 d.limit, .slice p.vo d.votes.length p.vc, .slice p.po d.peers.length p.pc] 35)) w.heap.size 35 [.int .i64 d.id, .int .i64 d.term, .int .i64 d.vote, .int .i64 d.role, .int .i64 d.lead, .slice p.co d.conf.length p.cc, .int .i64 d.start, .int .i64 d.sterm, .slice p.eo d.ents.length p.ec, .int .i64 d.commit, .int .i64 d.clock, .int .i64 d.limit, .slice p.vo d.votes.length p.vc, .slice p.po d.peers.length p.pc] := heap_alloc_new w _
  have kn := h.on bn
  obtain ⟨W, hW⟩ : ∃ W, w.alloc (.cells #[.int .i64 d.id, .int .i64 d.term, .int .i64 d.vote, .int .i64 d.role, .int .i64 d.lead, .slice p.co d.conf.length p.cc, .int .i64 d.start, .int .i64 d.sterm, .slice p.eo d.ents.length p.ec, .int .i64 d.commit, .int .i64 d.clock, .int .i64 d.limit, .slice p.vo d.votes.length p.vc, .slice p.po d.peers.length p.pc] 35) = W := ⟨_, rfl⟩
  rw [hW] at bn xn kn
  have h1 := hs.conf
  have h2 := hs.ents
  have h3 := hs.votes
  have h4 := hs.peers
  have q5 := xn.cell (j := 5) rfl
  have BN := hid bn
  have XN := hid xn
  have KN := hid kn
  have HLO := hid hlo
  have CM' := fun w h => markI_own lo hi p.co p.cc 1 d.conf (by omega) (by omega) w h
  have CL' := fun w h => markL_own lo hi d.start d.sterm p.eo p.ec (1 + d.conf.length) d.ents (by omega) (by omega) w h
  have CV' := fun w h => markI_own lo hi p.vo p.vc (1 + d.conf.length + 3 * d.ents.length) d.votes (by omega) (by omega) w h
  have CP' := fun w h => markP_own lo hi p.po p.pc (1 + d.conf.length + 3 * d.ents.length + d.votes.length) d.peers (by omega) (by omega) w h
  have FIN : Hid (∀ W, OwnAt W 3 (intCells (countFrom 1 d.conf.length)) d.conf.length p.co lo hi → OwnAt W 69 (entCells (marksE (1 + d.conf.length) d.ents.length)) d.ents.length p.eo lo hi → OwnAt W 3 (intCells (countFrom (1 + d.conf.length + 3 * d.ents.length) d.votes.length)) d.votes.length p.vo lo hi → OwnAt W 67 (peerCells (marksPeer (1 + d.conf.length + 3 * d.ents.length + d.votes.length) d.peers.length)) d.peers.length p.po lo hi → MarksN W d.conf.length d.ents.length d.votes.length d.peers.length p) :=
    fun W a b c e => ⟨ownI_at (countFrom_len _ _) a, ownE_at (marksE_length _ _) b, ownI_at (countFrom_len _ _) c, ownP_at (marksPeer_length _ _) e⟩
  obtain ⟨K1, hK1⟩ : ∃ K : Nat, 1 + d.conf.length = K := ⟨_, rfl⟩
  rw [hK1] at CM' CL' CV' CP' FIN ⊢
  obtain ⟨K2, hK2⟩ : ∃ K : Nat, K1 + 3 * d.ents.length = K := ⟨_, rfl⟩
  rw [hK2] at CL' CV' CP' FIN ⊢
  obtain ⟨K3, hK3⟩ : ∃ K : Nat, K2 + d.votes.length = K := ⟨_, rfl⟩
  rw [hK3] at CV' CP' FIN ⊢
  obtain ⟨K4, hK4⟩ : ∃ K : Nat, K3 + 4 * d.peers.length = K := ⟨_, rfl⟩
  rw [hK4] at CP' ⊢
  have CM := hid CM'
  have CL := hid CL'
  have CV := hid CV'
  have CP := hid CP'
  clear bn xn kn h hlo CM' CL' CV' CP' hK1 hK2 hK3 hK4 h1 h2 h3 h4 hs
  go_enter Try.func9, Try.ntmps9
  go_wp2_with fail
  refine Calls.mono (CM.out _ KN.out.conf) ?_
  rintro e w1 ⟨rfl, s1, t1⟩
  have C1 := hid s1
  have T1 := hid t1
  have E1 := hid (t1.own KN.out.ents (Or.inl (by decide)))
  have V1 := hid (t1.own KN.out.votes (Or.inr fun a b q => KN.out.apart (fun q9 => a (by rw [q9]; rfl)) (fun q9 => b (by rw [q9]; rfl)) q))
  have P1 := hid (t1.own KN.out.peers (Or.inl (by decide)))
  have X1 := hid (t1.block XN.out (Or.inl (by decide)))
  have q6 := X1.out.cell (j := 6) rfl
  have q7 := X1.out.cell (j := 7) rfl
  have q8 := X1.out.cell (j := 8) rfl
  clear s1 t1 q5 CM
  go_wp2_with fail
  refine Calls.mono (CL.out _ E1.out) ?_
  rintro e w2 ⟨rfl, s2, t2⟩
  have E2 := hid s2
  have T2 := hid t2
  have C2 := hid (t2.own C1.out (Or.inl (by decide)))
  have V2 := hid (t2.own V1.out (Or.inl (by decide)))
  have P2 := hid (t2.own P1.out (Or.inl (by decide)))
  have X2 := hid (t2.block X1.out (Or.inl (by decide)))
  have q12 := X2.out.cell (j := 12) rfl
  clear s2 t2 q6 q7 q8 CL C1 V1 P1 E1 X1
  go_wp2_with fail
  refine Calls.mono (CV.out _ V2.out) ?_
  rintro e w3 ⟨rfl, s3, t3⟩
  have V3 := hid s3
  have T3 := hid t3
  have C3 := hid (t3.own C2.out (Or.inr fun a b q => KN.out.apart (fun q9 => b (by rw [q9]; rfl)) (fun q9 => a (by rw [q9]; rfl)) q.symm))
  have E3 := hid (t3.own E2.out (Or.inl (by decide)))
  have P3 := hid (t3.own P2.out (Or.inl (by decide)))
  have X3 := hid (t3.block X2.out (Or.inl (by decide)))
  have q13 := X3.out.cell (j := 13) rfl
  clear s3 t3 q12 CV C2 E2 P2 V2 X2
  go_wp2_with fail
  refine Calls.mono (CP.out _ P3.out) ?_
  rintro e w4 ⟨rfl, s4, t4⟩
  have HE : Hid (MarksN w4 d.conf.length d.ents.length d.votes.length d.peers.length p ∧ KeptBut lo hi w w4 ∧ Below lo w w4) := by
    have b0 : Below lo w W := BN.out.mono HLO.out
    refine ⟨FIN.out w4 (t4.own C3.out (Or.inl (by decide))) (t4.own E3.out (Or.inl (by decide))) (t4.own V3.out (Or.inl (by decide))) s4, fun j t cs hj hb => t4.kept _ _ _ hj (T3.out.kept _ _ _ hj (T2.out.kept _ _ _ hj (T1.out.kept _ _ _ hj (hb.on BN.out hb.lt)))), ?_⟩
    have l0 : lo ≤ W.heap.size := Nat.le_trans HLO.out BN.out.size
    have c1 := T1.out.below l0
    have l1 : lo ≤ w1.heap.size := Nat.le_trans l0 c1.size
    have c2 := T2.out.below l1
    have l2 : lo ≤ w2.heap.size := Nat.le_trans l1 c2.size
    have c3 := T3.out.below l2
    have l3 : lo ≤ w3.heap.size := Nat.le_trans l2 c3.size
    exact (((b0.trans c1).trans c2).trans c3).trans (t4.below l3)
  clear s4 t4 CP q13 C3 E3 V3 P3 X3 T1 T2 T3 FIN
  go_wp2
  go_ret
  exact ⟨rfl, HE.out⟩

set_option maxRecDepth 1000000 in
set_option maxHeartbeats 2000000 in
theorem heldNode_own (d : NodeD) (p : NodeL) (hs : d.Small) (w : World) (h : MarksN w d.conf.length d.ents.length d.votes.length d.peers.length p) :
    Calls Try.prog 10 #[.agg #[.int .i64 d.id, .int .i64 d.term, .int .i64 d.vote, .int .i64 d.role, .int .i64 d.lead, .slice p.co d.conf.length p.cc, .int .i64 d.start, .int .i64 d.sterm, .slice p.eo d.ents.length p.ec, .int .i64 d.commit, .int .i64 d.clock, .int .i64 d.limit, .slice p.vo d.votes.length p.vc, .slice p.po d.peers.length p.pc], .int .i64 1] w fun e w' => e = .returned (.int .i64 ((1 + d.conf.length + 3 * d.ents.length + d.votes.length + 4 * d.peers.length : Nat) : Int)) ∧ Below w.heap.size w w' := by
  have bn := below_more (Below.refl w.heap.size w) (.cells #[.int .i64 d.id, .int .i64 d.term, .int .i64 d.vote, .int .i64 d.role, .int .i64 d.lead, .slice p.co d.conf.length p.cc, .int .i64 d.start, .int .i64 d.sterm, .slice p.eo d.ents.length p.ec, .int .i64 d.commit, .int .i64 d.clock, .int .i64 d.limit, .slice p.vo d.votes.length p.vc, .slice p.po d.peers.length p.pc] 35)
  have xn : BlockIs (w.alloc (.cells #[.int .i64 d.id, .int .i64 d.term, .int .i64 d.vote, .int .i64 d.role, .int .i64 d.lead, .slice p.co d.conf.length p.cc, .int .i64 d.start, .int .i64 d.sterm, .slice p.eo d.ents.length p.ec, .int .i64 d.commit, .int .i64 d.clock, .int .i64 d.limit, .slice p.vo d.votes.length p.vc, .slice p.po d.peers.length p.pc] 35)) w.heap.size 35 [.int .i64 d.id, .int .i64 d.term, .int .i64 d.vote, .int .i64 d.role, .int .i64 d.lead, .slice p.co d.conf.length p.cc, .int .i64 d.start, .int .i64 d.sterm, .slice p.eo d.ents.length p.ec, .int .i64 d.commit, .int .i64 d.clock, .int .i64 d.limit, .slice p.vo d.votes.length p.vc, .slice p.po d.peers.length p.pc] := heap_alloc_new w _
  have kn := h.on bn
  obtain ⟨W, hW⟩ : ∃ W, w.alloc (.cells #[.int .i64 d.id, .int .i64 d.term, .int .i64 d.vote, .int .i64 d.role, .int .i64 d.lead, .slice p.co d.conf.length p.cc, .int .i64 d.start, .int .i64 d.sterm, .slice p.eo d.ents.length p.ec, .int .i64 d.commit, .int .i64 d.clock, .int .i64 d.limit, .slice p.vo d.votes.length p.vc, .slice p.po d.peers.length p.pc] 35) = W := ⟨_, rfl⟩
  rw [hW] at bn xn kn
  have h1 := hs.conf
  have h2 := hs.ents
  have h3 := hs.votes
  have h4 := hs.peers
  have q5 := xn.cell (j := 5) rfl
  have q6 := xn.cell (j := 6) rfl
  have q7 := xn.cell (j := 7) rfl
  have q8 := xn.cell (j := 8) rfl
  have BN := hid bn
  have XN := hid xn
  have KC := hid kn.conf
  have KE := hid kn.ents
  have KV := hid kn.votes
  have KP := hid kn.peers
  have CM' := fun w h => heldIntS_any p.co d.conf.length p.cc 1 (by omega) (by omega) w h
  have CL' := fun w h => heldLog_any d.start d.sterm p.eo d.ents.length p.ec (1 + d.conf.length) (by omega) (by omega) w h
  have CV' := fun w h => heldIntS_any p.vo d.votes.length p.vc (1 + d.conf.length + 3 * d.ents.length) (by omega) (by omega) w h
  have CP' := fun w h => heldPeerS_any p.po d.peers.length p.pc (1 + d.conf.length + 3 * d.ents.length + d.votes.length) (by omega) (by omega) w h
  obtain ⟨K1, hK1⟩ : ∃ K : Nat, 1 + d.conf.length = K := ⟨_, rfl⟩
  rw [hK1] at CM' CL' CV' CP' KE KV KP ⊢
  obtain ⟨K2, hK2⟩ : ∃ K : Nat, K1 + 3 * d.ents.length = K := ⟨_, rfl⟩
  rw [hK2] at CL' CV' CP' KV KP ⊢
  obtain ⟨K3, hK3⟩ : ∃ K : Nat, K2 + d.votes.length = K := ⟨_, rfl⟩
  rw [hK3] at CV' CP' KP ⊢
  obtain ⟨K4, hK4⟩ : ∃ K : Nat, K3 + 4 * d.peers.length = K := ⟨_, rfl⟩
  rw [hK4] at CP' ⊢
  have hp1 : ¬ ((K1 : Nat) : Int) < 0 := by omega
  have hp2 : ¬ ((K2 : Nat) : Int) < 0 := by omega
  have hp3 : ¬ ((K3 : Nat) : Int) < 0 := by omega
  have hp4 : ¬ ((K4 : Nat) : Int) < 0 := by omega
  have CM := hid CM'
  have CL := hid CL'
  have CV := hid CV'
  have CP := hid CP'
  clear bn xn kn h CM' CL' CV' CP' hK1 hK2 hK3 hK4 h1 h2 h3 h4 hs
  go_enter Try.func10, Try.ntmps10
  go_wp2_with fail
  refine Calls.mono (CM.out _ KC.out) ?_
  rintro e w1 ⟨rfl, hw⟩
  rw [hw]
  clear hw w1 CM
  go_wp2_with fail
  refine Calls.mono (CL.out _ KE.out) ?_
  rintro e w2 ⟨rfl, b2⟩
  have X2 := XN.out.on b2 XN.out.lt
  have r12 := X2.cell (j := 12) rfl
  have r13 := X2.cell (j := 13) rfl
  have B2 := hid (below_via BN.out b2)
  have V2 := hid (KV.out.on b2)
  have P2 := hid (KP.out.on b2)
  clear b2 q5 q6 q7 q8 X2 CL
  go_wp2_with fail
  refine Calls.mono (CV.out _ V2.out) ?_
  rintro e w3 ⟨rfl, hw⟩
  rw [hw]
  clear hw w3 CV
  go_wp2_with fail
  refine Calls.mono (CP.out _ P2.out) ?_
  rintro e w4 ⟨rfl, b4⟩
  have B4 := hid (below_via B2.out b4)
  clear b4 CP
  go_wp2
  go_ret
  exact ⟨rfl, B4.out⟩
end Go.Proofs.Ytglibbpigmpanaa

namespace Go.Proofs.Ytglibbpigmpanaa
open Go.RowKit Go.Sort

theorem setR_small {d : NodeD} (x : Int) (hs : d.Small) : (setR d x).Small := by
  unfold setR
  split
  · rename_i h
    have h1 : confOk d.conf = true := by
      simp only [setOk, nodeOk, nodeHead, Bool.and_eq_true] at h
      exact h.1.1.1.1.2
    have h2 := confTo_ok d.conf d.ents h1 (min d.ents.length (x - d.start).toNat) (Nat.min_le_left _ _)
    have h3 : (confTo d.conf d.ents (min d.ents.length (x - d.start).toNat)).length ≤ 1048576 := by
      simp only [confOk, within, Bool.and_eq_true, decide_eq_true_eq] at h2
      omega
    have h4 := hs.ents
    refine ⟨h3, ?_, ?_, hs.votes, hs.peers⟩
    · show (behindAns d.start d.sterm d.ents x (logTerm d.start d.sterm d.ents x)).length ≤ 1048576
      unfold behindAns
      split
      · rw [List.length_drop]; omega
      · simp
    · intro f hf
      change f ∈ behindAns d.start d.sterm d.ents x (logTerm d.start d.sterm d.ents x) at hf
      unfold behindAns at hf
      split at hf
      · exact hs.each f (List.mem_of_mem_drop hf)
      · cases hf
  · exact newD_small (by simp)
theorem newLies (d : NodeD) (g5 g8 g12 g13 : Nat) : NodeLies (nodeNew d g5 g8 g12 g13) := ⟨⟨_, _, rfl⟩, ⟨_, _, rfl⟩, ⟨_, _, rfl⟩, ⟨_, _, rfl⟩⟩
end Go.Proofs.Ytglibbpigmpanaa
