/-
  The walk of impl.ConfAt at an index that is not ahead of the log's beginning.
  The walks of impl.idOk, limitOk, idOrNobody, peerOk.
-/
import Derived.Test.YtglibbpigmpanaaJoint31
import Derived.Test.YtglibbpigmpanaaJoint1
import Derived.Test.YtglibbpigmpanaaJoint36
import Derived.BigQuiet
import Derived.Lib.QuietBelow
import Derived.Deep.RegionWith
import Derived.Deep.Cut
import Derived.Deep.DeepCutAuto
namespace Go.Proofs.Ytglibbpigmpanaa
open Go.RowKit Go.Sort

set_option maxRecDepth 1000000 in
set_option maxHeartbeats 2000000 in
theorem implConfAt_any (d : NodeD) (p : NodeL) (x : Int) (m : Nat) (hm : m = min d.ents.length (x - d.start).toNat) (hne : d.conf ≠ []) (hcl : d.conf.length ≤ 1048576) (h0 : 0 ≤ d.start) (h1 : d.start ≤ x) (h2 : x ≤ 2000000) (hel : d.ents.length ≤ 1048576) (hf : ∃ b off, p.eo = some ⟨b, off, none⟩) (hec : d.ents.length ≤ p.ec) (hem : p.ec ≤ maxLen) (w : World) (ha : IntsAt w p.co d.conf) (he : EntsAt w p.eo d.ents) :
    Calls Try.prog 25 #[.agg #[.int .i64 d.id, .int .i64 d.term, .int .i64 d.vote, .int .i64 d.role, .int .i64 d.lead, .slice p.co d.conf.length p.cc, .int .i64 d.start, .int .i64 d.sterm, .slice p.eo d.ents.length p.ec, .int .i64 d.commit, .int .i64 d.clock, .int .i64 d.limit, .slice p.vo d.votes.length p.vc, .slice p.po d.peers.length p.pc], .int .i64 x] w fun e w' => confDid (confIn d.conf (d.ents.take m)) w e w' := by
  obtain ⟨co, cc, eo, ec, vo, vc, po, pc⟩ := p
  obtain ⟨b, off, hf⟩ := hf
  dsimp only at hf ha he hec hem ⊢
  subst hf
  have hb := below_more (Below.refl w.heap.size w) (.cells #[.int .i64 d.id, .int .i64 d.term, .int .i64 d.vote, .int .i64 d.role, .int .i64 d.lead, .slice co d.conf.length cc, .int .i64 d.start, .int .i64 d.sterm, .slice (some ⟨b, off, none⟩) d.ents.length ec, .int .i64 d.commit, .int .i64 d.clock, .int .i64 d.limit, .slice vo d.votes.length vc, .slice po d.peers.length pc] 35)
  have X0 : Hid (BlockIs (w.alloc (.cells #[.int .i64 d.id, .int .i64 d.term, .int .i64 d.vote, .int .i64 d.role, .int .i64 d.lead, .slice co d.conf.length cc, .int .i64 d.start, .int .i64 d.sterm, .slice (some ⟨b, off, none⟩) d.ents.length ec, .int .i64 d.commit, .int .i64 d.clock, .int .i64 d.limit, .slice vo d.votes.length vc, .slice po d.peers.length pc] 35)) w.heap.size 35 [.int .i64 d.id, .int .i64 d.term, .int .i64 d.vote, .int .i64 d.role, .int .i64 d.lead, .slice co d.conf.length cc, .int .i64 d.start, .int .i64 d.sterm, .slice (some ⟨b, off, none⟩) d.ents.length ec, .int .i64 d.commit, .int .i64 d.clock, .int .i64 d.limit, .slice vo d.votes.length vc, .slice po d.peers.length pc]) := heap_alloc_new w _
  obtain ⟨W, hW⟩ : ∃ W, w.alloc (.cells #[.int .i64 d.id, .int .i64 d.term, .int .i64 d.vote, .int .i64 d.role, .int .i64 d.lead, .slice co d.conf.length cc, .int .i64 d.start, .int .i64 d.sterm, .slice (some ⟨b, off, none⟩) d.ents.length ec, .int .i64 d.commit, .int .i64 d.clock, .int .i64 d.limit, .slice vo d.votes.length vc, .slice po d.peers.length pc] 35) = W := ⟨_, rfl⟩
  rw [hW] at hb X0
  have hs : w.heap.size ≤ W.heap.size := hb.size
  have c6 := X0.out.cell (j := 6) rfl
  have c8 := X0.out.cell (j := 8) rfl
  have hlt : ¬ x < d.start := by omega
  have w1 : IntKind.u64.wrap x = x := by rw [IntKind.wrap_u64]; omega
  have w2 : IntKind.u64.wrap d.start = d.start := by rw [IntKind.wrap_u64]; omega
  have w3 : IntKind.u64.wrap (x - d.start) = x - d.start := by rw [IntKind.wrap_u64]; omega
  have w4 : IntKind.u64.wrap (d.ents.length : Int) = (d.ents.length : Int) := by rw [IntKind.wrap_u64]; omega
  have hmi : min (x - d.start) (d.ents.length : Int) = (m : Int) := by omega
  have hml : (d.ents.take m).length = m := by rw [List.length_take]; omega
  have hmc : (m : Int) ≤ (ec : Int) := by omega
  have hmn : m ≤ ec := by omega
  have hbd : Below w.heap.size w W.drew := below_drewN hb 1
  have CB' := confBehind_any d ⟨co, cc, some ⟨b, off, none⟩, ec, vo, vc, po, pc⟩ (some ⟨b, off, none⟩) (d.ents.take m) ec hne hcl (by omega) W.drew (ha.on hbd) ((he.take m).on hbd)
  rw [hml] at CB'
  have CB := hid CB'
  have B := hid hb
  have c0 := X0.out.cell (j := 0) rfl
  have c1 := X0.out.cell (j := 1) rfl
  have c2 := X0.out.cell (j := 2) rfl
  have c3 := X0.out.cell (j := 3) rfl
  have c4 := X0.out.cell (j := 4) rfl
  have c5 := X0.out.cell (j := 5) rfl
  have c7 := X0.out.cell (j := 7) rfl
  have c9 := X0.out.cell (j := 9) rfl
  have c10 := X0.out.cell (j := 10) rfl
  have c11 := X0.out.cell (j := 11) rfl
  have c12 := X0.out.cell (j := 12) rfl
  have c13 := X0.out.cell (j := 13) rfl
  clear hb CB' hm ha he hbd
  go_enter Try.func25, Try.ntmps25
  go_wp2
  go_region_with (go_at_call 58; refine CB.out.mono ?_; rintro e w1 ⟨va, vc', rfl, ho, hb⟩)
  all_goals
    have O := hid (row_down ho hs)
    have B2 := hid (below_via (below_drewN B.out 1) hb)
    clear ho hb
    go_wp2
    go_ret
    exact ⟨va, vc', rfl, O.out, B2.out⟩
end Go.Proofs.Ytglibbpigmpanaa

namespace Go.Proofs.Ytglibbpigmpanaa
open Go.RowKit Go.Sort

set_option maxRecDepth 1000000 in
theorem idOkN_any (x : Int) (w : World) : Calls Try.prog 48 #[.int .i64 x] w fun e w' => e = .returned (.bool (within x 1 4)) ∧ w' = w := by
  unfold within
  go_enter Try.func48, Try.ntmps48
  go_wp2
  all_goals (go_ret; exact ⟨by simp; omega, rfl⟩)
set_option maxRecDepth 1000000 in
theorem limitOk_any (x : Int) (w : World) : Calls Try.prog 53 #[.int .i64 x] w fun e w' => e = .returned (.bool (within x 1 20)) ∧ w' = w := by
  unfold within
  go_enter Try.func53, Try.ntmps53
  go_wp2
  all_goals (go_ret; exact ⟨by simp; omega, rfl⟩)
set_option maxRecDepth 1000000 in
theorem idOrNobody_any (x : Int) (w : World) : Calls Try.prog 52 #[.int .i64 x] w fun e w' => e = .returned (.bool (within x 0 4)) ∧ w' = w := by
  by_cases h0 : x = 0
  · have hb : (x == 0) = true := by rw [beq_iff_eq]; exact h0
    have HR := hid (within_yes (x := x) (a := 0) (b := 4) (by omega) (by omega))
    go_enter Try.func52, Try.ntmps52
    go_wp2
    go_ret
    exact ⟨by rw [HR.out]; first | rfl | (simp [h0]), rfl⟩
  · have hb : (x == 0) = false := by rw [beq_eq_false_iff_ne]; exact h0
    have C' := fun w => idOkN_any x w
    have he : within x 1 4 = within x 0 4 := by rw [Bool.eq_iff_iff, within_iff, within_iff]; omega
    rw [he] at C'
    obtain ⟨q, hq⟩ : ∃ q, within x 0 4 = q := ⟨_, rfl⟩
    rw [hq] at C' ⊢
    have C := hid C'
    clear C' he hq
    go_enter Try.func52, Try.ntmps52
    go_wp2_with (go_at_call 48; refine (C.out _).mono ?_; rintro e w1 ⟨rfl, hw⟩; rw [hw]; clear hw w1)
    go_ret
    exact ⟨rfl, rfl⟩
set_option maxRecDepth 1000000 in
set_option maxHeartbeats 1000000 in
theorem peerOk_any (f : PeerD) (last : Int) (h0 : 0 ≤ last) (h1 : last ≤ 1000000) (w : World) : Calls Try.prog 78 #[.agg #[.int .i64 f.pid, .int .i64 f.next, .int .i64 f.upto, .int .i64 f.sent], .int .i64 last] w fun e w' => e = .returned (.bool (peerOk f last)) ∧ Below w.heap.size w w' := by
  have hx : BlockIs (w.alloc (.cells #[.int .i64 f.pid, .int .i64 f.next, .int .i64 f.upto, .int .i64 f.sent] 67)) w.heap.size 67 [.int .i64 f.pid, .int .i64 f.next, .int .i64 f.upto, .int .i64 f.sent] := heap_alloc_new w _
  have B := hid (below_more (Below.refl w.heap.size w) (.cells #[.int .i64 f.pid, .int .i64 f.next, .int .i64 f.upto, .int .i64 f.sent] 67))
  obtain ⟨W, hW⟩ : ∃ W, w.alloc (.cells #[.int .i64 f.pid, .int .i64 f.next, .int .i64 f.upto, .int .i64 f.sent] 67) = W := ⟨_, rfl⟩
  rw [hW] at hx B
  have c0 := hx.cell (j := 0) rfl
  have c1 := hx.cell (j := 1) rfl
  have c2 := hx.cell (j := 2) rfl
  have c3 := hx.cell (j := 3) rfl
  obtain ⟨q, hq⟩ : ∃ q, peerOk f last = q := ⟨_, rfl⟩
  have HQ := hid hq
  rw [hq]
  clear hx hq
  go_enter Try.func78, Try.ntmps78
  go_wp2
  all_goals go_ret
  all_goals refine ⟨congrArg (fun z => Ending.returned (.bool z)) ?_, B.out⟩
  all_goals rw [← HQ.out, Bool.eq_iff_iff]
  all_goals simp [peerOk, within]
  all_goals omega
end Go.Proofs.Ytglibbpigmpanaa
