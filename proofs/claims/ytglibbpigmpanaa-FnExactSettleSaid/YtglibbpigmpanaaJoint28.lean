/-
  The walk of impl.copiedNode: a node is copied, its rows in memory of the call's own.
-/
import Derived.Test.YtglibbpigmpanaaJoint1
import Derived.Test.YtglibbpigmpanaaJoint25
import Derived.Test.YtglibbpigmpanaaJoint27
namespace Go.Proofs
open Go.RowKit Go.Shelf
shelf_lay_g SlLaysE0.n41 Slgn 41 at Try 57 as Try.clonePr
end Go.Proofs
namespace Go.Proofs.Ytglibbpigmpanaa
open Go.RowKit Go.Sort

theorem row_of_blockN {w : World} {g base size n : Nat} {t : TypeId} {xs : List Value} (h : BlockIs w g t xs) (hx : xs.length = n * size) (hn : n ≤ maxLen) (hb : base ≤ g) : w.ownsRow base t size (.slice (some ⟨g, 0, none⟩) n n) n xs :=
  ⟨hx, Or.inr ⟨g, n, xs.toArray, rfl, hb, h, Nat.le_refl _, hn, by simp [hx], by rw [← hx]; simp⟩⟩
theorem cloneIntsF_any (ao : Option Addr) (ac : Nat) (zs : List Int) (hf : RowS ao) (hl : zs.length ≤ 1048576) (w : World) (h : IntsAt w ao zs) :
    Calls Try.prog 55 #[.slice ao zs.length ac] w fun e w' => ∃ va vc, e = .returned (.slice va zs.length vc) ∧ w'.ownsRow w.heap.size 3 1 (.slice va zs.length vc) zs.length (intCells zs) ∧ Below w.heap.size w w' := by
  obtain ⟨i0, hi, hz0, hz1, hz2⟩ := info_parts int_info
  obtain ⟨b, off, rfl⟩ := hf
  have C := AnyE.slices_Clone Try.cloneN i0 _ 1 8 hi hz0 hz1 hz2 rfl (by decide) Try.sizeOf3 b off zs.length ac (intCells zs) w (by simp [intCells]) (by unfold maxLen; omega) (by omega) (fun j u hu => by
    rw [intCells, List.getElem?_map, Option.map_eq_some_iff] at hu
    obtain ⟨z, hz, rfl⟩ := hu
    obtain ⟨hj, rfl⟩ := List.getElem?_eq_some_iff.1 hz
    obtain ⟨b', off', e1, hc⟩ := h (by intro q; rw [q] at hj; simp at hj)
    cases e1
    exact hc j hj) (by intro u hu; rw [intCells, List.mem_map] at hu; obtain ⟨z, _, rfl⟩ := hu; rfl)
  refine Calls.mono C ?_
  rintro e w' ⟨v', rfl, hr, _, hb'⟩
  obtain ⟨va, vc, rfl⟩ := row_shape hr
  exact ⟨va, vc, rfl, hr, hb'⟩
theorem clonePeersF_any (ao : Option Addr) (ac : Nat) (l : List PeerD) (hf : RowS ao) (hl : l.length ≤ 1048576) (w : World) (h : PeersAt w ao l) :
    Calls Try.prog 57 #[.slice ao l.length ac] w fun e w' => ∃ va vc, e = .returned (.slice va l.length vc) ∧ w'.ownsRow w.heap.size 67 4 (.slice va l.length vc) l.length (peerCells l) ∧ Below w.heap.size w w' := by
  obtain ⟨i0, hi, hz0, hz1, hz2⟩ := info_parts toPeer_info
  obtain ⟨b, off, rfl⟩ := hf
  have C := AnyE.slices_Clone Try.clonePr i0 _ 4 32 hi hz0 hz1 hz2 rfl (by decide) Try.sizeOf67 b off l.length ac (peerCells l) w (peerCells_length l) (by unfold maxLen; omega) (by omega) (fun j u hu => by
    have hne : l ≠ [] := by intro q; rw [q] at hu; simp [peerCells] at hu
    obtain ⟨b', off', e1, hc⟩ := h hne
    cases e1
    have := peers_cells hc j u hu
    rwa [Addr.add_lit] at this) (peerR_all l)
  refine Calls.mono C ?_
  rintro e w' ⟨v', rfl, hr, _, hb'⟩
  obtain ⟨va, vc, rfl⟩ := row_shape hr
  exact ⟨va, vc, rfl, hr, hb'⟩
set_option maxRecDepth 1000000 in
set_option maxHeartbeats 2000000 in
theorem copiedNode_any (d : NodeD) (p : NodeL) (hs : d.Small) (hf : NodeLies p) (w : World) (ha : NodeAt w d p) :
    Calls Try.prog 24 #[.agg #[.int .i64 d.id, .int .i64 d.term, .int .i64 d.vote, .int .i64 d.role, .int .i64 d.lead, .slice p.co d.conf.length p.cc, .int .i64 d.start, .int .i64 d.sterm, .slice p.eo d.ents.length p.ec, .int .i64 d.commit, .int .i64 d.clock, .int .i64 d.limit, .slice p.vo d.votes.length p.vc, .slice p.po d.peers.length p.pc]] w fun e w' => ∃ q : NodeL, e = .returned (.agg #[.int .i64 d.id, .int .i64 d.term, .int .i64 d.vote, .int .i64 d.role, .int .i64 d.lead, .slice q.co d.conf.length q.cc, .int .i64 d.start, .int .i64 d.sterm, .slice q.eo d.ents.length q.ec, .int .i64 d.commit, .int .i64 d.clock, .int .i64 d.limit, .slice q.vo d.votes.length q.vc, .slice q.po d.peers.length q.pc]) ∧ NodeRows w' w.heap.size d q ∧ Below w.heap.size w w' := by
  obtain ⟨hs1, hs2, hs3, hs4, hs5⟩ := hs
  have hb1 := below_more (Below.refl w.heap.size w) (.cells #[.int .i64 d.id, .int .i64 d.term, .int .i64 d.vote, .int .i64 d.role, .int .i64 d.lead, .slice p.co d.conf.length p.cc, .int .i64 d.start, .int .i64 d.sterm, .slice p.eo d.ents.length p.ec, .int .i64 d.commit, .int .i64 d.clock, .int .i64 d.limit, .slice p.vo d.votes.length p.vc, .slice p.po d.peers.length p.pc] 35)
  have x0 : BlockIs (w.alloc (.cells #[.int .i64 d.id, .int .i64 d.term, .int .i64 d.vote, .int .i64 d.role, .int .i64 d.lead, .slice p.co d.conf.length p.cc, .int .i64 d.start, .int .i64 d.sterm, .slice p.eo d.ents.length p.ec, .int .i64 d.commit, .int .i64 d.clock, .int .i64 d.limit, .slice p.vo d.votes.length p.vc, .slice p.po d.peers.length p.pc] 35)) w.heap.size 35 [.int .i64 d.id, .int .i64 d.term, .int .i64 d.vote, .int .i64 d.role, .int .i64 d.lead, .slice p.co d.conf.length p.cc, .int .i64 d.start, .int .i64 d.sterm, .slice p.eo d.ents.length p.ec, .int .i64 d.commit, .int .i64 d.clock, .int .i64 d.limit, .slice p.vo d.votes.length p.vc, .slice p.po d.peers.length p.pc] := heap_alloc_new w _
  obtain ⟨W, hW⟩ : ∃ W, w.alloc (.cells #[.int .i64 d.id, .int .i64 d.term, .int .i64 d.vote, .int .i64 d.role, .int .i64 d.lead, .slice p.co d.conf.length p.cc, .int .i64 d.start, .int .i64 d.sterm, .slice p.eo d.ents.length p.ec, .int .i64 d.commit, .int .i64 d.clock, .int .i64 d.limit, .slice p.vo d.votes.length p.vc, .slice p.po d.peers.length p.pc] 35) = W := ⟨_, rfl⟩
  rw [hW] at hb1 x0
  have hb2 := below_more (Below.refl W.heap.size W) (.cells #[.int .i64 0, .int .i64 0, .int .i64 0, .int .i64 0, .int .i64 0, .slice none 0 0, .int .i64 0, .int .i64 0, .slice none 0 0, .int .i64 0, .int .i64 0, .int .i64 0, .slice none 0 0, .slice none 0 0] 35)
  have r0 : BlockIs (W.alloc (.cells #[.int .i64 0, .int .i64 0, .int .i64 0, .int .i64 0, .int .i64 0, .slice none 0 0, .int .i64 0, .int .i64 0, .slice none 0 0, .int .i64 0, .int .i64 0, .int .i64 0, .slice none 0 0, .slice none 0 0] 35)) W.heap.size 35 [.int .i64 0, .int .i64 0, .int .i64 0, .int .i64 0, .int .i64 0, .slice none 0 0, .int .i64 0, .int .i64 0, .slice none 0 0, .int .i64 0, .int .i64 0, .int .i64 0, .slice none 0 0, .slice none 0 0] := heap_alloc_new W _
  have hlt : w.heap.size < W.heap.size := x0.lt
  obtain ⟨V0, hV0⟩ : ∃ V, W.alloc (.cells #[.int .i64 0, .int .i64 0, .int .i64 0, .int .i64 0, .int .i64 0, .slice none 0 0, .int .i64 0, .int .i64 0, .slice none 0 0, .int .i64 0, .int .i64 0, .int .i64 0, .slice none 0 0, .slice none 0 0] 35) = V := ⟨_, rfl⟩
  rw [hV0] at hb2 r0
  have X0 := hid (x0.on hb2 x0.lt)
  have R0 := hid r0
  have B0 := hid (below_via hb1 hb2)
  have HA := hid ha
  have c5 := X0.out.cell (j := 5) rfl
  clear ha hb1 hb2 x0 r0
  have C5 := hid (fun w h => cloneIntsF_any p.co p.cc d.conf hf.conf hs1 w h)
  have C8 := hid (fun w h => copiedEntries_any p.eo d.ents p.ec hs2 hs3 w h)
  have C12 := hid (fun w h => cloneIntsF_any p.vo p.vc d.votes hf.votes hs4 w h)
  have C13 := hid (fun w h => clonePeersF_any p.po p.pc d.peers hf.peers hs5 w h)
  go_enter Try.func24, Try.ntmps24
  go_wp2_with fail
  refine (C5.out _ (HA.out.conf.on B0.out)).mono ?_
  rintro e w5 ⟨ca, cb, rfl, ho', hb⟩
  have ho : w5.ownsRow w.heap.size 3 1 (.slice ca d.conf.length cb) d.conf.length (intCells d.conf) := row_down ho' B0.out.size
  clear ho'
  have X1 := X0.out.on hb X0.out.lt
  have R1 := R0.out.on hb R0.out.lt
  have B1 := below_via B0.out hb
  clear hb C5
  have f5 := X1.thaw 5
  have k5 := X1.cell (j := 5) rfl
  have X5 := hid (X1.set 5 (.slice ca d.conf.length cb))
  have R5 := hid (R1.far (b := w.heap.size) (j := 5) (by omega) (.slice ca d.conf.length cb))
  have B5 := hid (B1.setCell (p := ⟨w.heap.size, 5, none⟩) (Nat.le_refl _) (.slice ca d.conf.length cb))
  have O5_5 := hid (row_ext ho fun g cs h9 => h9.far (by intro q; rw [← q] at h9; exact absurd (block_one h9 X1).1 (by decide)) (.slice ca d.conf.length cb) (b := w.heap.size) (j := 5))
  obtain ⟨V5, hV5⟩ : ∃ V, w5.setCell ⟨w.heap.size, 5, none⟩ (.slice ca d.conf.length cb) = V := ⟨_, rfl⟩
  rw [hV5] at X5 R5 B5 O5_5
  have c8 := X5.out.cell (j := 8) rfl
  clear X1 R1 B1 ho c5 X0 R0 B0 
  go_wp2_with fail
  refine (C8.out _ (HA.out.ents.on B5.out)).mono ?_
  rintro e w8 ⟨rfl, hbl, hb⟩
  obtain ⟨ea, hea⟩ : ∃ x : Option Addr, some ⟨V5.heap.size, 0, none⟩ = x := ⟨_, rfl⟩
  have ho : w8.ownsRow w.heap.size 69 3 (.slice ea d.ents.length d.ents.length) d.ents.length (entCells d.ents) := by rw [← hea]; exact row_of_blockN hbl (entCells_length _) (by unfold maxLen; omega) B5.out.size
  rw [hea]
  clear hea hbl
  have X1 := X5.out.on hb X5.out.lt
  have R1 := R5.out.on hb R5.out.lt
  have B1 := below_via B5.out hb
  have O5_1 := row_ext O5_5.out fun g cs h9 => h9.on hb h9.lt
  clear hb C8
  have f8 := X1.thaw 8
  have k8 := X1.cell (j := 8) rfl
  have X8 := hid (X1.set 8 (.slice ea d.ents.length d.ents.length))
  have R8 := hid (R1.far (b := w.heap.size) (j := 8) (by omega) (.slice ea d.ents.length d.ents.length))
  have B8 := hid (B1.setCell (p := ⟨w.heap.size, 8, none⟩) (Nat.le_refl _) (.slice ea d.ents.length d.ents.length))
  have O5_8 := hid (row_ext O5_1 fun g cs h9 => h9.far (by intro q; rw [← q] at h9; exact absurd (block_one h9 X1).1 (by decide)) (.slice ea d.ents.length d.ents.length) (b := w.heap.size) (j := 8))
  have O8_8 := hid (row_ext ho fun g cs h9 => h9.far (by intro q; rw [← q] at h9; exact absurd (block_one h9 X1).1 (by decide)) (.slice ea d.ents.length d.ents.length) (b := w.heap.size) (j := 8))
  obtain ⟨V8, hV8⟩ : ∃ V, w8.setCell ⟨w.heap.size, 8, none⟩ (.slice ea d.ents.length d.ents.length) = V := ⟨_, rfl⟩
  rw [hV8] at X8 R8 B8 O5_8 O8_8
  have c12 := X8.out.cell (j := 12) rfl
  clear X1 R1 B1 ho c8 X5 R5 B5 O5_1 O5_5
  go_wp2_with fail
  refine (C12.out _ (HA.out.votes.on B8.out)).mono ?_
  rintro e w12 ⟨va, vb, rfl, ho', hb⟩
  have ho : w12.ownsRow w.heap.size 3 1 (.slice va d.votes.length vb) d.votes.length (intCells d.votes) := row_down ho' B8.out.size
  have AP : Hid (∀ g, (Value.slice ca d.conf.length cb).ownBlock = some g → (Value.slice va d.votes.length vb).ownBlock ≠ some g) := fun g h1 h2 => by obtain ⟨_, h3, _⟩ := row_block O5_8.out h1; have h4 := h3.lt; obtain ⟨_, _, h5⟩ := row_block ho' h2; omega
  clear ho'
  have X1 := X8.out.on hb X8.out.lt
  have R1 := R8.out.on hb R8.out.lt
  have B1 := below_via B8.out hb
  have O5_1 := row_ext O5_8.out fun g cs h9 => h9.on hb h9.lt
  have O8_1 := row_ext O8_8.out fun g cs h9 => h9.on hb h9.lt
  clear hb C12
  have f12 := X1.thaw 12
  have k12 := X1.cell (j := 12) rfl
  have X12 := hid (X1.set 12 (.slice va d.votes.length vb))
  have R12 := hid (R1.far (b := w.heap.size) (j := 12) (by omega) (.slice va d.votes.length vb))
  have B12 := hid (B1.setCell (p := ⟨w.heap.size, 12, none⟩) (Nat.le_refl _) (.slice va d.votes.length vb))
  have O5_12 := hid (row_ext O5_1 fun g cs h9 => h9.far (by intro q; rw [← q] at h9; exact absurd (block_one h9 X1).1 (by decide)) (.slice va d.votes.length vb) (b := w.heap.size) (j := 12))
  have O8_12 := hid (row_ext O8_1 fun g cs h9 => h9.far (by intro q; rw [← q] at h9; exact absurd (block_one h9 X1).1 (by decide)) (.slice va d.votes.length vb) (b := w.heap.size) (j := 12))
  have O12_12 := hid (row_ext ho fun g cs h9 => h9.far (by intro q; rw [← q] at h9; exact absurd (block_one h9 X1).1 (by decide)) (.slice va d.votes.length vb) (b := w.heap.size) (j := 12))
  obtain ⟨V12, hV12⟩ : ∃ V, w12.setCell ⟨w.heap.size, 12, none⟩ (.slice va d.votes.length vb) = V := ⟨_, rfl⟩
  rw [hV12] at X12 R12 B12 O5_12 O8_12 O12_12
  have c13 := X12.out.cell (j := 13) rfl
  clear X1 R1 B1 ho c12 X8 R8 B8 O5_1 O5_8 O8_1 O8_8
  go_wp2_with fail
  refine (C13.out _ (HA.out.peers.on B12.out)).mono ?_
  rintro e w13 ⟨pa, pb, rfl, ho', hb⟩
  have ho : w13.ownsRow w.heap.size 67 4 (.slice pa d.peers.length pb) d.peers.length (peerCells d.peers) := row_down ho' B12.out.size
  clear ho'
  have X1 := X12.out.on hb X12.out.lt
  have R1 := R12.out.on hb R12.out.lt
  have B1 := below_via B12.out hb
  have O5_1 := row_ext O5_12.out fun g cs h9 => h9.on hb h9.lt
  have O8_1 := row_ext O8_12.out fun g cs h9 => h9.on hb h9.lt
  have O12_1 := row_ext O12_12.out fun g cs h9 => h9.on hb h9.lt
  clear hb C13
  have f13 := X1.thaw 13
  have k13 := X1.cell (j := 13) rfl
  have X13 := hid (X1.set 13 (.slice pa d.peers.length pb))
  have R13 := hid (R1.far (b := w.heap.size) (j := 13) (by omega) (.slice pa d.peers.length pb))
  have B13 := hid (B1.setCell (p := ⟨w.heap.size, 13, none⟩) (Nat.le_refl _) (.slice pa d.peers.length pb))
  have O5_13 := hid (row_ext O5_1 fun g cs h9 => h9.far (by intro q; rw [← q] at h9; exact absurd (block_one h9 X1).1 (by decide)) (.slice pa d.peers.length pb) (b := w.heap.size) (j := 13))
  have O8_13 := hid (row_ext O8_1 fun g cs h9 => h9.far (by intro q; rw [← q] at h9; exact absurd (block_one h9 X1).1 (by decide)) (.slice pa d.peers.length pb) (b := w.heap.size) (j := 13))
  have O12_13 := hid (row_ext O12_1 fun g cs h9 => h9.far (by intro q; rw [← q] at h9; exact absurd (block_one h9 X1).1 (by decide)) (.slice pa d.peers.length pb) (b := w.heap.size) (j := 13))
  have O13_13 := hid (row_ext ho fun g cs h9 => h9.far (by intro q; rw [← q] at h9; exact absurd (block_one h9 X1).1 (by decide)) (.slice pa d.peers.length pb) (b := w.heap.size) (j := 13))
  obtain ⟨V13, hV13⟩ : ∃ V, w13.setCell ⟨w.heap.size, 13, none⟩ (.slice pa d.peers.length pb) = V := ⟨_, rfl⟩
  rw [hV13] at X13 R13 B13 O5_13 O8_13 O12_13 O13_13
  clear X1 R1 B1 ho c13 X12 R12 B12 O5_1 O5_12 O8_1 O8_12 O12_1 O12_12
  have XL : Hid (BlockIs V13 w.heap.size 35 [.int .i64 d.id, .int .i64 d.term, .int .i64 d.vote, .int .i64 d.role, .int .i64 d.lead, .slice ca d.conf.length cb, .int .i64 d.start, .int .i64 d.sterm, .slice ea d.ents.length d.ents.length, .int .i64 d.commit, .int .i64 d.clock, .int .i64 d.limit, .slice va d.votes.length vb, .slice pa d.peers.length pb]) := X13.out
  clear X13
  obtain ⟨VL, hVL⟩ : ∃ V, V13.setRow W.heap.size #[.int .i64 d.id, .int .i64 d.term, .int .i64 d.vote, .int .i64 d.role, .int .i64 d.lead, .slice ca d.conf.length cb, .int .i64 d.start, .int .i64 d.sterm, .slice ea d.ents.length d.ents.length, .int .i64 d.commit, .int .i64 d.clock, .int .i64 d.limit, .slice va d.votes.length vb, .slice pa d.peers.length pb] = V := ⟨_, rfl⟩
  have KL : BlockIs VL W.heap.size 35 [.int .i64 d.id, .int .i64 d.term, .int .i64 d.vote, .int .i64 d.role, .int .i64 d.lead, .slice ca d.conf.length cb, .int .i64 d.start, .int .i64 d.sterm, .slice ea d.ents.length d.ents.length, .int .i64 d.commit, .int .i64 d.clock, .int .i64 d.limit, .slice va d.votes.length vb, .slice pa d.peers.length pb] := by rw [← hVL]; exact whole_block R13.out _
  have BL : Hid (Below w.heap.size w VL) := by rw [← hVL]; exact below_setRow B13.out (by omega) _
  have NR : Hid (NodeRows VL w.heap.size d ⟨ca, cb, ea, d.ents.length, va, vb, pa, pb⟩) := by
    rw [← hVL]
    exact ⟨row_ext O5_13.out fun g cs h9 => whole_other h9 (by intro q; rw [← q] at h9; exact absurd (block_one h9 R13.out).1 (by decide)) _, row_ext O8_13.out fun g cs h9 => whole_other h9 (by intro q; rw [← q] at h9; exact absurd (block_one h9 R13.out).1 (by decide)) _, row_ext O12_13.out fun g cs h9 => whole_other h9 (by intro q; rw [← q] at h9; exact absurd (block_one h9 R13.out).1 (by decide)) _, row_ext O13_13.out fun g cs h9 => whole_other h9 (by intro q; rw [← q] at h9; exact absurd (block_one h9 R13.out).1 (by decide)) _, AP.out⟩
  have r0 := KL.cell (j := 0) rfl
  have r1 := KL.cell (j := 1) rfl
  have r2 := KL.cell (j := 2) rfl
  have r3 := KL.cell (j := 3) rfl
  have r4 := KL.cell (j := 4) rfl
  have r5 := KL.cell (j := 5) rfl
  have r6 := KL.cell (j := 6) rfl
  have r7 := KL.cell (j := 7) rfl
  have r8 := KL.cell (j := 8) rfl
  have r9 := KL.cell (j := 9) rfl
  have r10 := KL.cell (j := 10) rfl
  have r11 := KL.cell (j := 11) rfl
  have r12 := KL.cell (j := 12) rfl
  have r13 := KL.cell (j := 13) rfl
  clear KL
  go_wp2_with (first | (refine wpList_load_whole Try.underlying35 node_size XL.out rfl rfl _ rfl rfl ?_) | (refine wpList_store_whole node_size R13.out rfl rfl _ _ rfl _ rfl rfl rfl (by simp [Value.oneCell']) ?_; rw [hVL]) | fail)
  refine bodyPost_ret (v := .agg #[.int .i64 d.id, .int .i64 d.term, .int .i64 d.vote, .int .i64 d.role, .int .i64 d.lead, .slice ca d.conf.length cb, .int .i64 d.start, .int .i64 d.sterm, .slice ea d.ents.length d.ents.length, .int .i64 d.commit, .int .i64 d.clock, .int .i64 d.limit, .slice va d.votes.length vb, .slice pa d.peers.length pb]) (by simp [results, Try.results24, go_sem, r0, r1, r2, r3, r4, r5, r6, r7, r8, r9, r10, r11, r12, r13]) rfl ⟨⟨ca, cb, ea, d.ents.length, va, vb, pa, pb⟩, rfl, NR.out, BL.out⟩
end Go.Proofs.Ytglibbpigmpanaa
