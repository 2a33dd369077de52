/-
  The walk of spec.l18Copy: a node is copied, its rows in memory of the call's own.
  The walk of spec.EntryOk: what it answers.
  The walk of spec.l18Others: those of a conf but one.
-/
import Derived.Test.YtglibbpigmpanaaJoint1
import Derived.Test.YtglibbpigmpanaaJoint18
import Derived.Deep.Cut
import Derived.Deep.DeepCutAuto
import Derived.Test.YtglibbpigmpanaaJoint17
import Derived.Deep.LoopGhost
namespace Go.Proofs.Ytglibbpigmpanaa
open Go.RowKit Go.Sort

theorem ints_from {w : World} {ao : Option Addr} {b off : Nat} {zs : List Int} (h : IntsAt w ao zs) (e : ao = some ⟨b, off, none⟩) : ∀ j (hj : j < zs.length), w.cell? ⟨b, off + j, none⟩ = some (.int .i64 zs[j]) := by
  intro j hj
  obtain ⟨b', off', e1, hc⟩ := h (by intro q; rw [q] at hj; simp at hj)
  rw [e] at e1
  cases e1
  exact hc j hj
theorem grown_apart {w w' : World} {j g : Nat} {t t' : TypeId} {cs xs : List Value} (hb : BlockIs w j t cs) (hx : BlockIs w g t' xs) (hg : w.grownBy w' (some g)) (ht : t ≠ t') : BlockIs w' j t cs := by
  have hlt := hb.lt
  have hne : j ≠ g := by
    intro q
    subst q
    exact ht (block_one hb hx).1
  unfold BlockIs at hb ⊢
  rw [hg.block j hlt (by simpa using hne)]
  exact hb
theorem row_apartN {w w' : World} {base size n : Nat} {t : TypeId} {v u : Value} {xs : List Value} (h : w.ownsRow base t size v n xs) (hg : w.grownBy w' u.ownBlock) (ha : ∀ g, v.ownBlock = some g → u.ownBlock ≠ some g) : w'.ownsRow base t size v n xs := by
  refine ⟨h.1, h.2.imp id ?_⟩
  rintro ⟨g, cap, cur, a, b, c, r⟩
  have hv : v.ownBlock = some g := by rw [a]; rfl
  have hlt : g < w.heap.size := by
    rcases Nat.lt_or_ge g w.heap.size with h' | h'
    · exact h'
    · rw [Array.getElem?_eq_none h'] at c; cases c
  have := hg.block g hlt (fun e => ha g hv e.symm)
  exact ⟨g, cap, cur, a, b, by rw [this]; exact c, r⟩
theorem wpList_append_entsN {w : World} {ops : Array Oper} {rest : List Oper} {o : Oper} {a : Act} {Q : Exit → Act → World → Prop} (hgd : o.guard = none) (s x : Operand)
    (ho : o.op = .call { callee := .builtin .append, args := #[s, x], argTypes := #[30, 30] }) (hty : o.type = 30) {g0 c : Nat} {vo : Option Addr} {L : List EntD} (hs : a.eval s = .slice (some ⟨g0, 0, none⟩) 0 0) (hx : a.eval x = .slice vo L.length c)
    (h0 : BlockIs w g0 69 []) (hL : L.length ≤ 1048577) (hE : EntsAt w vo L)
    (h : ∀ va vc w1, w1.ownsRow g0 69 3 (.slice va L.length vc) L.length (entCells L) → w.grownBy w1 (some g0) → wpList Try.prog ops Q rest (a.put o.dst (.slice va L.length vc)) w1) : wpList Try.prog ops Q (o :: rest) a w := by
  obtain ⟨v', W', hrun, h2, h3⟩ := append_ents h0 (c := c) hL hE
  obtain ⟨va, vc, rfl⟩ := row_shape h2
  refine wpList_plain hgd fun K hK => ?_
  unfold Oper.wp
  simp [execOp, ho, hty, resolve, invoke, builtin, hs, hx, hrun, Result.andThen]
  exact hK _ _ (h va vc W' h2 h3)
set_option maxRecDepth 1000000 in
set_option maxHeartbeats 2000000 in
theorem l18Copy_any (d : NodeD) (p : NodeL) (hs : d.Small) (hf : NodeLies p) (w : World) (ha : NodeAt w d p) :
    Calls Try.prog 16 #[.agg #[.int .i64 d.id, .int .i64 d.term, .int .i64 d.vote, .int .i64 d.role, .int .i64 d.lead, .slice p.co d.conf.length p.cc, .int .i64 d.start, .int .i64 d.sterm, .slice p.eo d.ents.length p.ec, .int .i64 d.commit, .int .i64 d.clock, .int .i64 d.limit, .slice p.vo d.votes.length p.vc, .slice p.po d.peers.length p.pc]] w fun e w' => ∃ q : NodeL, e = .returned (.agg #[.int .i64 d.id, .int .i64 d.term, .int .i64 d.vote, .int .i64 d.role, .int .i64 d.lead, .slice q.co d.conf.length q.cc, .int .i64 d.start, .int .i64 d.sterm, .slice q.eo d.ents.length q.ec, .int .i64 d.commit, .int .i64 d.clock, .int .i64 d.limit, .slice q.vo d.votes.length q.vc, .slice q.po d.peers.length q.pc]) ∧ NodeRows w' w.heap.size d q ∧ Below w.heap.size w w' := by
  obtain ⟨co, cc, eo, ec, vo, vc, po, pc⟩ := p
  obtain ⟨⟨cb0, co0, hco⟩, _, ⟨vb0, vo0, hvo⟩, _⟩ := hf
  dsimp only at hco hvo
  subst hco hvo
  dsimp only
  obtain ⟨hs1, hs2, hs3, hs4, hs5⟩ := hs
  have hb1 := below_more (Below.refl w.heap.size w) (.cells #[.int .i64 d.id, .int .i64 d.term, .int .i64 d.vote, .int .i64 d.role, .int .i64 d.lead, .slice (some ⟨cb0, co0, none⟩) d.conf.length cc, .int .i64 d.start, .int .i64 d.sterm, .slice eo d.ents.length ec, .int .i64 d.commit, .int .i64 d.clock, .int .i64 d.limit, .slice (some ⟨vb0, vo0, none⟩) d.votes.length vc, .slice po d.peers.length pc] 35)
  have x0 : BlockIs (w.alloc (.cells #[.int .i64 d.id, .int .i64 d.term, .int .i64 d.vote, .int .i64 d.role, .int .i64 d.lead, .slice (some ⟨cb0, co0, none⟩) d.conf.length cc, .int .i64 d.start, .int .i64 d.sterm, .slice eo d.ents.length ec, .int .i64 d.commit, .int .i64 d.clock, .int .i64 d.limit, .slice (some ⟨vb0, vo0, none⟩) d.votes.length vc, .slice po d.peers.length pc] 35)) w.heap.size 35 [.int .i64 d.id, .int .i64 d.term, .int .i64 d.vote, .int .i64 d.role, .int .i64 d.lead, .slice (some ⟨cb0, co0, none⟩) d.conf.length cc, .int .i64 d.start, .int .i64 d.sterm, .slice eo d.ents.length ec, .int .i64 d.commit, .int .i64 d.clock, .int .i64 d.limit, .slice (some ⟨vb0, vo0, none⟩) d.votes.length vc, .slice po d.peers.length pc] := heap_alloc_new w _
  obtain ⟨W, hW⟩ : ∃ W, w.alloc (.cells #[.int .i64 d.id, .int .i64 d.term, .int .i64 d.vote, .int .i64 d.role, .int .i64 d.lead, .slice (some ⟨cb0, co0, none⟩) d.conf.length cc, .int .i64 d.start, .int .i64 d.sterm, .slice eo d.ents.length ec, .int .i64 d.commit, .int .i64 d.clock, .int .i64 d.limit, .slice (some ⟨vb0, vo0, none⟩) d.votes.length vc, .slice po d.peers.length pc] 35) = W := ⟨_, rfl⟩
  rw [hW] at hb1 x0
  have hb2 := below_more (Below.refl W.heap.size W) (.cells #[.int .i64 0, .int .i64 0, .int .i64 0, .int .i64 0, .int .i64 0, .slice none 0 0, .int .i64 0, .int .i64 0, .slice none 0 0, .int .i64 0, .int .i64 0, .int .i64 0, .slice none 0 0, .slice none 0 0] 35)
  have r0 : BlockIs (W.alloc (.cells #[.int .i64 0, .int .i64 0, .int .i64 0, .int .i64 0, .int .i64 0, .slice none 0 0, .int .i64 0, .int .i64 0, .slice none 0 0, .int .i64 0, .int .i64 0, .int .i64 0, .slice none 0 0, .slice none 0 0] 35)) W.heap.size 35 [.int .i64 0, .int .i64 0, .int .i64 0, .int .i64 0, .int .i64 0, .slice none 0 0, .int .i64 0, .int .i64 0, .slice none 0 0, .int .i64 0, .int .i64 0, .int .i64 0, .slice none 0 0, .slice none 0 0] := heap_alloc_new W _
  have hlt : w.heap.size < W.heap.size := x0.lt
  obtain ⟨V0, hV0⟩ : ∃ V, W.alloc (.cells #[.int .i64 0, .int .i64 0, .int .i64 0, .int .i64 0, .int .i64 0, .slice none 0 0, .int .i64 0, .int .i64 0, .slice none 0 0, .int .i64 0, .int .i64 0, .int .i64 0, .slice none 0 0, .slice none 0 0] 35) = V := ⟨_, rfl⟩
  rw [hV0] at hb2 r0
  have X0 := hid (x0.on hb2 x0.lt)
  have R0 := hid r0
  have B0 := hid (below_via hb1 hb2)
  have HA := hid ha
  clear ha hb1 hb2 x0 r0
  have hbn := below_more (Below.refl V0.heap.size V0) (.cells #[] 3)
  have g0 : (V0.alloc (.cells #[] 3)).heap[V0.heap.size]? = some (.cells #[] 3) := heap_alloc_new V0 _
  have hgs5 : w.heap.size ≤ V0.heap.size := B0.out.size
  obtain ⟨U5, hU5⟩ : ∃ V, V0.alloc (.cells #[] 3) = V := ⟨_, rfl⟩
  rw [hU5] at hbn g0
  have X_5 := hid (X0.out.on hbn X0.out.lt)
  have R_5 := hid (R0.out.on hbn R0.out.lt)
  have B_5 := hid (below_via B0.out hbn)
  have N5 : Hid (U5.ownsRow w.heap.size 3 1 (.slice (some ⟨V0.heap.size, 0, none⟩) 0 0) 0 (intCells [])) := no_ints g0 hgs5
  have HC5 := hid (ints_from (HA.out.conf.on B_5.out) rfl)
  have gz5 : V0.heap.size < U5.heap.size := BlockIs.lt (show BlockIs U5 _ 3 [] from g0)
  have hss5 : w.heap.size ≤ U5.heap.size := B_5.out.size
  have c5 := X_5.out.cell (j := 5) rfl
  clear hbn g0 X0 R0 B0
  go_enter Try.func16, Try.ntmps16
  go_upto_region 2 with (first | (at_builtin; refine wpList_append_ints rfl (.tmp 3) (.tmp 5) rfl rfl (base := w.heap.size) (L := []) (zs := d.conf) rfl rfl rfl (by simp; omega) hss5 N5.out HC5.out ?_; intro ca cb w5 hro hgr; have X1 := row_grownN X_5.out N5.out hgr (by decide); have f5 := X1.thaw 5; have k5 := X1.cell (j := 5) rfl) | fail)
  have R1 := row_grownN R_5.out N5.out hgr (by decide)
  have B1 := B_5.out.grown hgr B_5.out.size (fun g q => by obtain ⟨_, _, hb⟩ := row_block N5.out q; omega)
  have ho : w5.ownsRow w.heap.size 3 1 (.slice ca d.conf.length cb) d.conf.length (intCells d.conf) := hro
  have X5 := hid (X1.set 5 (.slice ca d.conf.length cb))
  have R5 := hid (R1.far (b := w.heap.size) (j := 5) (by omega) (.slice ca d.conf.length cb))
  have B5 := hid (B1.setCell (p := ⟨w.heap.size, 5, none⟩) (Nat.le_refl _) (.slice ca d.conf.length cb))
  have O5_5 := hid (row_ext ho fun g cs h9 => h9.far (by intro q; rw [← q] at h9; exact absurd (block_one h9 X1).1 (by decide)) (.slice ca d.conf.length cb) (b := w.heap.size) (j := 5))
  obtain ⟨V5, hV5⟩ : ∃ V, w5.setCell ⟨w.heap.size, 5, none⟩ (.slice ca d.conf.length cb) = V := ⟨_, rfl⟩
  rw [hV5] at X5 R5 B5 O5_5
  clear X1 R1 B1 ho hro hgr c5 N5 HC5 X_5 R_5 B_5 
  have hbn := below_more (Below.refl V5.heap.size V5) (.cells #[] 69)
  have g0 : (V5.alloc (.cells #[] 69)).heap[V5.heap.size]? = some (.cells #[] 69) := heap_alloc_new V5 _
  have hgs8 : w.heap.size ≤ V5.heap.size := B5.out.size
  obtain ⟨U8, hU8⟩ : ∃ V, V5.alloc (.cells #[] 69) = V := ⟨_, rfl⟩
  rw [hU8] at hbn g0
  have X_8 := hid (X5.out.on hbn X5.out.lt)
  have R_8 := hid (R5.out.on hbn R5.out.lt)
  have B_8 := hid (below_via B5.out hbn)
  have O5_108 := hid (row_ext O5_5.out fun g cs h9 => h9.on hbn h9.lt)
  have N8 : Hid (BlockIs U8 V5.heap.size 69 []) := g0
  have HC8 := hid (HA.out.ents.on B_8.out)
  have gz8 : V5.heap.size < U8.heap.size := BlockIs.lt (show BlockIs U8 _ 69 [] from g0)
  have hss8 : w.heap.size ≤ U8.heap.size := B_8.out.size
  have c8 := X_8.out.cell (j := 8) rfl
  clear hbn g0 X5 R5 B5 O5_5
  go_upto_region 3 with (first | (at_builtin; refine wpList_append_entsN rfl (.tmp 8) (.tmp 11) rfl rfl (L := d.ents) rfl rfl N8.out (by omega) HC8.out ?_; intro ea eb w8 hro hgr; have X1 := grown_apart X_8.out N8.out hgr (by decide); have f8 := X1.thaw 8; have k8 := X1.cell (j := 8) rfl) | fail)
  have R1 := grown_apart R_8.out N8.out hgr (by decide)
  have B1 := B_8.out.grown hgr B_8.out.size (fun g q => by cases q; exact hgs8)
  have O5_1 := row_ext O5_108.out fun g cs h9 => grown_apart h9 N8.out hgr (by decide)
  have ho : w8.ownsRow w.heap.size 69 3 (.slice ea d.ents.length eb) d.ents.length (entCells d.ents) := row_down hro hgs8
  have X8 := hid (X1.set 8 (.slice ea d.ents.length eb))
  have R8 := hid (R1.far (b := w.heap.size) (j := 8) (by omega) (.slice ea d.ents.length eb))
  have B8 := hid (B1.setCell (p := ⟨w.heap.size, 8, none⟩) (Nat.le_refl _) (.slice ea d.ents.length eb))
  have O5_8 := hid (row_ext O5_1 fun g cs h9 => h9.far (by intro q; rw [← q] at h9; exact absurd (block_one h9 X1).1 (by decide)) (.slice ea d.ents.length eb) (b := w.heap.size) (j := 8))
  have O8_8 := hid (row_ext ho fun g cs h9 => h9.far (by intro q; rw [← q] at h9; exact absurd (block_one h9 X1).1 (by decide)) (.slice ea d.ents.length eb) (b := w.heap.size) (j := 8))
  obtain ⟨V8, hV8⟩ : ∃ V, w8.setCell ⟨w.heap.size, 8, none⟩ (.slice ea d.ents.length eb) = V := ⟨_, rfl⟩
  rw [hV8] at X8 R8 B8 O5_8 O8_8
  clear X1 R1 B1 ho hro hgr c8 N8 HC8 X_8 R_8 B_8 O5_1 O5_108
  have hbn := below_more (Below.refl V8.heap.size V8) (.cells #[] 3)
  have g0 : (V8.alloc (.cells #[] 3)).heap[V8.heap.size]? = some (.cells #[] 3) := heap_alloc_new V8 _
  have hgs12 : w.heap.size ≤ V8.heap.size := B8.out.size
  have LC : Hid (∀ g, (Value.slice ca d.conf.length cb).ownBlock = some g → g < V8.heap.size) := fun g h1 => by obtain ⟨_, h3, _⟩ := row_block O5_8.out h1; exact h3.lt
  obtain ⟨U12, hU12⟩ : ∃ V, V8.alloc (.cells #[] 3) = V := ⟨_, rfl⟩
  rw [hU12] at hbn g0
  have X_12 := hid (X8.out.on hbn X8.out.lt)
  have R_12 := hid (R8.out.on hbn R8.out.lt)
  have B_12 := hid (below_via B8.out hbn)
  have O5_112 := hid (row_ext O5_8.out fun g cs h9 => h9.on hbn h9.lt)
  have O8_112 := hid (row_ext O8_8.out fun g cs h9 => h9.on hbn h9.lt)
  have N12 : Hid (U12.ownsRow V8.heap.size 3 1 (.slice (some ⟨V8.heap.size, 0, none⟩) 0 0) 0 (intCells [])) := no_ints g0 (Nat.le_refl _)
  have HC12 := hid (ints_from (HA.out.votes.on B_12.out) rfl)
  have gz12 : V8.heap.size < U12.heap.size := BlockIs.lt (show BlockIs U12 _ 3 [] from g0)
  have hss12 : V8.heap.size ≤ U12.heap.size := Nat.le_of_lt gz12
  have c12 := X_12.out.cell (j := 12) rfl
  clear hbn g0 X8 R8 B8 O5_8 O8_8
  go_upto_region 4 with (first | (at_builtin; refine wpList_append_ints rfl (.tmp 15) (.tmp 17) rfl rfl (base := V8.heap.size) (L := []) (zs := d.votes) rfl rfl rfl (by simp; omega) hss12 N12.out HC12.out ?_; intro va vb w12 hro hgr; have X1 := row_grownN X_12.out N12.out hgr (by decide); have f12 := X1.thaw 12; have k12 := X1.cell (j := 12) rfl) | fail)
  have R1 := row_grownN R_12.out N12.out hgr (by decide)
  have B1 := B_12.out.grown hgr B_12.out.size (fun g q => by obtain ⟨_, _, hb⟩ := row_block N12.out q; omega)
  have O5_1 := row_apartN O5_112.out hgr (fun g h1 h2 => by have h3 : V8.heap.size = g := Option.some.inj h2; have := LC.out g h1; omega)
  have O8_1 := row_ext O8_112.out fun g cs h9 => row_grownN h9 N12.out hgr (by decide)
  have AP : Hid (∀ g, (Value.slice ca d.conf.length cb).ownBlock = some g → (Value.slice va d.votes.length vb).ownBlock ≠ some g) := fun g h1 h2 => by have h4 := LC.out g h1; obtain ⟨_, _, h5⟩ := row_block (show w12.ownsRow V8.heap.size 3 1 (.slice va d.votes.length vb) d.votes.length (intCells d.votes) from hro) h2; omega
  have ho : w12.ownsRow w.heap.size 3 1 (.slice va d.votes.length vb) d.votes.length (intCells d.votes) := row_down hro hgs12
  have X12 := hid (X1.set 12 (.slice va d.votes.length vb))
  have R12 := hid (R1.far (b := w.heap.size) (j := 12) (by omega) (.slice va d.votes.length vb))
  have B12 := hid (B1.setCell (p := ⟨w.heap.size, 12, none⟩) (Nat.le_refl _) (.slice va d.votes.length vb))
  have O5_12 := hid (row_ext O5_1 fun g cs h9 => h9.far (by intro q; rw [← q] at h9; exact absurd (block_one h9 X1).1 (by decide)) (.slice va d.votes.length vb) (b := w.heap.size) (j := 12))
  have O8_12 := hid (row_ext O8_1 fun g cs h9 => h9.far (by intro q; rw [← q] at h9; exact absurd (block_one h9 X1).1 (by decide)) (.slice va d.votes.length vb) (b := w.heap.size) (j := 12))
  have O12_12 := hid (row_ext ho fun g cs h9 => h9.far (by intro q; rw [← q] at h9; exact absurd (block_one h9 X1).1 (by decide)) (.slice va d.votes.length vb) (b := w.heap.size) (j := 12))
  obtain ⟨V12, hV12⟩ : ∃ V, w12.setCell ⟨w.heap.size, 12, none⟩ (.slice va d.votes.length vb) = V := ⟨_, rfl⟩
  rw [hV12] at X12 R12 B12 O5_12 O8_12 O12_12
  clear X1 R1 B1 ho hro hgr c12 N12 HC12 X_12 R_12 B_12 O5_1 O5_112 O8_1 O8_112
  have hbn := below_more (Below.refl V12.heap.size V12) (.cells #[] 67)
  have g0 : (V12.alloc (.cells #[] 67)).heap[V12.heap.size]? = some (.cells #[] 67) := heap_alloc_new V12 _
  have hgs13 : w.heap.size ≤ V12.heap.size := B12.out.size
  have n0 := peerR_nil V12 w.heap.size hgs13
  obtain ⟨U13, hU13⟩ : ∃ V, V12.alloc (.cells #[] 67) = V := ⟨_, rfl⟩
  rw [hU13] at hbn g0 n0
  have X_13 := hid (X12.out.on hbn X12.out.lt)
  have R_13 := hid (R12.out.on hbn R12.out.lt)
  have B_13 := hid (below_via B12.out hbn)
  have O5_113 := hid (row_ext O5_12.out fun g cs h9 => h9.on hbn h9.lt)
  have O8_113 := hid (row_ext O8_12.out fun g cs h9 => h9.on hbn h9.lt)
  have O12_113 := hid (row_ext O12_12.out fun g cs h9 => h9.on hbn h9.lt)
  have N13 := hid n0
  have HC13 := hid (HA.out.peers.on B_13.out)
  clear n0
  have gz13 : V12.heap.size < U13.heap.size := BlockIs.lt (show BlockIs U13 _ 67 [] from g0)
  have hss13 : w.heap.size ≤ U13.heap.size := B_13.out.size
  have c13 := X_13.out.cell (j := 13) rfl
  clear hbn g0 X12 R12 B12 O5_12 O8_12 O12_12
  go_upto_region 5 with (first | (at_builtin; refine wpList_append_peers rfl (.tmp 20) (.tmp 22) rfl rfl (base := w.heap.size) (L := []) (M := d.peers) (N := d.peers.length) rfl rfl rfl (by simp) (by omega) hss13 N13.out HC13.out ?_; intro pa pb w13 hro hgr; have X1 := row_grownN X_13.out N13.out hgr (by decide); have f13 := X1.thaw 13; have k13 := X1.cell (j := 13) rfl) | fail)
  have R1 := row_grownN R_13.out N13.out hgr (by decide)
  have B1 := B_13.out.grown hgr B_13.out.size (fun g q => by obtain ⟨_, _, hb⟩ := row_block N13.out q; omega)
  have O5_1 := row_ext O5_113.out fun g cs h9 => row_grownN h9 N13.out hgr (by decide)
  have O8_1 := row_ext O8_113.out fun g cs h9 => row_grownN h9 N13.out hgr (by decide)
  have O12_1 := row_ext O12_113.out fun g cs h9 => row_grownN h9 N13.out hgr (by decide)
  have ho : w13.ownsRow w.heap.size 67 4 (.slice pa d.peers.length pb) d.peers.length (peerCells d.peers) := hro
  have X13 := hid (X1.set 13 (.slice pa d.peers.length pb))
  have R13 := hid (R1.far (b := w.heap.size) (j := 13) (by omega) (.slice pa d.peers.length pb))
  have B13 := hid (B1.setCell (p := ⟨w.heap.size, 13, none⟩) (Nat.le_refl _) (.slice pa d.peers.length pb))
  have O5_13 := hid (row_ext O5_1 fun g cs h9 => h9.far (by intro q; rw [← q] at h9; exact absurd (block_one h9 X1).1 (by decide)) (.slice pa d.peers.length pb) (b := w.heap.size) (j := 13))
  have O8_13 := hid (row_ext O8_1 fun g cs h9 => h9.far (by intro q; rw [← q] at h9; exact absurd (block_one h9 X1).1 (by decide)) (.slice pa d.peers.length pb) (b := w.heap.size) (j := 13))
  have O12_13 := hid (row_ext O12_1 fun g cs h9 => h9.far (by intro q; rw [← q] at h9; exact absurd (block_one h9 X1).1 (by decide)) (.slice pa d.peers.length pb) (b := w.heap.size) (j := 13))
  have O13_13 := hid (row_ext ho fun g cs h9 => h9.far (by intro q; rw [← q] at h9; exact absurd (block_one h9 X1).1 (by decide)) (.slice pa d.peers.length pb) (b := w.heap.size) (j := 13))
  obtain ⟨V13, hV13⟩ : ∃ V, w13.setCell ⟨w.heap.size, 13, none⟩ (.slice pa d.peers.length pb) = V := ⟨_, rfl⟩
  rw [hV13] at X13 R13 B13 O5_13 O8_13 O12_13 O13_13
  clear X1 R1 B1 ho hro hgr c13 N13 HC13 X_13 R_13 B_13 O5_1 O5_113 O8_1 O8_113 O12_1 O12_113
  rw [hV13]
  have XL : Hid (BlockIs V13 w.heap.size 35 [.int .i64 d.id, .int .i64 d.term, .int .i64 d.vote, .int .i64 d.role, .int .i64 d.lead, .slice ca d.conf.length cb, .int .i64 d.start, .int .i64 d.sterm, .slice ea d.ents.length eb, .int .i64 d.commit, .int .i64 d.clock, .int .i64 d.limit, .slice va d.votes.length vb, .slice pa d.peers.length pb]) := X13.out
  clear X13
  obtain ⟨VL, hVL⟩ : ∃ V, V13.setRow W.heap.size #[.int .i64 d.id, .int .i64 d.term, .int .i64 d.vote, .int .i64 d.role, .int .i64 d.lead, .slice ca d.conf.length cb, .int .i64 d.start, .int .i64 d.sterm, .slice ea d.ents.length eb, .int .i64 d.commit, .int .i64 d.clock, .int .i64 d.limit, .slice va d.votes.length vb, .slice pa d.peers.length pb] = V := ⟨_, rfl⟩
  have KL : BlockIs VL W.heap.size 35 [.int .i64 d.id, .int .i64 d.term, .int .i64 d.vote, .int .i64 d.role, .int .i64 d.lead, .slice ca d.conf.length cb, .int .i64 d.start, .int .i64 d.sterm, .slice ea d.ents.length eb, .int .i64 d.commit, .int .i64 d.clock, .int .i64 d.limit, .slice va d.votes.length vb, .slice pa d.peers.length pb] := by rw [← hVL]; exact whole_block R13.out _
  have BL : Hid (Below w.heap.size w VL) := by rw [← hVL]; exact below_setRow B13.out (by omega) _
  have NR : Hid (NodeRows VL w.heap.size d ⟨ca, cb, ea, eb, va, vb, pa, pb⟩) := by
    rw [← hVL]
    exact ⟨row_ext O5_13.out fun g cs h9 => whole_other h9 (by intro q; rw [← q] at h9; exact absurd (block_one h9 R13.out).1 (by decide)) _, row_ext O8_13.out fun g cs h9 => whole_other h9 (by intro q; rw [← q] at h9; exact absurd (block_one h9 R13.out).1 (by decide)) _, row_ext O12_13.out fun g cs h9 => whole_other h9 (by intro q; rw [← q] at h9; exact absurd (block_one h9 R13.out).1 (by decide)) _, row_ext O13_13.out fun g cs h9 => whole_other h9 (by intro q; rw [← q] at h9; exact absurd (block_one h9 R13.out).1 (by decide)) _, AP.out⟩
  have r0 := KL.cell (j := 0) rfl
  have r1 := KL.cell (j := 1) rfl
  have r2 := KL.cell (j := 2) rfl
  have r3 := KL.cell (j := 3) rfl
  have r4 := KL.cell (j := 4) rfl
  have r5 := KL.cell (j := 5) rfl
  have r6 := KL.cell (j := 6) rfl
  have r7 := KL.cell (j := 7) rfl
  have r8 := KL.cell (j := 8) rfl
  have r9 := KL.cell (j := 9) rfl
  have r10 := KL.cell (j := 10) rfl
  have r11 := KL.cell (j := 11) rfl
  have r12 := KL.cell (j := 12) rfl
  have r13 := KL.cell (j := 13) rfl
  clear KL
  go_wp2_with (first | (refine wpList_load_whole Try.underlying35 node_size XL.out rfl rfl _ rfl rfl ?_) | (refine wpList_store_whole node_size R13.out rfl rfl _ _ rfl _ rfl rfl rfl (by simp [Value.oneCell']) ?_; rw [hVL]) | fail)
  refine bodyPost_ret (v := .agg #[.int .i64 d.id, .int .i64 d.term, .int .i64 d.vote, .int .i64 d.role, .int .i64 d.lead, .slice ca d.conf.length cb, .int .i64 d.start, .int .i64 d.sterm, .slice ea d.ents.length eb, .int .i64 d.commit, .int .i64 d.clock, .int .i64 d.limit, .slice va d.votes.length vb, .slice pa d.peers.length pb]) (by simp [results, Try.results16, go_sem, r0, r1, r2, r3, r4, r5, r6, r7, r8, r9, r10, r11, r12, r13]) rfl ⟨⟨ca, cb, ea, eb, va, vb, pa, pb⟩, rfl, NR.out, BL.out⟩
end Go.Proofs.Ytglibbpigmpanaa

namespace Go.Proofs.Ytglibbpigmpanaa
open Go.RowKit

set_option maxRecDepth 1000000 in
set_option maxHeartbeats 1000000 in
theorem specEntryOk_any (d : EntD) (hd : d.data.size ≤ 1048576) (w : World) :
    Calls Try.prog 66 #[.agg #[.int .i64 d.term, .int .i64 d.kind, .string d.data]] w fun e w' => e = .returned (.bool (entryOk d)) ∧ Below w.heap.size w w' := by
  obtain ⟨tm, kd, dt⟩ := d
  dsimp only at hd ⊢
  have HB := hid (below_more (Below.refl w.heap.size w) (.cells #[.int .i64 tm, .int .i64 kd, .string dt] 69))
  have hx : BlockIs (w.alloc (.cells #[.int .i64 tm, .int .i64 kd, .string dt] 69)) w.heap.size 69 [.int .i64 tm, .int .i64 kd, .string dt] := heap_alloc_new w _
  obtain ⟨W, hW⟩ : ∃ W, w.alloc (.cells #[.int .i64 tm, .int .i64 kd, .string dt] 69) = W := ⟨_, rfl⟩
  rw [hW] at HB hx
  have c0 := hx.cell (j := 0) rfl
  have c1 := hx.cell (j := 1) rfl
  have c2 := hx.cell (j := 2) rfl
  have cN' := fun w => l01In_any tm 0 100000 w
  clear hx
  cases hA : within tm 0 100000 with
  | false =>
    have hr := hid (entryOk_term (e := ⟨tm, kd, dt⟩) hA)
    rw [hA] at cN'
    have cN := hid cN'
    clear cN' hA
    go_enter Try.func66, Try.ntmps66
    go_wp2_with (go_at_call 15; refine (cN.out _).mono ?_; rintro e w1 ⟨rfl, hw⟩; rw [hw]; clear hw w1)
    go_ret
    exact ⟨by rw [hr.out]; rfl, HB.out⟩
  | true =>
    rw [hA] at cN'
    have cN := hid cN'
    clear cN'
    by_cases k1 : kd = 1
    · have hr := hid (entryOk_one (e := ⟨tm, kd, dt⟩) hA k1)
      clear hA
      subst k1
      by_cases h0 : dt.size = 0
      · have hl : (dt.toList == []) = true := by
          rw [ByteArray.toList_eq, beq_iff_eq]
          exact List.eq_nil_of_length_eq_zero (by simpa using h0)
        go_enter Try.func66, Try.ntmps66
        go_wp2_with (go_at_call 15; refine (cN.out _).mono ?_; rintro e w1 ⟨rfl, hw⟩; rw [hw]; clear hw w1)
        go_ret
        exact ⟨by rw [hr.out]; simp [h0], HB.out⟩
      · have hl : (dt.toList == []) = false := by
          rw [ByteArray.toList_eq, beq_eq_false_iff_ne]
          intro e
          exact h0 (by simpa using congrArg List.length e)
        go_enter Try.func66, Try.ntmps66
        go_wp2_with (go_at_call 15; refine (cN.out _).mono ?_; rintro e w1 ⟨rfl, hw⟩; rw [hw]; clear hw w1)
        go_ret
        exact ⟨by rw [hr.out]; simp [h0], HB.out⟩
    · by_cases k2 : kd = 2
      · have hr := hid (entryOk_two (e := ⟨tm, kd, dt⟩) hA k2)
        have cR := hid (specReadConf_any dt hd W)
        clear hA k1
        subst k2
        go_enter Try.func66, Try.ntmps66
        go_wp2_with (first | (go_at_call 15; refine (cN.out _).mono ?_; rintro e w1 ⟨rfl, hw⟩; rw [hw]; clear hw w1) | (go_at_call 44; refine Calls.mono cR.out ?_; rintro e w2 ⟨v2, rfl, o2, b2⟩))
        go_ret
        exact ⟨by rw [hr.out]; rfl, below_via HB.out b2⟩
      · by_cases k3 : kd = 3
        · have hr := hid (entryOk_three (e := ⟨tm, kd, dt⟩) hA k3)
          clear hA k1 k2
          subst k3
          go_enter Try.func66, Try.ntmps66
          go_wp2_with (go_at_call 15; refine (cN.out _).mono ?_; rintro e w1 ⟨rfl, hw⟩; rw [hw]; clear hw w1)
          go_ret
          refine ⟨?_, HB.out⟩
          rw [hr.out]
          by_cases h120 : dt.size ≤ 120
          · have h2 : (dt.size : Int) ≤ 120 := by omega
            simp [h120, h2]
          · have h2 : ¬ (dt.size : Int) ≤ 120 := by omega
            simp [h120, h2]
        · have hr := hid (entryOk_else (e := ⟨tm, kd, dt⟩) hA k1 k2 k3)
          clear hA
          go_enter Try.func66, Try.ntmps66
          go_wp2_with (go_at_call 15; refine (cN.out _).mono ?_; rintro e w1 ⟨rfl, hw⟩; rw [hw]; clear hw w1)
          go_ret
          exact ⟨by rw [hr.out]; rfl, HB.out⟩
end Go.Proofs.Ytglibbpigmpanaa

namespace Go.Proofs.Ytglibbpigmpanaa
open Go.RowKit Go.Sort

theorem othersD_step {zs : List Int} {x : Int} {k : Nat} (hk : k < zs.length) : othersD (zs.take (k + 1)) x = if zs[k] = x then othersD (zs.take k) x else othersD (zs.take k) x ++ [zs[k]] := by
  unfold othersD
  rw [List.take_succ_eq_append_getElem hk, List.filter_append]
  by_cases h : zs[k] = x
  · simp [h]
  · simp [h]
theorem othersD_len (zs : List Int) (x : Int) (k : Nat) : (othersD (zs.take k) x).length ≤ zs.length := Nat.le_trans (List.length_filter_le _ _) (by rw [List.length_take]; omega)
set_option maxRecDepth 1000000 in
set_option maxHeartbeats 2000000 in
theorem l18Others_any (ao : Option Addr) (ac : Nat) (zs : List Int) (x : Int) (hl : zs.length ≤ 1048576) (w : World) (ha : IntsAt w ao zs) :
    Calls Try.prog 42 #[.slice ao zs.length ac, .int .i64 x] w fun e w' => confDid (othersD zs x) w e w' := by
  have hb2 := below_more (Below.refl w.heap.size w) (.cells #[] 3)
  have G0 : (w.alloc (.cells #[] 3)).heap[w.heap.size]? = some (.cells #[] 3) := heap_alloc_new w _
  obtain ⟨W2, hW2⟩ : ∃ V, w.alloc (.cells #[] 3) = V := ⟨_, rfl⟩
  rw [hW2] at hb2 G0
  have N2 : Hid (W2.ownsRow w.heap.size 3 1 (.slice (some ⟨w.heap.size, 0, none⟩) 0 0) 0 (intCells [])) := no_ints (base := w.heap.size) G0 (Nat.le_refl _)
  have HA := hid ha
  have B2 := hid hb2
  have HR : Hid (othersD (zs.take zs.length) x = othersD zs x) := (show _ = _ by rw [List.take_length])
  clear ha hb2 G0
  go_enter Try.func42, Try.ntmps42
  go_wp2
  go_loopg [5, 6] zs.length (fun g o i wr => ∃ (k : Nat) (ra : Option Addr) (rc : Nat), k + g = zs.length ∧ i = .int .i64 k ∧ o = .slice ra (othersD (zs.take k) x).length rc ∧ Hid (wr.ownsRow w.heap.size 3 1 (.slice ra (othersD (zs.take k) x).length rc) (othersD (zs.take k) x).length (intCells (othersD (zs.take k) x))) ∧ Hid (Below w.heap.size w wr))
  case atStart => exact ⟨0, some ⟨w.heap.size, 0, none⟩, 0, by omega, rfl, rfl, N2, B2⟩
  case round =>
    obtain ⟨k, ra, rc, hkg, rfl, rfl, OR, BR⟩ := hrel
    clear N2 B2 hW2
    cases gk with
    | zero =>
      have hlt : ¬ (k : Int) < (zs.length : Int) := by omega
      obtain rfl : k = zs.length := by omega
      go_wp2
      go_ret
      exact ⟨ra, rc, rfl, by have := OR.out; rw [HR.out] at this; exact this, BR.out⟩
    | succ g =>
      have hk : k < zs.length := by omega
      have hlt : (k : Int) < (zs.length : Int) := by omega
      have hne : zs ≠ [] := by intro q; rw [q] at hk; simp at hk
      obtain ⟨b, off, rfl, hc⟩ := HA.out.on BR.out hne
      have x0 := hc k hk
      clear hc
      have hst := othersD_step (x := x) hk
      have hln := othersD_len zs x k
      by_cases h2 : zs[k] = x
      · have h2b : (zs[k] == x) = true := by rw [beq_iff_eq]; exact h2
        have h2n : (zs[k] != x) = false := by simp [h2]
        have HT : Hid (othersD (zs.take (k + 1)) x = othersD (zs.take k) x) := (show _ = _ by rw [hst, if_pos h2])
        clear hst h2
        go_wp2
        go_roundg g
        case measure => omega
        case rel => exact ⟨k + 1, ra, rc, by omega, by go_num, by rw [HT.out], (show World.ownsRow _ _ _ _ _ _ _ by rw [HT.out]; exact OR.out), BR⟩
      · have h2b : (zs[k] == x) = false := by rw [beq_eq_false_iff_ne]; exact h2
        have h2n : (zs[k] != x) = true := by simp [h2]
        have HT : Hid (othersD (zs.take (k + 1)) x = othersD (zs.take k) x ++ [zs[k]]) := (show _ = _ by rw [hst, if_neg h2])
        clear hst h2
        obtain ⟨y, hy⟩ : ∃ y, zs[k] = y := ⟨_, rfl⟩
        rw [hy] at HT x0 h2b h2n
        clear hy
        obtain ⟨L, hL⟩ : ∃ L, othersD (zs.take k) x = L := ⟨_, rfl⟩
        rw [hL] at HT OR hln ⊢
        clear hL
        have hY := below_more (Below.refl wr.heap.size wr) (.cells #[.int .i64 y] 3)
        have YC : BlockIs (wr.alloc (.cells #[.int .i64 y] 3)) wr.heap.size 3 [.int .i64 y] := heap_alloc_new wr _
        obtain ⟨U, hU⟩ : ∃ U, wr.alloc (.cells #[.int .i64 y] 3) = U := ⟨_, rfl⟩
        rw [hU] at hY YC
        have OU := hid (row_ext OR.out fun g cs h9 => h9.on hY h9.lt)
        have BU := hid (below_via BR.out hY)
        have hs : w.heap.size ≤ U.heap.size := BU.out.size
        have HC : Hid (∀ j (hj : j < [y].length), U.cell? ⟨wr.heap.size, 0 + j, none⟩ = some (.int .i64 [y][j])) := fun j hj => by
          obtain rfl : j = 0 := by simp at hj; exact hj
          exact YC.cell rfl
        clear hY YC
        go_wp2_with (at_builtin; refine wpList_append_ints rfl (.tmp 20) (.tmp 25) rfl rfl (base := w.heap.size) (L := L) (zs := [y]) rfl rfl rfl (by simp; omega) hs OU.out HC.out ?_; intro va' vc' w9 hro hgr)
        have O9 := hid hro
        have B9 := hid (BU.out.grown hgr BU.out.size (fun g q => by obtain ⟨_, _, hb⟩ := row_block OU.out q; exact hb))
        clear hro hgr OU BU HC OR BR hU x0
        go_wp2
        go_roundg g
        case measure => omega
        case rel => exact ⟨k + 1, va', vc', by omega, by go_num, by rw [HT.out]; simp, (show World.ownsRow _ _ _ _ _ _ _ by rw [HT.out]; exact O9.out), B9⟩
end Go.Proofs.Ytglibbpigmpanaa
