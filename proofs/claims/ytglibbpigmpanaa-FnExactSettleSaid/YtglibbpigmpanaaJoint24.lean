/-
  The walk of spec.Settle: what it answers.
  The walk of impl.LogLast: what it answers.
  The walk of laws.markText: the text by which a place is marked.
-/
import Derived.Test.YtglibbpigmpanaaJoint1
import Derived.Test.YtglibbpigmpanaaJoint19
import Derived.Test.YtglibbpigmpanaaJoint18
import Derived.Test.YtglibbpigmpanaaJoint21
import Derived.Test.YtglibbpigmpanaaJoint22
import Derived.Test.YtglibbpigmpanaaJoint23
import Derived.Deep.RegionWith
import Derived.Test.YtglibbpigmpanaaRows
import Derived.Deep.QuietTactic
import Derived.BigQuiet
import Derived.Lib.QuietBelow
import Derived.WalkSmall
import Derived.WalkKit
namespace Go.Proofs.Ytglibbpigmpanaa
open Go.RowKit Go.Sort

set_option maxRecDepth 1000000 in
set_option maxHeartbeats 4000000 in
theorem specSettle_any (d : NodeD) (p : NodeL) (x : Int) (hx : -9223372036854775808 ≤ x ∧ x ≤ 9223372036854775807) (hs : d.Small) (hf : NodeLies p) (hec : d.ents.length ≤ p.ec) (_hem : p.ec ≤ maxLen) (w : World) (ha : NodeAt w d p) :
    Calls Try.prog 5 #[.agg #[.int .i64 d.id, .int .i64 d.term, .int .i64 d.vote, .int .i64 d.role, .int .i64 d.lead, .slice p.co d.conf.length p.cc, .int .i64 d.start, .int .i64 d.sterm, .slice p.eo d.ents.length p.ec, .int .i64 d.commit, .int .i64 d.clock, .int .i64 d.limit, .slice p.vo d.votes.length p.vc, .slice p.po d.peers.length p.pc], .int .i64 x] w fun e w' => setDid (setOk d x) (setR d x) w e w' := by
  have h2 := two_blocks w (.cells #[.int .i64 d.id, .int .i64 d.term, .int .i64 d.vote, .int .i64 d.role, .int .i64 d.lead, .slice p.co d.conf.length p.cc, .int .i64 d.start, .int .i64 d.sterm, .slice p.eo d.ents.length p.ec, .int .i64 d.commit, .int .i64 d.clock, .int .i64 d.limit, .slice p.vo d.votes.length p.vc, .slice p.po d.peers.length p.pc] 35) (.cells #[.int .i64 0, .int .i64 0, .int .i64 0, .int .i64 0, .int .i64 0, .slice none 0 0, .int .i64 0, .int .i64 0, .slice none 0 0, .int .i64 0, .int .i64 0, .int .i64 0, .slice none 0 0, .slice none 0 0] 35)
  obtain ⟨W0, hW0⟩ : ∃ V, (w.alloc (.cells #[.int .i64 d.id, .int .i64 d.term, .int .i64 d.vote, .int .i64 d.role, .int .i64 d.lead, .slice p.co d.conf.length p.cc, .int .i64 d.start, .int .i64 d.sterm, .slice p.eo d.ents.length p.ec, .int .i64 d.commit, .int .i64 d.clock, .int .i64 d.limit, .slice p.vo d.votes.length p.vc, .slice p.po d.peers.length p.pc] 35)).alloc (.cells #[.int .i64 0, .int .i64 0, .int .i64 0, .int .i64 0, .int .i64 0, .slice none 0 0, .int .i64 0, .int .i64 0, .slice none 0 0, .int .i64 0, .int .i64 0, .int .i64 0, .slice none 0 0, .slice none 0 0] 35) = V := ⟨_, rfl⟩
  rw [hW0] at h2
  have X0 : Hid (BlockIs W0 w.heap.size 35 [.int .i64 d.id, .int .i64 d.term, .int .i64 d.vote, .int .i64 d.role, .int .i64 d.lead, .slice p.co d.conf.length p.cc, .int .i64 d.start, .int .i64 d.sterm, .slice p.eo d.ents.length p.ec, .int .i64 d.commit, .int .i64 d.clock, .int .i64 d.limit, .slice p.vo d.votes.length p.vc, .slice p.po d.peers.length p.pc]) := h2.2.2.1
  have R0 : Hid (BlockIs W0 (w.heap.size + 1) 35 [.int .i64 0, .int .i64 0, .int .i64 0, .int .i64 0, .int .i64 0, .slice none 0 0, .int .i64 0, .int .i64 0, .slice none 0 0, .int .i64 0, .int .i64 0, .int .i64 0, .slice none 0 0, .slice none 0 0]) := h2.2.2.2
  have B0 := hid h2.1
  have HA := hid ha
  have HS := hid hs
  have HF := hid hf
  clear h2 ha hs hf
  have CO' := specNodeOk_any d p HS.out W0 (HA.out.on B0.out)
  obtain ⟨okb, hok⟩ : ∃ b, nodeOk d = b := ⟨_, rfl⟩
  rw [hok] at CO'
  have CO := hid CO'
  clear CO'
  go_enter Try.func5, Try.ntmps5
  go_wp2_with (first | (refine wpList_load_whole Try.underlying35 node_size X0.out rfl rfl _ rfl rfl ?_) | fail)
  refine CO.out.mono ?_
  rintro e w1 ⟨rfl, hb⟩
  have X1 := hid (X0.out.on hb X0.out.lt)
  have R1 := hid (R0.out.on hb R0.out.lt)
  have B1 := hid (below_via B0.out hb)
  have c6 := X1.out.cell (j := 6) rfl
  have c9 := X1.out.cell (j := 9) rfl
  clear hb CO X0 R0 B0 hW0
  cases okb with
  | false =>
    have HOK : Hid (setOk d x = false) := (show _ = _ by rw [setOk, hok]; rfl)
    clear hok
    have HR : Hid (setR d x = newD 0 [] 0) := (show _ = _ by rw [setR, HOK.out]; rfl)
    obtain ⟨VL, hVL⟩ : ∃ V, w1.setRow (w.heap.size + 1) #[.int .i64 0, .int .i64 0, .int .i64 0, .int .i64 0, .int .i64 0, .slice none 0 0, .int .i64 0, .int .i64 0, .slice none 0 0, .int .i64 0, .int .i64 0, .int .i64 0, .slice none 0 0, .slice none 0 0] = V := ⟨_, rfl⟩
    have KL : BlockIs VL (w.heap.size + 1) 35 [.int .i64 0, .int .i64 0, .int .i64 0, .int .i64 0, .int .i64 0, .slice none 0 0, .int .i64 0, .int .i64 0, .slice none 0 0, .int .i64 0, .int .i64 0, .int .i64 0, .slice none 0 0, .slice none 0 0] := by rw [← hVL]; exact whole_block R1.out _
    have BL : Hid (Below w.heap.size w VL) := by rw [← hVL]; exact below_setRow B1.out (by omega) _
    have r0 := KL.cell (j := 0) rfl
    have r1 := KL.cell (j := 1) rfl
    have r2 := KL.cell (j := 2) rfl
    have r3 := KL.cell (j := 3) rfl
    have r4 := KL.cell (j := 4) rfl
    have r5 := KL.cell (j := 5) rfl
    have r6 := KL.cell (j := 6) rfl
    have r7 := KL.cell (j := 7) rfl
    have r8 := KL.cell (j := 8) rfl
    have r9 := KL.cell (j := 9) rfl
    have r10 := KL.cell (j := 10) rfl
    have r11 := KL.cell (j := 11) rfl
    have r12 := KL.cell (j := 12) rfl
    have r13 := KL.cell (j := 13) rfl
    clear KL
    go_wp2_with (first | (refine wpList_store_whole node_size R1.out rfl rfl _ _ rfl _ rfl rfl rfl (by simp [Value.oneCell']) ?_; rw [hVL]) | fail)
    refine bodyPost_ret (v := .tuple #[.agg #[.int .i64 0, .int .i64 0, .int .i64 0, .int .i64 0, .int .i64 0, .slice none 0 0, .int .i64 0, .int .i64 0, .slice none 0 0, .int .i64 0, .int .i64 0, .int .i64 0, .slice none 0 0, .slice none 0 0], .bool false]) (by simp [results, Try.results5, go_sem, r0, r1, r2, r3, r4, r5, r6, r7, r8, r9, r10, r11, r12, r13]) rfl ?_
    rw [HOK.out, HR.out]
    exact ⟨⟨none, 0, none, 0, none, 0, none, 0⟩, rfl, setRows_none _ _, BL.out⟩
  | true =>
  have CI' := fun w => l01In_any x d.start d.commit w
  cases hin : within x d.start d.commit with
  | false =>
    have HOK : Hid (setOk d x = false) := (show _ = _ by rw [setOk, hok, hin]; rfl)
    rw [hin] at CI'
    have CI := hid CI'
    clear CI' hin hok
    have HR : Hid (setR d x = newD 0 [] 0) := (show _ = _ by rw [setR, HOK.out]; rfl)
    obtain ⟨VL, hVL⟩ : ∃ V, w1.setRow (w.heap.size + 1) #[.int .i64 0, .int .i64 0, .int .i64 0, .int .i64 0, .int .i64 0, .slice none 0 0, .int .i64 0, .int .i64 0, .slice none 0 0, .int .i64 0, .int .i64 0, .int .i64 0, .slice none 0 0, .slice none 0 0] = V := ⟨_, rfl⟩
    have KL : BlockIs VL (w.heap.size + 1) 35 [.int .i64 0, .int .i64 0, .int .i64 0, .int .i64 0, .int .i64 0, .slice none 0 0, .int .i64 0, .int .i64 0, .slice none 0 0, .int .i64 0, .int .i64 0, .int .i64 0, .slice none 0 0, .slice none 0 0] := by rw [← hVL]; exact whole_block R1.out _
    have BL : Hid (Below w.heap.size w VL) := by rw [← hVL]; exact below_setRow B1.out (by omega) _
    have r0 := KL.cell (j := 0) rfl
    have r1 := KL.cell (j := 1) rfl
    have r2 := KL.cell (j := 2) rfl
    have r3 := KL.cell (j := 3) rfl
    have r4 := KL.cell (j := 4) rfl
    have r5 := KL.cell (j := 5) rfl
    have r6 := KL.cell (j := 6) rfl
    have r7 := KL.cell (j := 7) rfl
    have r8 := KL.cell (j := 8) rfl
    have r9 := KL.cell (j := 9) rfl
    have r10 := KL.cell (j := 10) rfl
    have r11 := KL.cell (j := 11) rfl
    have r12 := KL.cell (j := 12) rfl
    have r13 := KL.cell (j := 13) rfl
    clear KL
    go_wp2_with (first | (go_at_call 15; with_reducible refine Calls.mono (CI.out _) ?_; rintro e w9 ⟨rfl, hw⟩; rw [hw]; clear hw w9) | (refine wpList_store_whole node_size R1.out rfl rfl _ _ rfl _ rfl rfl rfl (by simp [Value.oneCell']) ?_; rw [hVL]) | fail)
    refine bodyPost_ret (v := .tuple #[.agg #[.int .i64 0, .int .i64 0, .int .i64 0, .int .i64 0, .int .i64 0, .slice none 0 0, .int .i64 0, .int .i64 0, .slice none 0 0, .int .i64 0, .int .i64 0, .int .i64 0, .slice none 0 0, .slice none 0 0], .bool false]) (by simp [results, Try.results5, go_sem, r0, r1, r2, r3, r4, r5, r6, r7, r8, r9, r10, r11, r12, r13]) rfl ?_
    rw [HOK.out, HR.out]
    exact ⟨⟨none, 0, none, 0, none, 0, none, 0⟩, rfl, setRows_none _ _, BL.out⟩
  | true =>
  rw [hin] at CI'
  have CI := hid CI'
  have hxab := within_iff.1 hin
  have hxa := hxab.1
  have hxb := hxab.2
  clear CI' hin hxab
  have HOK : Hid (setOk d x = true) := (show _ = _ by rw [setOk, hok, within_yes hxa hxb]; rfl)
  have hh : nodeHead d = true := by rw [nodeOk, Bool.and_eq_true, Bool.and_eq_true] at hok; exact hok.1.1
  have hcm : d.commit ≤ lastD d := by
    rw [nodeOk_is hh] at hok
    simp only [Bool.and_eq_true, decide_eq_true_eq] at hok
    exact hok.1.1.1.1.2
  obtain ⟨n1, n2, n3, n4, _, _, n7, _⟩ := node_last hh
  have hlg : logOk d.start d.sterm d.ents = true := by have h9 := hh; rw [nodeHead, Bool.and_eq_true, Bool.and_eq_true] at h9; exact h9.2
  have HSD : Hid (setR d x = setD d x) := (show _ = _ by rw [setR, HOK.out]; rfl)
  obtain ⟨m, hm⟩ : ∃ m, m = min d.ents.length (x - d.start).toNat := ⟨_, rfl⟩
  have hml : m ≤ d.ents.length := by omega
  have CC := hid (l18Copy_any d p HS.out HF.out w1 (HA.out.on B1.out))
  have CA' := fun w ha he => specConfAt_any d p x n7 HS.out.conf n1 n2 HS.out.ents HS.out.each (by omega) (by omega) w ha he
  rw [show uptoN d.start d.ents.length x = m from hm.symm] at CA'
  have CT' := fun w ha => specLogTerm_any d.start d.sterm x p.eo d.ents p.ec (by omega) HS.out.ents w ha
  have CB' := fun t w ha => specLogBehind_any d.start d.sterm x t p.eo d.ents p.ec HS.out.ents HS.out.each hec w ha
  have HD : Hid (setD d x = ⟨d.id, d.term, d.vote, d.role, d.lead, confTo d.conf d.ents m, x, logTerm d.start d.sterm d.ents x, behindAns d.start d.sterm d.ents x (logTerm d.start d.sterm d.ents x), d.commit, d.clock, d.limit, d.votes, d.peers⟩) := (show _ = _ by rw [hm]; rfl)
  obtain ⟨T, hT⟩ : ∃ T, confTo d.conf d.ents m = T := ⟨_, rfl⟩
  obtain ⟨R, hR⟩ : ∃ R, logTerm d.start d.sterm d.ents x = R := ⟨_, rfl⟩
  rw [hT] at CA' HD
  rw [hR] at CT' HD
  obtain ⟨S, hS⟩ : ∃ S, behindAns d.start d.sterm d.ents x R = S := ⟨_, rfl⟩
  have CB := hid (fun w ha => by have h9 := CB' R w ha; rw [hS] at h9; exact h9)
  rw [hS] at HD
  have CA := hid CA'
  have CT := hid CT'
  clear CA' CT' CB' hT hR hS hm hml hlg hok hh hcm n1 n2 n3 n4 n7
  go_wp2_with (first | (refine wpList_load_whole Try.underlying35 node_size X1.out rfl rfl _ rfl rfl ?_) | (go_at_call 15; with_reducible refine Calls.mono (CI.out _) ?_; rintro e w9 ⟨rfl, hw⟩; rw [hw]; clear hw w9) | fail)
  refine CC.out.mono ?_
  rintro e w2 ⟨q, rfl, nr, hb⟩
  have X2 := X1.out.on hb X1.out.lt
  have R2 := R1.out.on hb R1.out.lt
  have B2 := below_via B1.out hb
  have bn := below_more (Below.refl w2.heap.size w2) (.cells #[.int .i64 d.id, .int .i64 d.term, .int .i64 d.vote, .int .i64 d.role, .int .i64 d.lead, .slice q.co d.conf.length q.cc, .int .i64 d.start, .int .i64 d.sterm, .slice q.eo d.ents.length q.ec, .int .i64 d.commit, .int .i64 d.clock, .int .i64 d.limit, .slice q.vo d.votes.length q.vc, .slice q.po d.peers.length q.pc] 35)
  have nn : BlockIs (w2.alloc (.cells #[.int .i64 d.id, .int .i64 d.term, .int .i64 d.vote, .int .i64 d.role, .int .i64 d.lead, .slice q.co d.conf.length q.cc, .int .i64 d.start, .int .i64 d.sterm, .slice q.eo d.ents.length q.ec, .int .i64 d.commit, .int .i64 d.clock, .int .i64 d.limit, .slice q.vo d.votes.length q.vc, .slice q.po d.peers.length q.pc] 35)) w2.heap.size 35 [.int .i64 d.id, .int .i64 d.term, .int .i64 d.vote, .int .i64 d.role, .int .i64 d.lead, .slice q.co d.conf.length q.cc, .int .i64 d.start, .int .i64 d.sterm, .slice q.eo d.ents.length q.ec, .int .i64 d.commit, .int .i64 d.clock, .int .i64 d.limit, .slice q.vo d.votes.length q.vc, .slice q.po d.peers.length q.pc] := heap_alloc_new w2 _
  obtain ⟨U2, hU2⟩ : ∃ V, w2.alloc (.cells #[.int .i64 0, .int .i64 0, .int .i64 0, .int .i64 0, .int .i64 0, .slice none 0 0, .int .i64 0, .int .i64 0, .slice none 0 0, .int .i64 0, .int .i64 0, .int .i64 0, .slice none 0 0, .slice none 0 0] 35) = V := ⟨_, rfl⟩
  have KZ : BlockIs U2 w2.heap.size 35 [.int .i64 0, .int .i64 0, .int .i64 0, .int .i64 0, .int .i64 0, .slice none 0 0, .int .i64 0, .int .i64 0, .slice none 0 0, .int .i64 0, .int .i64 0, .int .i64 0, .slice none 0 0, .slice none 0 0] := by rw [← hU2]; exact heap_alloc_new _ _
  obtain ⟨w3, hw3⟩ : ∃ V, U2.setRow w2.heap.size #[.int .i64 d.id, .int .i64 d.term, .int .i64 d.vote, .int .i64 d.role, .int .i64 d.lead, .slice q.co d.conf.length q.cc, .int .i64 d.start, .int .i64 d.sterm, .slice q.eo d.ents.length q.ec, .int .i64 d.commit, .int .i64 d.clock, .int .i64 d.limit, .slice q.vo d.votes.length q.vc, .slice q.po d.peers.length q.pc] = V := ⟨_, rfl⟩
  have hov : w2.alloc (.cells #[.int .i64 d.id, .int .i64 d.term, .int .i64 d.vote, .int .i64 d.role, .int .i64 d.lead, .slice q.co d.conf.length q.cc, .int .i64 d.start, .int .i64 d.sterm, .slice q.eo d.ents.length q.ec, .int .i64 d.commit, .int .i64 d.clock, .int .i64 d.limit, .slice q.vo d.votes.length q.vc, .slice q.po d.peers.length q.pc] 35) = w3 := by rw [← hw3, ← hU2, whole_over]
  rw [hov] at bn nn
  have X3 := hid (X2.on bn X2.lt)
  have R3 := hid (R2.on bn R2.lt)
  have B3 := hid (below_via B2 bn)
  have Y3 := hid nn
  have VR3 := hid (row_ext (row_down nr.votes B1.out.size) fun _ _ h9 => h9.on bn h9.lt)
  have PR3 := hid (row_ext (row_down nr.peers B1.out.size) fun _ _ h9 => h9.on bn h9.lt)
  have hgy : w.heap.size + 1 < w2.heap.size := R2.lt
  clear hb nr X2 R2 B2 bn nn hov X1 R1 B1 CC c6 c9
  go_wp2_with (first | (refine wpList_load_whole Try.underlying35 node_size X3.out rfl rfl _ rfl rfl ?_) | (refine wpList_store_whole node_size KZ rfl rfl _ _ rfl _ rfl rfl rfl (by simp [Value.oneCell']) ?_; rw [hw3]) | fail)
  refine (CA.out _ (HA.out.on B3.out).conf (HA.out.on B3.out).ents).mono ?_
  rintro e w4 ⟨ca, cb, rfl, ho, hb⟩
  have X4 := X3.out.on hb X3.out.lt
  have R4 := R3.out.on hb R3.out.lt
  have B4 := below_via B3.out hb
  have Y4 := Y3.out.on hb Y3.out.lt
  have AP : Hid (∀ g, (Value.slice ca T.length cb).ownBlock = some g → (Value.slice q.vo d.votes.length q.vc).ownBlock ≠ some g) := fun g h1 h2 => by obtain ⟨_, _, h3⟩ := row_block ho h1; obtain ⟨_, h4, _⟩ := row_block VR3.out h2; have := h4.lt; omega
  have k5 := Y4.cell (j := 5) rfl
  have f5 := Y4.thaw 5
  have X5 := hid (X4.far (b := w2.heap.size) (j := 5) (by omega) (.slice ca T.length cb))
  have R5 := hid (R4.far (b := w2.heap.size) (j := 5) (by omega) (.slice ca T.length cb))
  have B5 := hid (B4.setCell (p := ⟨w2.heap.size, 5, none⟩) (by show _ ≤ w2.heap.size; omega) (.slice ca T.length cb))
  have Y5 := hid (Y4.set 5 (.slice ca T.length cb))
  have CR5 := hid (row_ext (row_down ho B3.out.size) fun g cs h9 => h9.far (by intro q9; rw [← q9] at h9; exact absurd (block_one h9 Y4).1 (by decide)) (.slice ca T.length cb) (b := w2.heap.size) (j := 5))
  have VR5 := hid (row_ext VR3.out fun g cs h9 => (h9.on hb h9.lt).far (by intro q9; rw [← q9] at h9; exact absurd (block_one h9 Y3.out).1 (by decide)) (.slice ca T.length cb) (b := w2.heap.size) (j := 5))
  have PR5 := hid (row_ext PR3.out fun g cs h9 => (h9.on hb h9.lt).far (by intro q9; rw [← q9] at h9; exact absurd (block_one h9 Y3.out).1 (by decide)) (.slice ca T.length cb) (b := w2.heap.size) (j := 5))
  obtain ⟨w5, hw5⟩ : ∃ V, w4.setCell ⟨w2.heap.size, 5, none⟩ (.slice ca T.length cb) = V := ⟨_, rfl⟩
  rw [hw5] at X5 R5 B5 Y5 CR5 VR5 PR5
  clear X4 R4 B4 Y4 ho hb CA X3 R3 B3 Y3 VR3 PR3 KZ hw3 hU2
  have bd : Below w5.heap.size w5 w5.drew := below_drewN (Below.refl _ _) 1
  have BD := hid (below_via B5.out bd)
  have c6 := X5.out.cell (j := 6) rfl
  have c7 := X5.out.cell (j := 7) rfl
  have c8 := X5.out.cell (j := 8) rfl
  go_wp2
  go_region_with (first | (go_at_call 19; refine (CT.out _ (HA.out.on BD.out).ents).mono ?_; rintro e w6 ⟨rfl, b6⟩; have bb6 := below_via bd b6; have X6 := X5.out.on bb6 X5.out.lt; have d6 := X6.cell (j := 6) rfl; have d7 := X6.cell (j := 7) rfl; have d8 := X6.cell (j := 8) rfl) | (go_at_call 18; refine (CB.out _ (HA.out.on (below_via B5.out bb6)).ents).mono ?_; rintro e w7 ⟨vo, vd, rfl, ow, b7⟩; have bb7 := below_via bb6 b7; have Y7 := Y5.out.on bb7 Y5.out.lt; have k6 := Y7.cell (j := 6) rfl; have k7 := Y7.cell (j := 7) rfl; have k8 := Y7.cell (j := 8) rfl; have f6 := Y7.thaw 6; have f7 := Y7.thaw 7; have f8 := Y7.thaw 8))
  all_goals
    have R8 := hid ((((R5.out.on bb7 R5.out.lt).far (b := w2.heap.size) (j := 6) (by omega) (.int .i64 x)).far (b := w2.heap.size) (j := 7) (by omega) (.int .i64 R)).far (b := w2.heap.size) (j := 8) (by omega) (.slice vo S.length vd))
    have Y8 := hid (((Y7.set 6 (.int .i64 x)).set 7 (.int .i64 R)).set 8 (.slice vo S.length vd))
    have B8 := hid ((((below_via B5.out bb7).setCell (p := ⟨w2.heap.size, 6, none⟩) (by show _ ≤ w2.heap.size; omega) (.int .i64 x)).setCell (p := ⟨w2.heap.size, 7, none⟩) (by show _ ≤ w2.heap.size; omega) (.int .i64 R)).setCell (p := ⟨w2.heap.size, 8, none⟩) (by show _ ≤ w2.heap.size; omega) (.slice vo S.length vd))
    have CR8 := hid (row_ext CR5.out fun g cs h9 => (((h9.on bb7 h9.lt).far (b := w2.heap.size) (j := 6) (by intro q9; rw [← q9] at h9; exact absurd (block_one h9 Y5.out).1 (by decide)) (.int .i64 x)).far (b := w2.heap.size) (j := 7) (by intro q9; rw [← q9] at h9; exact absurd (block_one h9 Y5.out).1 (by decide)) (.int .i64 R)).far (b := w2.heap.size) (j := 8) (by intro q9; rw [← q9] at h9; exact absurd (block_one h9 Y5.out).1 (by decide)) (.slice vo S.length vd))
    have VR8 := hid (row_ext VR5.out fun g cs h9 => (((h9.on bb7 h9.lt).far (b := w2.heap.size) (j := 6) (by intro q9; rw [← q9] at h9; exact absurd (block_one h9 Y5.out).1 (by decide)) (.int .i64 x)).far (b := w2.heap.size) (j := 7) (by intro q9; rw [← q9] at h9; exact absurd (block_one h9 Y5.out).1 (by decide)) (.int .i64 R)).far (b := w2.heap.size) (j := 8) (by intro q9; rw [← q9] at h9; exact absurd (block_one h9 Y5.out).1 (by decide)) (.slice vo S.length vd))
    have PR8 := hid (row_ext PR5.out fun g cs h9 => (((h9.on bb7 h9.lt).far (b := w2.heap.size) (j := 6) (by intro q9; rw [← q9] at h9; exact absurd (block_one h9 Y5.out).1 (by decide)) (.int .i64 x)).far (b := w2.heap.size) (j := 7) (by intro q9; rw [← q9] at h9; exact absurd (block_one h9 Y5.out).1 (by decide)) (.int .i64 R)).far (b := w2.heap.size) (j := 8) (by intro q9; rw [← q9] at h9; exact absurd (block_one h9 Y5.out).1 (by decide)) (.slice vo S.length vd))
    have E8 := hid (ents_far3 (OwnAt.down ow (below_via B5.out bb6).size (Nat.le_refl _)) Y7 (.int .i64 x) (.int .i64 R) (.slice vo S.length vd))
    obtain ⟨w8, hw8⟩ : ∃ V, ((w7.setCell ⟨w2.heap.size, 6, none⟩ (.int .i64 x)).setCell ⟨w2.heap.size, 7, none⟩ (.int .i64 R)).setCell ⟨w2.heap.size, 8, none⟩ (.slice vo S.length vd) = V := ⟨_, rfl⟩
    rw [hw8] at R8 Y8 B8 CR8 VR8 PR8 E8 ⊢
    have Y9 : Hid (BlockIs w8 w2.heap.size 35 [.int .i64 d.id, .int .i64 d.term, .int .i64 d.vote, .int .i64 d.role, .int .i64 d.lead, .slice ca T.length cb, .int .i64 x, .int .i64 R, .slice vo S.length vd, .int .i64 d.commit, .int .i64 d.clock, .int .i64 d.limit, .slice q.vo d.votes.length q.vc, .slice q.po d.peers.length q.pc]) := Y8.out
    obtain ⟨VL, hVL⟩ : ∃ V, w8.setRow (w.heap.size + 1) #[.int .i64 d.id, .int .i64 d.term, .int .i64 d.vote, .int .i64 d.role, .int .i64 d.lead, .slice ca T.length cb, .int .i64 x, .int .i64 R, .slice vo S.length vd, .int .i64 d.commit, .int .i64 d.clock, .int .i64 d.limit, .slice q.vo d.votes.length q.vc, .slice q.po d.peers.length q.pc] = V := ⟨_, rfl⟩
    have KL : BlockIs VL (w.heap.size + 1) 35 [.int .i64 d.id, .int .i64 d.term, .int .i64 d.vote, .int .i64 d.role, .int .i64 d.lead, .slice ca T.length cb, .int .i64 x, .int .i64 R, .slice vo S.length vd, .int .i64 d.commit, .int .i64 d.clock, .int .i64 d.limit, .slice q.vo d.votes.length q.vc, .slice q.po d.peers.length q.pc] := by rw [← hVL]; exact whole_block R8.out _
    have BL : Hid (Below w.heap.size w VL) := by rw [← hVL]; exact below_setRow B8.out (by omega) _
    have CRL : Hid (_) := hid (row_ext CR8.out fun g cs h9 => whole_other h9 (by intro q9; rw [← q9] at h9; exact absurd (block_one h9 R8.out).1 (by decide)) #[.int .i64 d.id, .int .i64 d.term, .int .i64 d.vote, .int .i64 d.role, .int .i64 d.lead, .slice ca T.length cb, .int .i64 x, .int .i64 R, .slice vo S.length vd, .int .i64 d.commit, .int .i64 d.clock, .int .i64 d.limit, .slice q.vo d.votes.length q.vc, .slice q.po d.peers.length q.pc])
    have VRL : Hid (_) := hid (row_ext VR8.out fun g cs h9 => whole_other h9 (by intro q9; rw [← q9] at h9; exact absurd (block_one h9 R8.out).1 (by decide)) #[.int .i64 d.id, .int .i64 d.term, .int .i64 d.vote, .int .i64 d.role, .int .i64 d.lead, .slice ca T.length cb, .int .i64 x, .int .i64 R, .slice vo S.length vd, .int .i64 d.commit, .int .i64 d.clock, .int .i64 d.limit, .slice q.vo d.votes.length q.vc, .slice q.po d.peers.length q.pc])
    have PRL : Hid (_) := hid (row_ext PR8.out fun g cs h9 => whole_other h9 (by intro q9; rw [← q9] at h9; exact absurd (block_one h9 R8.out).1 (by decide)) #[.int .i64 d.id, .int .i64 d.term, .int .i64 d.vote, .int .i64 d.role, .int .i64 d.lead, .slice ca T.length cb, .int .i64 x, .int .i64 R, .slice vo S.length vd, .int .i64 d.commit, .int .i64 d.clock, .int .i64 d.limit, .slice q.vo d.votes.length q.vc, .slice q.po d.peers.length q.pc])
    have EL := hid (ents_whole E8.out R8.out (by decide) #[.int .i64 d.id, .int .i64 d.term, .int .i64 d.vote, .int .i64 d.role, .int .i64 d.lead, .slice ca T.length cb, .int .i64 x, .int .i64 R, .slice vo S.length vd, .int .i64 d.commit, .int .i64 d.clock, .int .i64 d.limit, .slice q.vo d.votes.length q.vc, .slice q.po d.peers.length q.pc])
    rw [hVL] at CRL VRL PRL EL
    have r0 := KL.cell (j := 0) rfl
    have r1 := KL.cell (j := 1) rfl
    have r2 := KL.cell (j := 2) rfl
    have r3 := KL.cell (j := 3) rfl
    have r4 := KL.cell (j := 4) rfl
    have r5 := KL.cell (j := 5) rfl
    have r6 := KL.cell (j := 6) rfl
    have r7 := KL.cell (j := 7) rfl
    have r8 := KL.cell (j := 8) rfl
    have r9 := KL.cell (j := 9) rfl
    have r10 := KL.cell (j := 10) rfl
    have r11 := KL.cell (j := 11) rfl
    have r12 := KL.cell (j := 12) rfl
    have r13 := KL.cell (j := 13) rfl
    clear KL Y8 Y7 ow bb7 bb6 b6 b7 X6 bd c6 c7 c8 d6 d7 d8 k6 k7 k8 f6 f7 f8 X5 R5 B5 Y5 CR5 VR5 PR5 E8 CR8 VR8 PR8
    go_wp2_with (first | (refine wpList_load_whole Try.underlying35 node_size Y9.out rfl rfl _ rfl rfl ?_) | (refine wpList_store_whole node_size R8.out rfl rfl _ _ rfl _ rfl rfl rfl (by simp [Value.oneCell']) ?_; rw [hVL]) | fail)
    refine bodyPost_ret (v := .tuple #[.agg #[.int .i64 d.id, .int .i64 d.term, .int .i64 d.vote, .int .i64 d.role, .int .i64 d.lead, .slice ca T.length cb, .int .i64 x, .int .i64 R, .slice vo S.length vd, .int .i64 d.commit, .int .i64 d.clock, .int .i64 d.limit, .slice q.vo d.votes.length q.vc, .slice q.po d.peers.length q.pc], .bool true]) (by simp [results, Try.results5, go_sem, r0, r1, r2, r3, r4, r5, r6, r7, r8, r9, r10, r11, r12, r13]) rfl ?_
    rw [HOK.out, HSD.out, HD.out]
    exact ⟨⟨ca, cb, vo, vd, q.vo, q.vc, q.po, q.pc⟩, rfl, ⟨CRL.out, EL.out, VRL.out, PRL.out, AP.out⟩, BL.out⟩
end Go.Proofs.Ytglibbpigmpanaa

namespace Go.Proofs.Ytglibbpigmpanaa
open Go.RowKit

set_option maxRecDepth 1000000 in
set_option maxHeartbeats 1000000 in
theorem implLogLast_any (s t : Int) (hs : -9223372036854775808 ≤ s ∧ s ≤ 9223372036854775807) (ao : Option Addr) (l : List EntD) (cap : Nat) (hl : l.length ≤ 1048577) (w : World) (ha : EntsAt w ao l) :
    Calls Try.prog 51 #[.agg #[.int .i64 s, .int .i64 t, .slice ao l.length cap]] w fun e w' => e = .returned (.tuple #[.int .i64 (wrap64 (s + l.length)), .int .i64 (lastT t l)]) ∧ Below w.heap.size w w' := by
  have HB := hid (below_more (Below.refl w.heap.size w) (.cells #[.int .i64 s, .int .i64 t, .slice ao l.length cap] 32))
  have hx : BlockIs (w.alloc (.cells #[.int .i64 s, .int .i64 t, .slice ao l.length cap] 32)) w.heap.size 32 [.int .i64 s, .int .i64 t, .slice ao l.length cap] := heap_alloc_new w _
  have hE := ha.on HB.out
  obtain ⟨W, hW⟩ : ∃ W, w.alloc (.cells #[.int .i64 s, .int .i64 t, .slice ao l.length cap] 32) = W := ⟨_, rfl⟩
  rw [hW] at HB hx hE
  have c0 := hx.cell (j := 0) rfl
  have c1 := hx.cell (j := 1) rfl
  have c2 := hx.cell (j := 2) rfl
  clear hx ha
  by_cases h0 : l.length = 0
  · have hl0 : l = [] := List.length_eq_zero_iff.1 h0
    subst hl0
    have hw0 : wrap64 (s + ((([] : List EntD).length : Nat) : Int)) = s := by rw [IntWalk.wrap64_in] <;> simp <;> omega
    rw [hw0]
    clear hw0
    go_enter Try.func51, Try.ntmps51
    go_wp2
    go_quiet (fail)
    go_wp2
    go_ret2
    exact ⟨rfl, below_drewN (below_more (Below.refl _ w) _) _⟩
  · have hne : ¬ (l.length : Int) = 0 := by omega
    obtain ⟨b, off, rfl, hc⟩ := hE (by intro e; rw [e] at h0; simp at h0)
    have hlt : l.length - 1 < l.length := by omega
    obtain ⟨x0, _, _⟩ := hc (l.length - 1) hlt
    have hsub : (l.length : Int) - 1 = ((l.length - 1 : Nat) : Int) := by omega
    have HL := hid (lastT_last t l (by omega))
    clear hc hE
    obtain ⟨tm, htm⟩ : ∃ tm, l[l.length - 1].term = tm := ⟨_, rfl⟩
    rw [htm] at HL x0
    rw [HL.out]
    obtain ⟨N, hN⟩ : ∃ N, l.length = N := ⟨_, rfl⟩
    rw [hN] at hsub c2 hne hlt hW x0 ⊢
    obtain ⟨n, hn⟩ : ∃ n, N - 1 = n := ⟨_, rfl⟩
    rw [hn] at hsub hlt x0
    have hnl : (n : Int) < (N : Int) := by omega
    have hn0 : (0 : Int) ≤ (n : Int) := by omega
    have hwn : IntKind.i64.wrap (n : Int) = (n : Int) := by rw [IntKind.wrap_i64]; omega
    clear hn HL htm hN h0
    go_enter Try.func51, Try.ntmps51
    go_wp2
    go_quiet (fail)
    go_wp2
    go_ret2
    exact ⟨rfl, below_drewN HB.out _⟩
end Go.Proofs.Ytglibbpigmpanaa

namespace Go.Proofs.Ytglibbpigmpanaa
open Go.RowKit Go.Sort

/-- the text by which a place is marked -/
def mtx (m : Nat) : ByteArray := if m = 0 then ⟨#[109, 48]⟩ else ⟨#[109]⟩ ++ ⟨(dd m).toArray⟩

/-- the last figure of m -/
def mdig (m : Nat) : UInt8 := UInt8.ofNat (48 + m % 10)

theorem mark_one (m : Nat) (w : World) :
    (convert 98 9 (.slice (some ⟨w.heap.size, 0, none⟩) 1 1)).run Try.prog (w.alloc (.cells #[.int .u8 (48 + (m : Int) % 10)] 5)) = .ok (.string ⟨#[mdig m]⟩) (w.alloc (.cells #[.int .u8 (48 + (m : Int) % 10)] 5)) := by
  have := run_convert_bytes_back (P := Try.prog) (w.alloc (.cells #[.int .u8 (48 + (m : Int) % 10)] 5)) 98 9 5 ⟨w.heap.size, 0, none⟩ 1 [mdig m] Try.underlying98 Try.underlying5 Try.underlying9
    (by
      intro j hj
      have hj0 : j = 0 := by simpa using hj
      subst hj0
      have e : ((mdig m).toNat : Int) = 48 + (m : Int) % 10 := by unfold mdig; rw [UInt8.toNat_ofNat']; omega
      show (w.alloc (.cells #[.int .u8 (48 + (m : Int) % 10)] 5)).cell? ⟨w.heap.size, 0, none⟩ = some (.int .u8 ((mdig m).toNat : Int))
      rw [e]
      simp)
  exact this

theorem mark_step {n m : Nat} {acc : List UInt8} (hm : 0 < m) (h : dd m ++ acc = dd n) : dd (m / 10) ++ (mdig m :: acc) = dd n := by
  rw [← h, dd_pos hm]
  simp [mdig]

theorem ret_i64 {a b : Int} (h : a = b) : Ending.returned (.int .i64 a) = .returned (.int .i64 b) := by rw [h]

theorem cons_text (x : UInt8) (acc : List UInt8) : (⟨#[x]⟩ : ByteArray) ++ ⟨acc.toArray⟩ = ⟨(x :: acc).toArray⟩ := ByteArray.mk_append_mk [x] acc

theorem ret_mark {a b : List UInt8} (h : a = b) : Ending.returned (.string (⟨#[109]⟩ ++ ⟨a.toArray⟩)) = .returned (.string (⟨#[109]⟩ ++ ⟨b.toArray⟩)) := by rw [h]

set_option maxRecDepth 1000000 in
set_option maxHeartbeats 1000000 in
theorem markText_any (n : Nat) (hn : n < 1000000000000000000) (w : World) :
    Calls Try.prog 75 #[.int .i64 n] w fun e w' => e = .returned (.string (mtx n)) ∧ Below w.heap.size w w' := by
  by_cases h0 : n = 0
  · subst h0
    have e : mtx 0 = ⟨#[109, 48]⟩ := rfl
    rw [e]
    clear e
    go_enter Try.func75, Try.ntmps75
    go_wp2
    go_ret
    exact ⟨rfl, Below.refl _ _⟩
  · have g0 : ¬ (n : Int) ≤ 0 := by omega
    have hdl := dd_len 19 n (by omega)
    have hde : mtx n = ⟨#[109]⟩ ++ ⟨(dd n).toArray⟩ := by unfold mtx; rw [if_neg h0]
    rw [hde]
    clear hde
    go_enter Try.func75, Try.ntmps75
    go_wp2
    go_loopw [0, 3] (fun x t wr => ∃ (m : Nat) (acc : List UInt8), m ≤ n ∧ x = .int .i64 m ∧ t = .string ⟨acc.toArray⟩ ∧ Hid (dd m ++ acc = dd n) ∧ acc.length ≤ 19 ∧ Below w.heap.size w wr) (fun x _ _ => (intOf x).toNat)
    case atStart => exact ⟨n, [], Nat.le_refl _, rfl, rfl, by simp [Hid], by simp, Below.refl _ _⟩
    case round =>
      obtain ⟨m, acc, hm, rfl, rfl, HA, hal, hb⟩ := hrel
      have hsz := hb.size
      by_cases hm0 : 0 < (m : Int)
      · have ht := mark_one m
        have HS := (show Hid _ from mark_step (by omega) HA.out)
        have HL : Hid ((mdig m :: acc).length ≤ 19) := by
          have := congrArg List.length HS.out
          simp only [List.length_append] at this
          show _ ≤ _
          omega
        go_wp2
        go_roundw
        case rel => exact ⟨m / 10, mdig m :: acc, by omega, by go_num, congrArg Value.string (cons_text _ _), HS, HL.out, hb.alloc hb.size _⟩
        case measure => simp [intOf]; omega
      · have HE : Hid (acc = dd n) := by
          have h := HA.out
          have e : m = 0 := by omega
          rw [e, dd_zero] at h
          exact h
        go_wp2
        go_ret
        exact ⟨ret_mark HE.out, hb⟩
end Go.Proofs.Ytglibbpigmpanaa
