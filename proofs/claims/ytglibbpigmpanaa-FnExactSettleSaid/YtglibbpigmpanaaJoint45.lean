/-
  The walk of impl.Settle: what it answers.
-/
import Derived.Test.YtglibbpigmpanaaJoint1
import Derived.Test.YtglibbpigmpanaaJoint28
import Derived.Test.YtglibbpigmpanaaJoint37
import Derived.Test.YtglibbpigmpanaaJoint42
import Derived.Test.YtglibbpigmpanaaJoint43
import Derived.Test.YtglibbpigmpanaaJoint44
import Derived.Deep.RegionWith
namespace Go.Proofs.Ytglibbpigmpanaa
open Go.RowKit Go.Sort

set_option maxRecDepth 1000000 in
set_option maxHeartbeats 4000000 in
theorem implSettle_any (d : NodeD) (p : NodeL) (x : Int) (hx : -9223372036854775808 ≤ x ∧ x ≤ 9223372036854775807) (hs : d.Small) (hf : NodeLies p) (hec : d.ents.length ≤ p.ec) (hem : p.ec ≤ maxLen) (w : World) (ha : NodeAt w d p) :
    Calls Try.prog 7 #[.agg #[.int .i64 d.id, .int .i64 d.term, .int .i64 d.vote, .int .i64 d.role, .int .i64 d.lead, .slice p.co d.conf.length p.cc, .int .i64 d.start, .int .i64 d.sterm, .slice p.eo d.ents.length p.ec, .int .i64 d.commit, .int .i64 d.clock, .int .i64 d.limit, .slice p.vo d.votes.length p.vc, .slice p.po d.peers.length p.pc], .int .i64 x] w fun e w' => setDid (setOk d x) (setR d x) w e w' := by
  have h2 := two_blocks w (.cells #[.int .i64 d.id, .int .i64 d.term, .int .i64 d.vote, .int .i64 d.role, .int .i64 d.lead, .slice p.co d.conf.length p.cc, .int .i64 d.start, .int .i64 d.sterm, .slice p.eo d.ents.length p.ec, .int .i64 d.commit, .int .i64 d.clock, .int .i64 d.limit, .slice p.vo d.votes.length p.vc, .slice p.po d.peers.length p.pc] 35) (.cells #[.int .i64 0, .int .i64 0, .int .i64 0, .int .i64 0, .int .i64 0, .slice none 0 0, .int .i64 0, .int .i64 0, .slice none 0 0, .int .i64 0, .int .i64 0, .int .i64 0, .slice none 0 0, .slice none 0 0] 35)
  obtain ⟨W0, hW0⟩ : ∃ V, (w.alloc (.cells #[.int .i64 d.id, .int .i64 d.term, .int .i64 d.vote, .int .i64 d.role, .int .i64 d.lead, .slice p.co d.conf.length p.cc, .int .i64 d.start, .int .i64 d.sterm, .slice p.eo d.ents.length p.ec, .int .i64 d.commit, .int .i64 d.clock, .int .i64 d.limit, .slice p.vo d.votes.length p.vc, .slice p.po d.peers.length p.pc] 35)).alloc (.cells #[.int .i64 0, .int .i64 0, .int .i64 0, .int .i64 0, .int .i64 0, .slice none 0 0, .int .i64 0, .int .i64 0, .slice none 0 0, .int .i64 0, .int .i64 0, .int .i64 0, .slice none 0 0, .slice none 0 0] 35) = V := ⟨_, rfl⟩
  rw [hW0] at h2
  have X0 : Hid (BlockIs W0 w.heap.size 35 [.int .i64 d.id, .int .i64 d.term, .int .i64 d.vote, .int .i64 d.role, .int .i64 d.lead, .slice p.co d.conf.length p.cc, .int .i64 d.start, .int .i64 d.sterm, .slice p.eo d.ents.length p.ec, .int .i64 d.commit, .int .i64 d.clock, .int .i64 d.limit, .slice p.vo d.votes.length p.vc, .slice p.po d.peers.length p.pc]) := h2.2.2.1
  have R0 : Hid (BlockIs W0 (w.heap.size + 1) 35 [.int .i64 0, .int .i64 0, .int .i64 0, .int .i64 0, .int .i64 0, .slice none 0 0, .int .i64 0, .int .i64 0, .slice none 0 0, .int .i64 0, .int .i64 0, .int .i64 0, .slice none 0 0, .slice none 0 0]) := h2.2.2.2
  have B0 := hid h2.1
  have HA := hid ha
  have HS := hid hs
  have HF := hid hf
  clear h2 ha hs hf
  have CO' := implNodeOk_any d p HS.out W0 (HA.out.on B0.out)
  obtain ⟨okb, hok⟩ : ∃ b, nodeOk d = b := ⟨_, rfl⟩
  rw [hok] at CO'
  have CO := hid CO'
  clear CO'
  go_enter Try.func7, Try.ntmps7
  go_wp2_with (first | (refine wpList_load_whole Try.underlying35 node_size X0.out rfl rfl _ rfl rfl ?_) | fail)
  refine CO.out.mono ?_
  rintro e w1 ⟨rfl, hb⟩
  have X1 := hid (X0.out.on hb X0.out.lt)
  have R1 := hid (R0.out.on hb R0.out.lt)
  have B1 := hid (below_via B0.out hb)
  have c6 := X1.out.cell (j := 6) rfl
  have c9 := X1.out.cell (j := 9) rfl
  clear hb CO X0 R0 B0 hW0
  cases okb with
  | false =>
    have HOK : Hid (setOk d x = false) := (show _ = _ by rw [setOk, hok]; rfl)
    clear hok
    have HR : Hid (setR d x = newD 0 [] 0) := (show _ = _ by rw [setR, HOK.out]; rfl)
    obtain ⟨VL, hVL⟩ : ∃ V, w1.setRow (w.heap.size + 1) #[.int .i64 0, .int .i64 0, .int .i64 0, .int .i64 0, .int .i64 0, .slice none 0 0, .int .i64 0, .int .i64 0, .slice none 0 0, .int .i64 0, .int .i64 0, .int .i64 0, .slice none 0 0, .slice none 0 0] = V := ⟨_, rfl⟩
    have KL : BlockIs VL (w.heap.size + 1) 35 [.int .i64 0, .int .i64 0, .int .i64 0, .int .i64 0, .int .i64 0, .slice none 0 0, .int .i64 0, .int .i64 0, .slice none 0 0, .int .i64 0, .int .i64 0, .int .i64 0, .slice none 0 0, .slice none 0 0] := by rw [← hVL]; exact whole_block R1.out _
    have BL : Hid (Below w.heap.size w VL) := by rw [← hVL]; exact below_setRow B1.out (by omega) _
    have r0 := KL.cell (j := 0) rfl
    have r1 := KL.cell (j := 1) rfl
    have r2 := KL.cell (j := 2) rfl
    have r3 := KL.cell (j := 3) rfl
    have r4 := KL.cell (j := 4) rfl
    have r5 := KL.cell (j := 5) rfl
    have r6 := KL.cell (j := 6) rfl
    have r7 := KL.cell (j := 7) rfl
    have r8 := KL.cell (j := 8) rfl
    have r9 := KL.cell (j := 9) rfl
    have r10 := KL.cell (j := 10) rfl
    have r11 := KL.cell (j := 11) rfl
    have r12 := KL.cell (j := 12) rfl
    have r13 := KL.cell (j := 13) rfl
    clear KL
    go_wp2_with (first | (refine wpList_store_whole node_size R1.out rfl rfl _ _ rfl _ rfl rfl rfl (by simp [Value.oneCell']) ?_; rw [hVL]) | fail)
    refine bodyPost_ret (v := .tuple #[.agg #[.int .i64 0, .int .i64 0, .int .i64 0, .int .i64 0, .int .i64 0, .slice none 0 0, .int .i64 0, .int .i64 0, .slice none 0 0, .int .i64 0, .int .i64 0, .int .i64 0, .slice none 0 0, .slice none 0 0], .bool false]) (by simp [results, Try.results7, go_sem, r0, r1, r2, r3, r4, r5, r6, r7, r8, r9, r10, r11, r12, r13]) rfl ?_
    rw [HOK.out, HR.out]
    exact ⟨⟨none, 0, none, 0, none, 0, none, 0⟩, rfl, setRows_none _ _, BL.out⟩
  | true =>
  by_cases hx1 : x < d.start
  · have HOK : Hid (setOk d x = false) := (show _ = _ by rw [setOk, hok, within_no (by omega)]; rfl)
    clear hok
    have HR : Hid (setR d x = newD 0 [] 0) := (show _ = _ by rw [setR, HOK.out]; rfl)
    obtain ⟨VL, hVL⟩ : ∃ V, w1.setRow (w.heap.size + 1) #[.int .i64 0, .int .i64 0, .int .i64 0, .int .i64 0, .int .i64 0, .slice none 0 0, .int .i64 0, .int .i64 0, .slice none 0 0, .int .i64 0, .int .i64 0, .int .i64 0, .slice none 0 0, .slice none 0 0] = V := ⟨_, rfl⟩
    have KL : BlockIs VL (w.heap.size + 1) 35 [.int .i64 0, .int .i64 0, .int .i64 0, .int .i64 0, .int .i64 0, .slice none 0 0, .int .i64 0, .int .i64 0, .slice none 0 0, .int .i64 0, .int .i64 0, .int .i64 0, .slice none 0 0, .slice none 0 0] := by rw [← hVL]; exact whole_block R1.out _
    have BL : Hid (Below w.heap.size w VL) := by rw [← hVL]; exact below_setRow B1.out (by omega) _
    have r0 := KL.cell (j := 0) rfl
    have r1 := KL.cell (j := 1) rfl
    have r2 := KL.cell (j := 2) rfl
    have r3 := KL.cell (j := 3) rfl
    have r4 := KL.cell (j := 4) rfl
    have r5 := KL.cell (j := 5) rfl
    have r6 := KL.cell (j := 6) rfl
    have r7 := KL.cell (j := 7) rfl
    have r8 := KL.cell (j := 8) rfl
    have r9 := KL.cell (j := 9) rfl
    have r10 := KL.cell (j := 10) rfl
    have r11 := KL.cell (j := 11) rfl
    have r12 := KL.cell (j := 12) rfl
    have r13 := KL.cell (j := 13) rfl
    clear KL
    go_wp2_with (first | (refine wpList_store_whole node_size R1.out rfl rfl _ _ rfl _ rfl rfl rfl (by simp [Value.oneCell']) ?_; rw [hVL]) | fail)
    refine bodyPost_ret (v := .tuple #[.agg #[.int .i64 0, .int .i64 0, .int .i64 0, .int .i64 0, .int .i64 0, .slice none 0 0, .int .i64 0, .int .i64 0, .slice none 0 0, .int .i64 0, .int .i64 0, .int .i64 0, .slice none 0 0, .slice none 0 0], .bool false]) (by simp [results, Try.results7, go_sem, r0, r1, r2, r3, r4, r5, r6, r7, r8, r9, r10, r11, r12, r13]) rfl ?_
    rw [HOK.out, HR.out]
    exact ⟨⟨none, 0, none, 0, none, 0, none, 0⟩, rfl, setRows_none _ _, BL.out⟩
  by_cases hx2 : d.commit < x
  · have HOK : Hid (setOk d x = false) := (show _ = _ by rw [setOk, hok, within_no (by omega)]; rfl)
    clear hok
    have HR : Hid (setR d x = newD 0 [] 0) := (show _ = _ by rw [setR, HOK.out]; rfl)
    obtain ⟨VL, hVL⟩ : ∃ V, w1.setRow (w.heap.size + 1) #[.int .i64 0, .int .i64 0, .int .i64 0, .int .i64 0, .int .i64 0, .slice none 0 0, .int .i64 0, .int .i64 0, .slice none 0 0, .int .i64 0, .int .i64 0, .int .i64 0, .slice none 0 0, .slice none 0 0] = V := ⟨_, rfl⟩
    have KL : BlockIs VL (w.heap.size + 1) 35 [.int .i64 0, .int .i64 0, .int .i64 0, .int .i64 0, .int .i64 0, .slice none 0 0, .int .i64 0, .int .i64 0, .slice none 0 0, .int .i64 0, .int .i64 0, .int .i64 0, .slice none 0 0, .slice none 0 0] := by rw [← hVL]; exact whole_block R1.out _
    have BL : Hid (Below w.heap.size w VL) := by rw [← hVL]; exact below_setRow B1.out (by omega) _
    have r0 := KL.cell (j := 0) rfl
    have r1 := KL.cell (j := 1) rfl
    have r2 := KL.cell (j := 2) rfl
    have r3 := KL.cell (j := 3) rfl
    have r4 := KL.cell (j := 4) rfl
    have r5 := KL.cell (j := 5) rfl
    have r6 := KL.cell (j := 6) rfl
    have r7 := KL.cell (j := 7) rfl
    have r8 := KL.cell (j := 8) rfl
    have r9 := KL.cell (j := 9) rfl
    have r10 := KL.cell (j := 10) rfl
    have r11 := KL.cell (j := 11) rfl
    have r12 := KL.cell (j := 12) rfl
    have r13 := KL.cell (j := 13) rfl
    clear KL
    go_wp2_with (first | (refine wpList_store_whole node_size R1.out rfl rfl _ _ rfl _ rfl rfl rfl (by simp [Value.oneCell']) ?_; rw [hVL]) | fail)
    refine bodyPost_ret (v := .tuple #[.agg #[.int .i64 0, .int .i64 0, .int .i64 0, .int .i64 0, .int .i64 0, .slice none 0 0, .int .i64 0, .int .i64 0, .slice none 0 0, .int .i64 0, .int .i64 0, .int .i64 0, .slice none 0 0, .slice none 0 0], .bool false]) (by simp [results, Try.results7, go_sem, r0, r1, r2, r3, r4, r5, r6, r7, r8, r9, r10, r11, r12, r13]) rfl ?_
    rw [HOK.out, HR.out]
    exact ⟨⟨none, 0, none, 0, none, 0, none, 0⟩, rfl, setRows_none _ _, BL.out⟩
  have hxa : d.start ≤ x := by omega
  have hxb : x ≤ d.commit := by omega
  have HOK : Hid (setOk d x = true) := (show _ = _ by rw [setOk, hok, within_yes hxa hxb]; rfl)
  have hh : nodeHead d = true := by rw [nodeOk, Bool.and_eq_true, Bool.and_eq_true] at hok; exact hok.1.1
  have hcm : d.commit ≤ lastD d := by
    rw [nodeOk_is hh] at hok
    simp only [Bool.and_eq_true, decide_eq_true_eq] at hok
    exact hok.1.1.1.1.2
  obtain ⟨n1, n2, n3, n4, _, _, n7, _⟩ := node_last hh
  have hlg : logOk d.start d.sterm d.ents = true := by have h9 := hh; rw [nodeHead, Bool.and_eq_true, Bool.and_eq_true] at h9; exact h9.2
  have HSD : Hid (setR d x = setD d x) := (show _ = _ by rw [setR, HOK.out]; rfl)
  obtain ⟨m, hm⟩ : ∃ m, m = min d.ents.length (x - d.start).toNat := ⟨_, rfl⟩
  have hml : m ≤ d.ents.length := by omega
  have CC := hid (copiedNode_any d p HS.out HF.out w1 (HA.out.on B1.out))
  have CA' := fun w ha he => implConfAt_any d p x m hm n7 HS.out.conf n1 hxa (by omega) HS.out.ents HF.out.ents hec hem w ha he
  have hct : confIn d.conf (d.ents.take m) = confTo d.conf d.ents m := by rw [conf_both _ _ (fun e h => logOk_each hlg e (List.mem_of_mem_take h)), show (d.ents.take m).length = m by rw [List.length_take]; omega, confTo_take _ _ _ _ (Nat.le_refl _)]
  rw [hct] at CA'
  have CT' := fun w ha => implLogTerm_any d.start d.sterm x p.eo d.ents p.ec (by omega) (by omega) HS.out.ents w ha
  have CB' := fun t w ha => implLogBehind_any d.start d.sterm x t p.eo d.ents p.ec (by omega) (by omega) HS.out.ents HS.out.each hec w ha
  have HD : Hid (setD d x = ⟨d.id, d.term, d.vote, d.role, d.lead, confTo d.conf d.ents m, x, logTerm d.start d.sterm d.ents x, behindAns d.start d.sterm d.ents x (logTerm d.start d.sterm d.ents x), d.commit, d.clock, d.limit, d.votes, d.peers⟩) := (show _ = _ by rw [hm]; rfl)
  obtain ⟨T, hT⟩ : ∃ T, confTo d.conf d.ents m = T := ⟨_, rfl⟩
  obtain ⟨R, hR⟩ : ∃ R, logTerm d.start d.sterm d.ents x = R := ⟨_, rfl⟩
  rw [hT] at CA' HD
  rw [hR] at CT' HD
  obtain ⟨S, hS⟩ : ∃ S, behindAns d.start d.sterm d.ents x R = S := ⟨_, rfl⟩
  have CB := hid (fun w ha => by have h9 := CB' R w ha; rw [hS] at h9; exact h9)
  rw [hS] at HD
  have CA := hid CA'
  have CT := hid CT'
  clear CA' CT' CB' hT hR hS hm hml hlg hok hh hcm n1 n2 n3 n4 n7 hct
  go_wp2_with (first | (refine wpList_load_whole Try.underlying35 node_size X1.out rfl rfl _ rfl rfl ?_) | fail)
  refine CC.out.mono ?_
  rintro e w2 ⟨q, rfl, nr, hb⟩
  have X2 := X1.out.on hb X1.out.lt
  have R2 := R1.out.on hb R1.out.lt
  have B2 := below_via B1.out hb
  have bn := below_more (Below.refl w2.heap.size w2) (.cells #[.int .i64 d.id, .int .i64 d.term, .int .i64 d.vote, .int .i64 d.role, .int .i64 d.lead, .slice q.co d.conf.length q.cc, .int .i64 d.start, .int .i64 d.sterm, .slice q.eo d.ents.length q.ec, .int .i64 d.commit, .int .i64 d.clock, .int .i64 d.limit, .slice q.vo d.votes.length q.vc, .slice q.po d.peers.length q.pc] 35)
  have nn : BlockIs (w2.alloc (.cells #[.int .i64 d.id, .int .i64 d.term, .int .i64 d.vote, .int .i64 d.role, .int .i64 d.lead, .slice q.co d.conf.length q.cc, .int .i64 d.start, .int .i64 d.sterm, .slice q.eo d.ents.length q.ec, .int .i64 d.commit, .int .i64 d.clock, .int .i64 d.limit, .slice q.vo d.votes.length q.vc, .slice q.po d.peers.length q.pc] 35)) w2.heap.size 35 [.int .i64 d.id, .int .i64 d.term, .int .i64 d.vote, .int .i64 d.role, .int .i64 d.lead, .slice q.co d.conf.length q.cc, .int .i64 d.start, .int .i64 d.sterm, .slice q.eo d.ents.length q.ec, .int .i64 d.commit, .int .i64 d.clock, .int .i64 d.limit, .slice q.vo d.votes.length q.vc, .slice q.po d.peers.length q.pc] := heap_alloc_new w2 _
  obtain ⟨U2, hU2⟩ : ∃ V, w2.alloc (.cells #[.int .i64 0, .int .i64 0, .int .i64 0, .int .i64 0, .int .i64 0, .slice none 0 0, .int .i64 0, .int .i64 0, .slice none 0 0, .int .i64 0, .int .i64 0, .int .i64 0, .slice none 0 0, .slice none 0 0] 35) = V := ⟨_, rfl⟩
  have KZ : BlockIs U2 w2.heap.size 35 [.int .i64 0, .int .i64 0, .int .i64 0, .int .i64 0, .int .i64 0, .slice none 0 0, .int .i64 0, .int .i64 0, .slice none 0 0, .int .i64 0, .int .i64 0, .int .i64 0, .slice none 0 0, .slice none 0 0] := by rw [← hU2]; exact heap_alloc_new _ _
  obtain ⟨w3, hw3⟩ : ∃ V, U2.setRow w2.heap.size #[.int .i64 d.id, .int .i64 d.term, .int .i64 d.vote, .int .i64 d.role, .int .i64 d.lead, .slice q.co d.conf.length q.cc, .int .i64 d.start, .int .i64 d.sterm, .slice q.eo d.ents.length q.ec, .int .i64 d.commit, .int .i64 d.clock, .int .i64 d.limit, .slice q.vo d.votes.length q.vc, .slice q.po d.peers.length q.pc] = V := ⟨_, rfl⟩
  have hov : w2.alloc (.cells #[.int .i64 d.id, .int .i64 d.term, .int .i64 d.vote, .int .i64 d.role, .int .i64 d.lead, .slice q.co d.conf.length q.cc, .int .i64 d.start, .int .i64 d.sterm, .slice q.eo d.ents.length q.ec, .int .i64 d.commit, .int .i64 d.clock, .int .i64 d.limit, .slice q.vo d.votes.length q.vc, .slice q.po d.peers.length q.pc] 35) = w3 := by rw [← hw3, ← hU2, whole_over]
  rw [hov] at bn nn
  have X3 := hid (X2.on bn X2.lt)
  have R3 := hid (R2.on bn R2.lt)
  have B3 := hid (below_via B2 bn)
  have Y3 := hid nn
  have VR3 := hid (row_ext (row_down nr.votes B1.out.size) fun _ _ h9 => h9.on bn h9.lt)
  have PR3 := hid (row_ext (row_down nr.peers B1.out.size) fun _ _ h9 => h9.on bn h9.lt)
  have hgy : w.heap.size + 1 < w2.heap.size := R2.lt
  clear hb nr X2 R2 B2 bn nn hov X1 R1 B1 CC c6 c9
  go_wp2_with (first | (refine wpList_load_whole Try.underlying35 node_size X3.out rfl rfl _ rfl rfl ?_) | (refine wpList_store_whole node_size KZ rfl rfl _ _ rfl _ rfl rfl rfl (by simp [Value.oneCell']) ?_; rw [hw3]) | fail)
  refine (CA.out _ (HA.out.on B3.out).conf (HA.out.on B3.out).ents).mono ?_
  rintro e w4 ⟨ca, cb, rfl, ho, hb⟩
  have X4 := X3.out.on hb X3.out.lt
  have R4 := R3.out.on hb R3.out.lt
  have B4 := below_via B3.out hb
  have Y4 := Y3.out.on hb Y3.out.lt
  have AP : Hid (∀ g, (Value.slice ca T.length cb).ownBlock = some g → (Value.slice q.vo d.votes.length q.vc).ownBlock ≠ some g) := fun g h1 h2 => by obtain ⟨_, _, h3⟩ := row_block ho h1; obtain ⟨_, h4, _⟩ := row_block VR3.out h2; have := h4.lt; omega
  have k5 := Y4.cell (j := 5) rfl
  have f5 := Y4.thaw 5
  have X5 := hid (X4.far (b := w2.heap.size) (j := 5) (by omega) (.slice ca T.length cb))
  have R5 := hid (R4.far (b := w2.heap.size) (j := 5) (by omega) (.slice ca T.length cb))
  have B5 := hid (B4.setCell (p := ⟨w2.heap.size, 5, none⟩) (by show _ ≤ w2.heap.size; omega) (.slice ca T.length cb))
  have Y5 := hid (Y4.set 5 (.slice ca T.length cb))
  have CR5 := hid (row_ext (row_down ho B3.out.size) fun g cs h9 => h9.far (by intro q9; rw [← q9] at h9; exact absurd (block_one h9 Y4).1 (by decide)) (.slice ca T.length cb) (b := w2.heap.size) (j := 5))
  have VR5 := hid (row_ext VR3.out fun g cs h9 => (h9.on hb h9.lt).far (by intro q9; rw [← q9] at h9; exact absurd (block_one h9 Y3.out).1 (by decide)) (.slice ca T.length cb) (b := w2.heap.size) (j := 5))
  have PR5 := hid (row_ext PR3.out fun g cs h9 => (h9.on hb h9.lt).far (by intro q9; rw [← q9] at h9; exact absurd (block_one h9 Y3.out).1 (by decide)) (.slice ca T.length cb) (b := w2.heap.size) (j := 5))
  obtain ⟨w5, hw5⟩ : ∃ V, w4.setCell ⟨w2.heap.size, 5, none⟩ (.slice ca T.length cb) = V := ⟨_, rfl⟩
  rw [hw5] at X5 R5 B5 Y5 CR5 VR5 PR5
  clear X4 R4 B4 Y4 ho hb CA X3 R3 B3 Y3 VR3 PR3 KZ hw3 hU2
  have bd : Below w5.heap.size w5 w5.drew := below_drewN (Below.refl _ _) 1
  have BD := hid (below_via B5.out bd)
  have c6 := X5.out.cell (j := 6) rfl
  have c7 := X5.out.cell (j := 7) rfl
  have c8 := X5.out.cell (j := 8) rfl
  go_wp2
  go_region_with (first | (go_at_call 27; refine (CT.out _ (HA.out.on BD.out).ents).mono ?_; rintro e w6 ⟨rfl, b6⟩; have bb6 := below_via bd b6; have X6 := X5.out.on bb6 X5.out.lt; have d6 := X6.cell (j := 6) rfl; have d7 := X6.cell (j := 7) rfl; have d8 := X6.cell (j := 8) rfl) | (go_at_call 26; refine (CB.out _ (HA.out.on (below_via B5.out bb6)).ents).mono ?_; rintro e w7 ⟨vo, vd, rfl, ow, b7⟩; have bb7 := below_via bb6 b7; have Y7 := Y5.out.on bb7 Y5.out.lt; have k6 := Y7.cell (j := 6) rfl; have k7 := Y7.cell (j := 7) rfl; have k8 := Y7.cell (j := 8) rfl; have f6 := Y7.thaw 6; have f7 := Y7.thaw 7; have f8 := Y7.thaw 8))
  all_goals
    have R8 := hid ((((R5.out.on bb7 R5.out.lt).far (b := w2.heap.size) (j := 6) (by omega) (.int .i64 x)).far (b := w2.heap.size) (j := 7) (by omega) (.int .i64 R)).far (b := w2.heap.size) (j := 8) (by omega) (.slice vo S.length vd))
    have Y8 := hid (((Y7.set 6 (.int .i64 x)).set 7 (.int .i64 R)).set 8 (.slice vo S.length vd))
    have B8 := hid ((((below_via B5.out bb7).setCell (p := ⟨w2.heap.size, 6, none⟩) (by show _ ≤ w2.heap.size; omega) (.int .i64 x)).setCell (p := ⟨w2.heap.size, 7, none⟩) (by show _ ≤ w2.heap.size; omega) (.int .i64 R)).setCell (p := ⟨w2.heap.size, 8, none⟩) (by show _ ≤ w2.heap.size; omega) (.slice vo S.length vd))
    have CR8 := hid (row_ext CR5.out fun g cs h9 => (((h9.on bb7 h9.lt).far (b := w2.heap.size) (j := 6) (by intro q9; rw [← q9] at h9; exact absurd (block_one h9 Y5.out).1 (by decide)) (.int .i64 x)).far (b := w2.heap.size) (j := 7) (by intro q9; rw [← q9] at h9; exact absurd (block_one h9 Y5.out).1 (by decide)) (.int .i64 R)).far (b := w2.heap.size) (j := 8) (by intro q9; rw [← q9] at h9; exact absurd (block_one h9 Y5.out).1 (by decide)) (.slice vo S.length vd))
    have VR8 := hid (row_ext VR5.out fun g cs h9 => (((h9.on bb7 h9.lt).far (b := w2.heap.size) (j := 6) (by intro q9; rw [← q9] at h9; exact absurd (block_one h9 Y5.out).1 (by decide)) (.int .i64 x)).far (b := w2.heap.size) (j := 7) (by intro q9; rw [← q9] at h9; exact absurd (block_one h9 Y5.out).1 (by decide)) (.int .i64 R)).far (b := w2.heap.size) (j := 8) (by intro q9; rw [← q9] at h9; exact absurd (block_one h9 Y5.out).1 (by decide)) (.slice vo S.length vd))
    have PR8 := hid (row_ext PR5.out fun g cs h9 => (((h9.on bb7 h9.lt).far (b := w2.heap.size) (j := 6) (by intro q9; rw [← q9] at h9; exact absurd (block_one h9 Y5.out).1 (by decide)) (.int .i64 x)).far (b := w2.heap.size) (j := 7) (by intro q9; rw [← q9] at h9; exact absurd (block_one h9 Y5.out).1 (by decide)) (.int .i64 R)).far (b := w2.heap.size) (j := 8) (by intro q9; rw [← q9] at h9; exact absurd (block_one h9 Y5.out).1 (by decide)) (.slice vo S.length vd))
    have E8 := hid (ents_far3 (OwnAt.down ow (below_via B5.out bb6).size (Nat.le_refl _)) Y7 (.int .i64 x) (.int .i64 R) (.slice vo S.length vd))
    obtain ⟨w8, hw8⟩ : ∃ V, ((w7.setCell ⟨w2.heap.size, 6, none⟩ (.int .i64 x)).setCell ⟨w2.heap.size, 7, none⟩ (.int .i64 R)).setCell ⟨w2.heap.size, 8, none⟩ (.slice vo S.length vd) = V := ⟨_, rfl⟩
    rw [hw8] at R8 Y8 B8 CR8 VR8 PR8 E8 ⊢
    have Y9 : Hid (BlockIs w8 w2.heap.size 35 [.int .i64 d.id, .int .i64 d.term, .int .i64 d.vote, .int .i64 d.role, .int .i64 d.lead, .slice ca T.length cb, .int .i64 x, .int .i64 R, .slice vo S.length vd, .int .i64 d.commit, .int .i64 d.clock, .int .i64 d.limit, .slice q.vo d.votes.length q.vc, .slice q.po d.peers.length q.pc]) := Y8.out
    obtain ⟨VL, hVL⟩ : ∃ V, w8.setRow (w.heap.size + 1) #[.int .i64 d.id, .int .i64 d.term, .int .i64 d.vote, .int .i64 d.role, .int .i64 d.lead, .slice ca T.length cb, .int .i64 x, .int .i64 R, .slice vo S.length vd, .int .i64 d.commit, .int .i64 d.clock, .int .i64 d.limit, .slice q.vo d.votes.length q.vc, .slice q.po d.peers.length q.pc] = V := ⟨_, rfl⟩
    have KL : BlockIs VL (w.heap.size + 1) 35 [.int .i64 d.id, .int .i64 d.term, .int .i64 d.vote, .int .i64 d.role, .int .i64 d.lead, .slice ca T.length cb, .int .i64 x, .int .i64 R, .slice vo S.length vd, .int .i64 d.commit, .int .i64 d.clock, .int .i64 d.limit, .slice q.vo d.votes.length q.vc, .slice q.po d.peers.length q.pc] := by rw [← hVL]; exact whole_block R8.out _
    have BL : Hid (Below w.heap.size w VL) := by rw [← hVL]; exact below_setRow B8.out (by omega) _
    have CRL : Hid (_) := hid (row_ext CR8.out fun g cs h9 => whole_other h9 (by intro q9; rw [← q9] at h9; exact absurd (block_one h9 R8.out).1 (by decide)) #[.int .i64 d.id, .int .i64 d.term, .int .i64 d.vote, .int .i64 d.role, .int .i64 d.lead, .slice ca T.length cb, .int .i64 x, .int .i64 R, .slice vo S.length vd, .int .i64 d.commit, .int .i64 d.clock, .int .i64 d.limit, .slice q.vo d.votes.length q.vc, .slice q.po d.peers.length q.pc])
    have VRL : Hid (_) := hid (row_ext VR8.out fun g cs h9 => whole_other h9 (by intro q9; rw [← q9] at h9; exact absurd (block_one h9 R8.out).1 (by decide)) #[.int .i64 d.id, .int .i64 d.term, .int .i64 d.vote, .int .i64 d.role, .int .i64 d.lead, .slice ca T.length cb, .int .i64 x, .int .i64 R, .slice vo S.length vd, .int .i64 d.commit, .int .i64 d.clock, .int .i64 d.limit, .slice q.vo d.votes.length q.vc, .slice q.po d.peers.length q.pc])
    have PRL : Hid (_) := hid (row_ext PR8.out fun g cs h9 => whole_other h9 (by intro q9; rw [← q9] at h9; exact absurd (block_one h9 R8.out).1 (by decide)) #[.int .i64 d.id, .int .i64 d.term, .int .i64 d.vote, .int .i64 d.role, .int .i64 d.lead, .slice ca T.length cb, .int .i64 x, .int .i64 R, .slice vo S.length vd, .int .i64 d.commit, .int .i64 d.clock, .int .i64 d.limit, .slice q.vo d.votes.length q.vc, .slice q.po d.peers.length q.pc])
    have EL := hid (ents_whole E8.out R8.out (by decide) #[.int .i64 d.id, .int .i64 d.term, .int .i64 d.vote, .int .i64 d.role, .int .i64 d.lead, .slice ca T.length cb, .int .i64 x, .int .i64 R, .slice vo S.length vd, .int .i64 d.commit, .int .i64 d.clock, .int .i64 d.limit, .slice q.vo d.votes.length q.vc, .slice q.po d.peers.length q.pc])
    rw [hVL] at CRL VRL PRL EL
    have r0 := KL.cell (j := 0) rfl
    have r1 := KL.cell (j := 1) rfl
    have r2 := KL.cell (j := 2) rfl
    have r3 := KL.cell (j := 3) rfl
    have r4 := KL.cell (j := 4) rfl
    have r5 := KL.cell (j := 5) rfl
    have r6 := KL.cell (j := 6) rfl
    have r7 := KL.cell (j := 7) rfl
    have r8 := KL.cell (j := 8) rfl
    have r9 := KL.cell (j := 9) rfl
    have r10 := KL.cell (j := 10) rfl
    have r11 := KL.cell (j := 11) rfl
    have r12 := KL.cell (j := 12) rfl
    have r13 := KL.cell (j := 13) rfl
    clear KL Y8 Y7 ow bb7 bb6 b6 b7 X6 bd c6 c7 c8 d6 d7 d8 k6 k7 k8 f6 f7 f8 X5 R5 B5 Y5 CR5 VR5 PR5 E8 CR8 VR8 PR8
    go_wp2_with (first | (refine wpList_load_whole Try.underlying35 node_size Y9.out rfl rfl _ rfl rfl ?_) | (refine wpList_store_whole node_size R8.out rfl rfl _ _ rfl _ rfl rfl rfl (by simp [Value.oneCell']) ?_; rw [hVL]) | fail)
    refine bodyPost_ret (v := .tuple #[.agg #[.int .i64 d.id, .int .i64 d.term, .int .i64 d.vote, .int .i64 d.role, .int .i64 d.lead, .slice ca T.length cb, .int .i64 x, .int .i64 R, .slice vo S.length vd, .int .i64 d.commit, .int .i64 d.clock, .int .i64 d.limit, .slice q.vo d.votes.length q.vc, .slice q.po d.peers.length q.pc], .bool true]) (by simp [results, Try.results7, go_sem, r0, r1, r2, r3, r4, r5, r6, r7, r8, r9, r10, r11, r12, r13]) rfl ?_
    rw [HOK.out, HSD.out, HD.out]
    exact ⟨⟨ca, cb, vo, vd, q.vo, q.vc, q.po, q.pc⟩, rfl, ⟨CRL.out, EL.out, VRL.out, PRL.out, AP.out⟩, BL.out⟩
end Go.Proofs.Ytglibbpigmpanaa
