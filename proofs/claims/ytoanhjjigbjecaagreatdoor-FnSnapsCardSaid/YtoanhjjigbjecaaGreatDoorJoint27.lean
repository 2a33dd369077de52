/-
  The walk of spec.DoAct: a file is moved.
  The walk of spec.DoAct at every act.
-/
import Derived.Test.YtoanhjjigbjecaaGreatDoorJoint26
namespace Go.Proofs.YtoanhjjigbjecaaGreatDoor
open Go.RowKit

set_option maxRecDepth 1000000 in
set_option maxHeartbeats 4000000 in
theorem specMove_any (ao : Option Addr) (l : List FileD) (cap : Nat) (name to : ByteArray) (hd : diskOk l = true) (hn : nameOk name = true) (w : World) (ha : FilesAt w ao l) :
    Calls Tryz.prog 39 #[.agg #[.slice ao l.length cap], .agg #[.int .i64 3, .string name, .string ByteArray.empty, .string to]] w fun e w' => ∃ va vc, e = .returned (.tuple #[.agg #[.slice va (doAns l ⟨3, name, ByteArray.empty, to⟩).1.length vc], .bool (doAns l ⟨3, name, ByteArray.empty, to⟩).2]) ∧ OwnAt w' 61 (fileCells (doAns l ⟨3, name, ByteArray.empty, to⟩).1) (doAns l ⟨3, name, ByteArray.empty, to⟩).1.length va w.heap.size w'.heap.size ∧ Below w.heap.size w w' := by
  have HA := hid ha
  have hl : l.length ≤ 30 := (diskOk_iff.1 hd).1
  have h3 := three_boxes w (.cells #[.slice ao l.length cap] 26) (.cells #[.int .i64 3, .string name, .string ByteArray.empty, .string to] 74) (.cells #[.slice none 0 0] 26)
  have H3 := hid h3
  clear h3 ha
  obtain ⟨W0, hW0⟩ : ∃ W0, ((w.alloc (.cells #[.slice ao l.length cap] 26)).alloc (.cells #[.int .i64 3, .string name, .string ByteArray.empty, .string to] 74)).alloc (.cells #[.slice none 0 0] 26) = W0 := ⟨_, rfl⟩
  rw [hW0] at H3
  have X0 : Hid (BlockIs W0 w.heap.size 26 [.slice ao l.length cap] ∧ BlockIs W0 (w.heap.size + 1) 74 [.int .i64 3, .string name, .string ByteArray.empty, .string to] ∧ BlockIs W0 (w.heap.size + 1 + 1) 26 [.slice none 0 0]) := H3.out.2.2
  have c0 := X0.out.1.cell (j := 0) rfl
  have C := hid (fun w ha => specDiskOk_any ao l cap (by omega) w ha)
  rw [hd] at C
  have cN' := fun w => l03Name_any name w
  rw [hn] at cN'
  have cN := hid cN'
  have cAt := hid (fun w ha => l03At_any ao l cap name (by omega) w ha)
  have HD := hid hd
  have HN := hid hn
  clear cN' hd hn
  go_enter Tryz.func39, Tryz.ntmps39
  go_wp2_with fail
  refine (C.out W0 (HA.out.on H3.out.1)).mono ?_
  rintro e w1 ⟨rfl, b1⟩
  have B1 := hid (below_via H3.out.1 b1)
  have X1 := hid (And.intro (X0.out.1.on b1 X0.out.1.lt) (And.intro (X0.out.2.1.on b1 X0.out.2.1.lt) (X0.out.2.2.on b1 X0.out.2.2.lt)))
  have a0 := X1.out.2.1.cell (j := 0) rfl
  have a1 := X1.out.2.1.cell (j := 1) rfl
  have a2 := X1.out.2.1.cell (j := 2) rfl
  have a3 := X1.out.2.1.cell (j := 3) rfl
  have d0 := X1.out.1.cell (j := 0) rfl
  clear b1 C H3 X0 c0 hW0 W0
  go_wp2_with fail
  refine (cN.out _).mono ?_
  rintro e w' ⟨rfl, hw⟩
  rw [hw]
  clear hw w' cN
  go_wp2_with fail
  refine (cAt.out _ (HA.out.on B1.out)).mono ?_
  rintro e w2 ⟨hor, b2⟩
  have B2 := hid (below_via B1.out b2)
  have X2 := hid (And.intro (X1.out.1.on b2 X1.out.1.lt) (And.intro (X1.out.2.1.on b2 X1.out.2.1.lt) (X1.out.2.2.on b2 X1.out.2.2.lt)))
  clear b2 cAt B1 X1 a0 a1 a2 a3 d0
  have a0 := X2.out.2.1.cell (j := 0) rfl
  have a1 := X2.out.2.1.cell (j := 1) rfl
  have a2 := X2.out.2.1.cell (j := 2) rfl
  have a3 := X2.out.2.1.cell (j := 3) rfl
  have d0 := X2.out.1.cell (j := 0) rfl
  have r0 := X2.out.2.2.cell (j := 0) rfl
  have s0 := X2.out.2.2.thaw 0
  rcases hor with ⟨k, hfirst, rfl⟩ | ⟨hnone, rfl⟩
  · have hk := hfirst.1
    have hk' : (k : Int) < (l.length : Int) := by omega
    have hk0 : (0 : Int) ≤ (k : Int) := by omega
    have hk1 : ¬ (k : Int) < 0 := by omega
    have htk : l[k].text.size ≤ 20000 := (diskOk_kept HD.out hk).2.2
    have hne : l ≠ [] := by intro e; rw [e] at hk; simp at hk
    obtain ⟨b, off, rfl, hc⟩ := HA.out.on B2.out hne
    obtain ⟨x0', x1', x2'⟩ := hc k hk
    have hbF := below_more (Below.refl w2.heap.size w2) (.cells #[.string name, .string ⟨#[]⟩, .int .i64 0] 61)
    have x0 := (hbF.cell (p := ⟨b, off + k * 3, none⟩) (World.block_lt_of_cell? w2 _ x0')).trans x0'
    have x1 := (hbF.cell (p := ⟨b, off + k * 3 + 1, none⟩) (World.block_lt_of_cell? w2 _ x1')).trans x1'
    have x2 := (hbF.cell (p := ⟨b, off + k * 3 + 2, none⟩) (World.block_lt_of_cell? w2 _ x2')).trans x2'
    have d1 := (hbF.cell (p := ⟨w.heap.size, 0, none⟩) (World.block_lt_of_cell? w2 _ d0)).trans d0
    have HFD : Hid (foundOf l name = some l[k]) := found_some hfirst
    have HNM : Hid (l[k].name = name) := hfirst.2.1
    have p1 := a1
    clear hc x0' x1' x2' hbF d0 a0 a1 a2 a3 r0 s0 hfirst
    obtain ⟨Wa, hWa⟩ : ∃ Wa, (w2.alloc (.cells #[.string l[k].name, .string l[k].text, .int .i64 l[k].kept] 61)).alloc (.cells #[.slice none 0 0] 26) = Wa := ⟨_, rfl⟩
    have Ya : Hid (ActIn w w2.heap.size (.slice (some ⟨b, off, none⟩) l.length cap) [.int .i64 3, .string name, .string ByteArray.empty, .string to] l[k] (.slice none 0 0) Wa) := by rw [← hWa]; exact hid (ActIn.start B2.out X2.out l[k] (.slice none 0 0))
    obtain ⟨W3, hW3⟩ : ∃ W3, Wa.setCell ⟨w2.heap.size + 1, 0, none⟩ (.slice none 0 0) = W3 := ⟨_, rfl⟩
    have Y3 := hid (Ya.out.setOut (.slice none 0 0))
    rw [hW3] at Y3
    obtain ⟨-, -, -, -, -, -, -, -, -, ya0, -, -, ya1⟩ := Ya.out.cells
    obtain ⟨d0, a0, a1, a2, a3, r0, f0, f1, f2, o0, s0, ⟨t0, t1, t2⟩, u0⟩ := Y3.out.cells
    clear Ya
    cases hcond' : (decide (l[k].kept < (l[k].text.size : Int)) || to.toList == name.toList || !nameOk to) with
    | true =>
      have hcond : (decide (l[k].kept < (l[k].text.size : Int)) || to.toList == name.toList || !nameOk to) = true := hcond'
      have HC := hid hcond
      by_cases h1 : l[k].kept < (l[k].text.size : Int)
      · clear hcond hcond'
        have hfin := hid (show doAns l ⟨3, name, ByteArray.empty, to⟩ = ([], false) from doAns_no (by unfold doTry; rw [if_neg (by simp), HFD.out]; dsimp only; rw [if_neg (by simp), if_pos rfl, if_pos (by exact HC.out)]))
        have HB := hid (Y3.out.below.setCell (p := ⟨w.heap.size + 1 + 1, 0, none⟩) (by show _ ≤ _ + 1 + 1; omega) (.slice none 0 0))
        go_wp2
        refine bodyPost_ret (v := .tuple #[.agg #[.slice none 0 0], .bool false]) (by simp [results, Tryz.results39, go_sem, r0]) rfl ?_
        rw [hfin.out]
        exact ⟨none, 0, rfl, Or.inl rfl, HB.out⟩

      · cases h2 : (to.toList == name.toList) with
        | true =>
          clear hcond hcond'
          have hfin := hid (show doAns l ⟨3, name, ByteArray.empty, to⟩ = ([], false) from doAns_no (by unfold doTry; rw [if_neg (by simp), HFD.out]; dsimp only; rw [if_neg (by simp), if_pos rfl, if_pos (by exact HC.out)]))
          have HB := hid (Y3.out.below.setCell (p := ⟨w.heap.size + 1 + 1, 0, none⟩) (by show _ ≤ _ + 1 + 1; omega) (.slice none 0 0))
          go_wp2
          refine bodyPost_ret (v := .tuple #[.agg #[.slice none 0 0], .bool false]) (by simp [results, Tryz.results39, go_sem, r0]) rfl ?_
          rw [hfin.out]
          exact ⟨none, 0, rfl, Or.inl rfl, HB.out⟩

        | false =>
          have h3 : nameOk to = false := by rw [h2] at hcond; simp [h1] at hcond; exact hcond
          have cT' := fun w => l03Name_any to w
          rw [h3] at cT'
          have cT := hid cT'
          clear cT' h3 hcond hcond'
          go_wp2_with fail
          refine (cT.out _).mono ?_
          rintro e w' ⟨rfl, hw⟩
          rw [hw]
          clear hw w' cT
          have hfin := hid (show doAns l ⟨3, name, ByteArray.empty, to⟩ = ([], false) from doAns_no (by unfold doTry; rw [if_neg (by simp), HFD.out]; dsimp only; rw [if_neg (by simp), if_pos rfl, if_pos (by exact HC.out)]))
          have HB := hid (Y3.out.below.setCell (p := ⟨w.heap.size + 1 + 1, 0, none⟩) (by show _ ≤ _ + 1 + 1; omega) (.slice none 0 0))
          go_wp2
          refine bodyPost_ret (v := .tuple #[.agg #[.slice none 0 0], .bool false]) (by simp [results, Tryz.results39, go_sem, r0]) rfl ?_
          rw [hfin.out]
          exact ⟨none, 0, rfl, Or.inl rfl, HB.out⟩

    | false =>
      have hcond : ¬ (decide (l[k].kept < (l[k].text.size : Int)) || to.toList == name.toList || !nameOk to) = true := by rw [hcond']; simp
      clear hcond'
      have HC := hid hcond
      clear hcond
      have h1 : decide (l[k].kept < (l[k].text.size : Int)) = false := by have := HC.out; simp at this; simp; omega
      have h1' : ¬ l[k].kept < (l[k].text.size : Int) := by simpa using h1
      have h2 : (to.toList == name.toList) = false := by have := HC.out; simp at this; simp [this]
      have h3 : nameOk to = true := by have := HC.out; simp at this; simp [this]
      have cT' := fun w => l03Name_any to w
      rw [h3] at cT'
      have cT := hid cT'
      clear cT' h3 h1
      obtain ⟨W4, hW4⟩ : ∃ W4, W3.setCell ⟨w2.heap.size, 0, none⟩ (.string to) = W4 := ⟨_, rfl⟩
      have Y4' := hid (Y3.out.setName (to))
      rw [hW4] at Y4'
      obtain ⟨e0, g0, g1, g2, g3, -, e1, e2, e3, -, -, -, -⟩ := Y4'.out.cells
      have CW : Hid (Calls Tryz.prog 75 #[.agg #[(.slice (some ⟨b, off, none⟩) l.length cap)], .string name] W4.drew fun e w3 => ∃ va vc, e = .returned (.agg #[.slice va (filesNot l name).length vc]) ∧ (w3.cell? ⟨w2.heap.size, 0, none⟩ = some (.string to) ∧ w3.cell? ⟨w2.heap.size, 1, none⟩ = some (.string l[k].text) ∧ w3.cell? ⟨w2.heap.size, 2, none⟩ = some (.int .i64 l[k].kept)) ∧ Hid (ActIn w w2.heap.size (.slice (some ⟨b, off, none⟩) l.length cap) [.int .i64 3, .string name, .string ByteArray.empty, .string to] ⟨to, l[k].text, l[k].kept⟩ (.slice none 0 0) w3 ∧ FilesAt w3 va (filesNot l name))) := by
        have hY := Y4'.out.drew
        refine Calls.mono (l03Without_any (some ⟨b, off, none⟩) l cap name (by omega) W4.drew (HA.out.on hY.below)) ?_
        rintro e w3 ⟨v, rfl, hrow, b3⟩
        obtain ⟨va, vc, rfl, hown⟩ := own_of_row hrow
        have hY3 := hY.on b3
        exact ⟨va, vc, rfl, ⟨hY3.file.cell (j := 0) rfl, hY3.file.cell (j := 1) rfl, hY3.file.cell (j := 2) rfl⟩, hY3, hown.files⟩
      have CP : Hid (∀ (w3 : World) (va : Option Addr) (vc : Nat), Hid (ActIn w w2.heap.size (.slice (some ⟨b, off, none⟩) l.length cap) [.int .i64 3, .string name, .string ByteArray.empty, .string to] ⟨to, l[k].text, l[k].kept⟩ (.slice none 0 0) w3 ∧ FilesAt w3 va (filesNot l name)) → Calls Tryz.prog 25 #[.agg #[.slice va (filesNot l name).length vc], .agg #[.string to, .string l[k].text, .int .i64 l[k].kept]] w3 fun e w4 => ∃ vb vd, e = .returned (.agg #[.slice vb (filesPut (filesNot l name) ⟨to, l[k].text, l[k].kept⟩).length vd]) ∧ w4.cell? ⟨w2.heap.size + 1, 0, none⟩ = some (.slice none 0 0) ∧ w4.frozen? ⟨w2.heap.size + 1, 0, none⟩ = false ∧ Hid (ActIn w w2.heap.size (.slice (some ⟨b, off, none⟩) l.length cap) [.int .i64 3, .string name, .string ByteArray.empty, .string to] ⟨to, l[k].text, l[k].kept⟩ (.slice none 0 0) w4 ∧ OwnAt w4 61 (fileCells (filesPut (filesNot l name) ⟨to, l[k].text, l[k].kept⟩)) (filesPut (filesNot l name) ⟨to, l[k].text, l[k].kept⟩).length vb (w2.heap.size + 2) w4.heap.size)) := by
        intro w3 va vc H
        have hsm := not_small l name
        refine Calls.mono (l03Put_any va (filesNot l name) vc ⟨to, l[k].text, l[k].kept⟩ (by omega) w3 H.out.2) ?_
        rintro e w4 ⟨v, rfl, hrow, b4⟩
        obtain ⟨vb, vd, rfl, hown⟩ := own_of_row hrow
        have hY4 := H.out.1.on b4
        exact ⟨vb, vd, rfl, hY4.out.cell (j := 0) rfl, hY4.out.thaw 0, hY4, hown.down (by have := H.out.1.out.lt; omega) (Nat.le_refl _)⟩
      go_wp2_with fail
      refine (cT.out _).mono ?_
      rintro e w' ⟨rfl, hw⟩
      rw [hw]
      clear hw w' cT
      go_wp2
      go_region_with (first | (go_at_call 75; refine Calls.mono CW.out ?_; rintro e w3 ⟨va, vc, rfl, ⟨m0, m1, m2⟩, H3⟩) | (go_at_call 25; refine Calls.mono (CP.out _ _ _ H3) ?_; rintro e w4 ⟨vb, vd, rfl, m3, m4, H4⟩))
      all_goals
        clear m0 m1 m2 m3 m4
        have Y4 := hid H4.out.1
        have hown := H4.out.2
        obtain ⟨o, ho⟩ : ∃ o, filesPut (filesNot l name) ⟨to, l[k].text, l[k].kept⟩ = o := ⟨_, rfl⟩
        rw [ho] at hown ⊢
        obtain ⟨W5, hW5⟩ : ∃ W5, w4.setCell ⟨w2.heap.size + 1, 0, none⟩ (.slice vb o.length vd) = W5 := ⟨_, rfl⟩
        have Y5 := hid (Y4.out.setOut (.slice vb o.length vd))
        rw [hW5] at Y5
        have Q5 : Hid (OwnAt W5 61 (fileCells o) o.length vb w.heap.size W5.heap.size) := by
          rw [← hW5]
          have := Y4.out.far
          exact hid ((hown.farD (by omega) _).down (by omega) (by rw [size_setCell]; exact Nat.le_refl _))
        have hol : o.length ≤ 16777216 := by rw [← ho]; exact (by have := put_small (filesNot l name) ⟨to, l[k].text, l[k].kept⟩; have := not_small l name; omega)
        have C5 := hid (specDiskOk_any vb o vd hol W5 Q5.out.files)
        have hfin := hid (doAns_of (show actOk l ⟨3, name, ByteArray.empty, to⟩ = true by simp [actOk, HD.out, HN.out, blank]) (o := filesPut (filesNot l name) ⟨to, l[k].text, l[k].kept⟩) (by unfold doTry; rw [if_neg (by simp), HFD.out]; dsimp only; rw [if_neg (by simp), if_pos rfl, if_neg HC.out]))
        rw [ho] at hfin
        obtain ⟨-, -, -, -, -, -, -, -, -, u4, -, -, u5⟩ := Y4.out.cells
        obtain ⟨-, -, -, -, -, -, -, -, -, u6, -, -, -⟩ := Y5.out.cells
        clear hown Y4 ho CW CP H4 H3 HC Y4' hW4 W4 e0 e1 e2 e3 g0 g1 g2 g3 hW3 Y3 hWa ya0 ya1 d0 a0 a1 a2 a3 r0 f0 f1 f2 o0 s0 t0 t1 t2 u0 p1 x0 x1 x2 d1
        rw [hW5]
        go_wp2_with fail
        refine Calls.mono C5.out ?_
        rintro e w6 ⟨rfl, b6⟩
        have Y6 := hid (Y5.out.on b6)
        have Q6 := hid (Q5.out.on b6)
        have hs6 := b6.size
        obtain ⟨-, -, -, -, -, q0, -, -, -, q1, q2, -, -⟩ := Y6.out.cells
        clear b6 C5 Y5 Q5 u4 u5 u6 hW5
        cases hdo : diskOk o with
        | true =>
          have HB := hid (Y6.out.below.setCell (p := ⟨w.heap.size + 1 + 1, 0, none⟩) (by show _ ≤ _ + 1 + 1; omega) (.slice vb o.length vd))
          have HO := hid (And.intro Q6.out Y6.out.far)
          have HDO := hid hdo
          have HR := hid Y6.out.res
          clear Y6 Q6 hdo
          go_wp2
          refine bodyPost_ret (v := .tuple #[.agg #[.slice vb o.length vd], .bool true]) (by simp [results, Tryz.results39, go_sem, q0]) rfl ?_
          rw [hfin.out, endAns, if_pos HDO.out]
          refine ⟨vb, vd, rfl, ?_, HB.out⟩
          exact own_ret HO.out.1 HR.out hs6 (by decide)
        | false =>
          have HB := hid (Y6.out.below.setCell (p := ⟨w.heap.size + 1 + 1, 0, none⟩) (by show _ ≤ _ + 1 + 1; omega) (.slice none 0 0))
          have HDO := hid hdo
          clear Y6 Q6 hdo
          go_wp2
          refine bodyPost_ret (v := .tuple #[.agg #[.slice none 0 0], .bool false]) (by simp [results, Tryz.results39, go_sem, q0]) rfl ?_
          rw [hfin.out, endAns, if_neg (by rw [HDO.out]; simp)]
          exact ⟨none, 0, rfl, Or.inl rfl, HB.out⟩

  · have HFD : Hid (foundOf l name = none) := found_none hnone
    have p1 := a1
    clear d0 a0 a1 a2 a3 r0 s0 hnone
    obtain ⟨Wa, hWa⟩ : ∃ Wa, (w2.alloc (.cells #[.string name, .string ⟨#[]⟩, .int .i64 0] 61)).alloc (.cells #[.slice none 0 0] 26) = Wa := ⟨_, rfl⟩
    have Ya : Hid (ActIn w w2.heap.size (.slice ao l.length cap) [.int .i64 3, .string name, .string ByteArray.empty, .string to] (⟨name, ⟨#[]⟩, 0⟩ : FileD) (.slice none 0 0) Wa) := by rw [← hWa]; exact hid (ActIn.start B2.out X2.out (⟨name, ⟨#[]⟩, 0⟩ : FileD) (.slice none 0 0))
    obtain ⟨W3, hW3⟩ : ∃ W3, Wa.setCell ⟨w2.heap.size + 1, 0, none⟩ (.slice none 0 0) = W3 := ⟨_, rfl⟩
    have Y3 := hid (Ya.out.setOut (.slice none 0 0))
    rw [hW3] at Y3
    obtain ⟨-, -, -, -, -, -, -, -, -, ya0, -, -, ya1⟩ := Ya.out.cells
    obtain ⟨d0, a0, a1, a2, a3, r0, f0, f1, f2, o0, s0, ⟨t0, t1, t2⟩, u0⟩ := Y3.out.cells
    clear Ya
    have hfin := hid (show doAns l ⟨3, name, ByteArray.empty, to⟩ = ([], false) from doAns_no (by unfold doTry; rw [if_neg (by simp)]; dsimp only; rw [HFD.out]))
    have HB := hid (Y3.out.below.setCell (p := ⟨w.heap.size + 1 + 1, 0, none⟩) (by show _ ≤ _ + 1 + 1; omega) (.slice none 0 0))
    go_wp2
    refine bodyPost_ret (v := .tuple #[.agg #[.slice none 0 0], .bool false]) (by simp [results, Tryz.results39, go_sem, r0]) rfl ?_
    rw [hfin.out]
    exact ⟨none, 0, rfl, Or.inl rfl, HB.out⟩

end Go.Proofs.YtoanhjjigbjecaaGreatDoor

namespace Go.Proofs.YtoanhjjigbjecaaGreatDoor
open Go.RowKit

set_option maxRecDepth 1000000 in
set_option maxHeartbeats 4000000 in
theorem specOther_any (ao : Option Addr) (l : List FileD) (cap : Nat) (name : ByteArray) (hd : diskOk l = true) (hn : nameOk name = true) (kd : Int) (q1 : (kd == 1) = false) (q2 : (kd == 2) = false) (q3 : (kd == 3) = false) (q4 : (kd == 4) = false) (_ : ¬ kd = 1) (_ : ¬ kd = 2) (_ : ¬ kd = 3) (_ : ¬ kd = 4) (w : World) (ha : FilesAt w ao l) :
    Calls Tryz.prog 39 #[.agg #[.slice ao l.length cap], .agg #[.int .i64 kd, .string name, .string ByteArray.empty, .string ByteArray.empty]] w fun e w' => ∃ va vc, e = .returned (.tuple #[.agg #[.slice va (doAns l ⟨kd, name, ByteArray.empty, ByteArray.empty⟩).1.length vc], .bool (doAns l ⟨kd, name, ByteArray.empty, ByteArray.empty⟩).2]) ∧ OwnAt w' 61 (fileCells (doAns l ⟨kd, name, ByteArray.empty, ByteArray.empty⟩).1) (doAns l ⟨kd, name, ByteArray.empty, ByteArray.empty⟩).1.length va w.heap.size w'.heap.size ∧ Below w.heap.size w w' := by
  have HA := hid ha
  have hl : l.length ≤ 30 := (diskOk_iff.1 hd).1
  have h3 := three_boxes w (.cells #[.slice ao l.length cap] 26) (.cells #[.int .i64 kd, .string name, .string ByteArray.empty, .string ByteArray.empty] 74) (.cells #[.slice none 0 0] 26)
  have H3 := hid h3
  clear h3 ha
  obtain ⟨W0, hW0⟩ : ∃ W0, ((w.alloc (.cells #[.slice ao l.length cap] 26)).alloc (.cells #[.int .i64 kd, .string name, .string ByteArray.empty, .string ByteArray.empty] 74)).alloc (.cells #[.slice none 0 0] 26) = W0 := ⟨_, rfl⟩
  rw [hW0] at H3
  have X0 : Hid (BlockIs W0 w.heap.size 26 [.slice ao l.length cap] ∧ BlockIs W0 (w.heap.size + 1) 74 [.int .i64 kd, .string name, .string ByteArray.empty, .string ByteArray.empty] ∧ BlockIs W0 (w.heap.size + 1 + 1) 26 [.slice none 0 0]) := H3.out.2.2
  have c0 := X0.out.1.cell (j := 0) rfl
  have C := hid (fun w ha => specDiskOk_any ao l cap (by omega) w ha)
  rw [hd] at C
  have cN' := fun w => l03Name_any name w
  rw [hn] at cN'
  have cN := hid cN'
  have cAt := hid (fun w ha => l03At_any ao l cap name (by omega) w ha)
  have HD := hid hd
  have HN := hid hn
  clear cN' hd hn
  go_enter Tryz.func39, Tryz.ntmps39
  go_wp2_with fail
  refine (C.out W0 (HA.out.on H3.out.1)).mono ?_
  rintro e w1 ⟨rfl, b1⟩
  have B1 := hid (below_via H3.out.1 b1)
  have X1 := hid (And.intro (X0.out.1.on b1 X0.out.1.lt) (And.intro (X0.out.2.1.on b1 X0.out.2.1.lt) (X0.out.2.2.on b1 X0.out.2.2.lt)))
  have a0 := X1.out.2.1.cell (j := 0) rfl
  have a1 := X1.out.2.1.cell (j := 1) rfl
  have a2 := X1.out.2.1.cell (j := 2) rfl
  have a3 := X1.out.2.1.cell (j := 3) rfl
  have d0 := X1.out.1.cell (j := 0) rfl
  clear b1 C H3 X0 c0 hW0 W0
  go_wp2_with fail
  refine (cN.out _).mono ?_
  rintro e w' ⟨rfl, hw⟩
  rw [hw]
  clear hw w' cN
  go_wp2_with fail
  refine (cAt.out _ (HA.out.on B1.out)).mono ?_
  rintro e w2 ⟨hor, b2⟩
  have B2 := hid (below_via B1.out b2)
  have X2 := hid (And.intro (X1.out.1.on b2 X1.out.1.lt) (And.intro (X1.out.2.1.on b2 X1.out.2.1.lt) (X1.out.2.2.on b2 X1.out.2.2.lt)))
  clear b2 cAt B1 X1 a0 a1 a2 a3 d0
  have a0 := X2.out.2.1.cell (j := 0) rfl
  have a1 := X2.out.2.1.cell (j := 1) rfl
  have a2 := X2.out.2.1.cell (j := 2) rfl
  have a3 := X2.out.2.1.cell (j := 3) rfl
  have d0 := X2.out.1.cell (j := 0) rfl
  have r0 := X2.out.2.2.cell (j := 0) rfl
  have s0 := X2.out.2.2.thaw 0
  rcases hor with ⟨k, hfirst, rfl⟩ | ⟨hnone, rfl⟩
  · have hk := hfirst.1
    have hk' : (k : Int) < (l.length : Int) := by omega
    have hk0 : (0 : Int) ≤ (k : Int) := by omega
    have hk1 : ¬ (k : Int) < 0 := by omega
    have htk : l[k].text.size ≤ 20000 := (diskOk_kept HD.out hk).2.2
    have hne : l ≠ [] := by intro e; rw [e] at hk; simp at hk
    obtain ⟨b, off, rfl, hc⟩ := HA.out.on B2.out hne
    obtain ⟨x0', x1', x2'⟩ := hc k hk
    have hbF := below_more (Below.refl w2.heap.size w2) (.cells #[.string name, .string ⟨#[]⟩, .int .i64 0] 61)
    have x0 := (hbF.cell (p := ⟨b, off + k * 3, none⟩) (World.block_lt_of_cell? w2 _ x0')).trans x0'
    have x1 := (hbF.cell (p := ⟨b, off + k * 3 + 1, none⟩) (World.block_lt_of_cell? w2 _ x1')).trans x1'
    have x2 := (hbF.cell (p := ⟨b, off + k * 3 + 2, none⟩) (World.block_lt_of_cell? w2 _ x2')).trans x2'
    have d1 := (hbF.cell (p := ⟨w.heap.size, 0, none⟩) (World.block_lt_of_cell? w2 _ d0)).trans d0
    have HFD : Hid (foundOf l name = some l[k]) := found_some hfirst
    have HNM : Hid (l[k].name = name) := hfirst.2.1
    have p1 := a1
    clear hc x0' x1' x2' hbF d0 a0 a1 a2 a3 r0 s0 hfirst
    obtain ⟨Wa, hWa⟩ : ∃ Wa, (w2.alloc (.cells #[.string l[k].name, .string l[k].text, .int .i64 l[k].kept] 61)).alloc (.cells #[.slice none 0 0] 26) = Wa := ⟨_, rfl⟩
    have Ya : Hid (ActIn w w2.heap.size (.slice (some ⟨b, off, none⟩) l.length cap) [.int .i64 kd, .string name, .string ByteArray.empty, .string ByteArray.empty] l[k] (.slice none 0 0) Wa) := by rw [← hWa]; exact hid (ActIn.start B2.out X2.out l[k] (.slice none 0 0))
    obtain ⟨W3, hW3⟩ : ∃ W3, Wa.setCell ⟨w2.heap.size + 1, 0, none⟩ (.slice none 0 0) = W3 := ⟨_, rfl⟩
    have Y3 := hid (Ya.out.setOut (.slice none 0 0))
    rw [hW3] at Y3
    obtain ⟨-, -, -, -, -, -, -, -, -, ya0, -, -, ya1⟩ := Ya.out.cells
    obtain ⟨d0, a0, a1, a2, a3, r0, f0, f1, f2, o0, s0, ⟨t0, t1, t2⟩, u0⟩ := Y3.out.cells
    clear Ya
    have hfin := hid (show doAns l ⟨kd, name, ByteArray.empty, ByteArray.empty⟩ = ([], false) from doAns_no (by unfold doTry; rw [if_neg (by simpa using q1)]; dsimp only; rw [HFD.out]; dsimp only; rw [if_neg (by simpa using q2), if_neg (by simpa using q3), if_neg (by simpa using q4)]))
    have HB := hid (Y3.out.below.setCell (p := ⟨w.heap.size + 1 + 1, 0, none⟩) (by show _ ≤ _ + 1 + 1; omega) (.slice none 0 0))
    go_wp2
    refine bodyPost_ret (v := .tuple #[.agg #[.slice none 0 0], .bool false]) (by simp [results, Tryz.results39, go_sem, r0]) rfl ?_
    rw [hfin.out]
    exact ⟨none, 0, rfl, Or.inl rfl, HB.out⟩

  · have HFD : Hid (foundOf l name = none) := found_none hnone
    have p1 := a1
    clear d0 a0 a1 a2 a3 r0 s0 hnone
    obtain ⟨Wa, hWa⟩ : ∃ Wa, (w2.alloc (.cells #[.string name, .string ⟨#[]⟩, .int .i64 0] 61)).alloc (.cells #[.slice none 0 0] 26) = Wa := ⟨_, rfl⟩
    have Ya : Hid (ActIn w w2.heap.size (.slice ao l.length cap) [.int .i64 kd, .string name, .string ByteArray.empty, .string ByteArray.empty] (⟨name, ⟨#[]⟩, 0⟩ : FileD) (.slice none 0 0) Wa) := by rw [← hWa]; exact hid (ActIn.start B2.out X2.out (⟨name, ⟨#[]⟩, 0⟩ : FileD) (.slice none 0 0))
    obtain ⟨W3, hW3⟩ : ∃ W3, Wa.setCell ⟨w2.heap.size + 1, 0, none⟩ (.slice none 0 0) = W3 := ⟨_, rfl⟩
    have Y3 := hid (Ya.out.setOut (.slice none 0 0))
    rw [hW3] at Y3
    obtain ⟨-, -, -, -, -, -, -, -, -, ya0, -, -, ya1⟩ := Ya.out.cells
    obtain ⟨d0, a0, a1, a2, a3, r0, f0, f1, f2, o0, s0, ⟨t0, t1, t2⟩, u0⟩ := Y3.out.cells
    clear Ya
    have hfin := hid (show doAns l ⟨kd, name, ByteArray.empty, ByteArray.empty⟩ = ([], false) from doAns_no (by unfold doTry; rw [if_neg (by simpa using q1)]; dsimp only; rw [HFD.out]))
    have HB := hid (Y3.out.below.setCell (p := ⟨w.heap.size + 1 + 1, 0, none⟩) (by show _ ≤ _ + 1 + 1; omega) (.slice none 0 0))
    go_wp2
    refine bodyPost_ret (v := .tuple #[.agg #[.slice none 0 0], .bool false]) (by simp [results, Tryz.results39, go_sem, r0]) rfl ?_
    rw [hfin.out]
    exact ⟨none, 0, rfl, Or.inl rfl, HB.out⟩


set_option maxRecDepth 1000000 in
set_option maxHeartbeats 4000000 in
theorem specBad_any (ao : Option Addr) (l : List FileD) (cap : Nat) (a : ActD) (hl : l.length ≤ 1048576) (hok : actOk l a = false) (w : World) (ha : FilesAt w ao l) :
    Calls Tryz.prog 39 #[.agg #[.slice ao l.length cap], a.value] w fun e w' => e = .returned (.tuple #[.agg #[.slice none 0 0], .bool false]) ∧ Below w.heap.size w w' := by
  unfold ActD.value
  have HA := hid ha
  have h3 := three_boxes w (.cells #[.slice ao l.length cap] 26) (.cells #[.int .i64 a.kind, .string a.name, .string a.text, .string a.to] 74) (.cells #[.slice none 0 0] 26)
  have H3 := hid h3
  clear h3 ha
  obtain ⟨W0, hW0⟩ : ∃ W0, ((w.alloc (.cells #[.slice ao l.length cap] 26)).alloc (.cells #[.int .i64 a.kind, .string a.name, .string a.text, .string a.to] 74)).alloc (.cells #[.slice none 0 0] 26) = W0 := ⟨_, rfl⟩
  rw [hW0] at H3
  have X0 : Hid (BlockIs W0 w.heap.size 26 [.slice ao l.length cap] ∧ BlockIs W0 (w.heap.size + 1) 74 [.int .i64 a.kind, .string a.name, .string a.text, .string a.to] ∧ BlockIs W0 (w.heap.size + 1 + 1) 26 [.slice none 0 0]) := H3.out.2.2
  have c0 := X0.out.1.cell (j := 0) rfl
  have C' := fun w ha => specDiskOk_any ao l cap (by omega) w ha
  go_enter Tryz.func39, Tryz.ntmps39
  cases hd : diskOk l with
  | false =>
    rw [hd] at C'
    have C := hid C'
    clear C'
    go_wp2_with fail
    refine (C.out W0 (HA.out.on H3.out.1)).mono ?_
    rintro e w1 ⟨rfl, b1⟩
    have B1 := hid ((below_via H3.out.1 b1).setCell (p := ⟨w.heap.size + 1 + 1, 0, none⟩) (by show _ ≤ _ + 1 + 1; omega) (.slice none 0 0))
    have X1 := X0.out.2.2.on b1 X0.out.2.2.lt
    have r0 := X1.cell (j := 0) rfl
    have s0 := X1.thaw 0
    clear b1 C H3 X0 c0 hW0 X1 hd hok
    go_wp2
    refine bodyPost_ret (v := .tuple #[.agg #[.slice none 0 0], .bool false]) (by simp [results, Tryz.results39, go_sem, r0]) rfl ⟨rfl, B1.out⟩
  | true =>
    rw [hd] at C'
    have C := hid C'
    clear C'
    go_wp2_with fail
    refine (C.out W0 (HA.out.on H3.out.1)).mono ?_
    rintro e w1 ⟨rfl, b1⟩
    have B1 := hid ((below_via H3.out.1 b1).setCell (p := ⟨w.heap.size + 1 + 1, 0, none⟩) (by show _ ≤ _ + 1 + 1; omega) (.slice none 0 0))
    have X1 := X0.out.2.2.on b1 X0.out.2.2.lt
    have X2 := X0.out.2.1.on b1 X0.out.2.1.lt
    have r0 := X1.cell (j := 0) rfl
    have s0 := X1.thaw 0
    have a0 := X2.cell (j := 0) rfl
    have a1 := X2.cell (j := 1) rfl
    have a2 := X2.cell (j := 2) rfl
    have a3 := X2.cell (j := 3) rfl
    clear b1 C H3 X0 c0 hW0 X1 X2
    have cN' := fun w => l03Name_any a.name w
    cases hn : nameOk a.name with
    | false =>
      rw [hn] at cN'
      have cN := hid cN'
      clear cN' hd hn hok
      go_wp2_with fail
      refine (cN.out _).mono ?_
      rintro e w' ⟨rfl, hw⟩
      rw [hw]
      clear hw w' cN
      go_wp2
      refine bodyPost_ret (v := .tuple #[.agg #[.slice none 0 0], .bool false]) (by simp [results, Tryz.results39, go_sem, r0]) rfl ⟨rfl, B1.out⟩
    | true =>
      rw [hn] at cN'
      have cN := hid cN'
      clear cN'
      go_wp2_with fail
      refine (cN.out _).mono ?_
      rintro e w' ⟨rfl, hw⟩
      rw [hw]
      clear hw w' cN
      rw [actOk, hd, hn] at hok
      cases h3 : (a.kind == 3) with
      | false =>
        have k3 : ¬ a.kind = 3 := by simpa using h3
        cases hb : (a.to.toList == []) with
        | false =>
          clear hd hn hok
          go_wp2
          refine bodyPost_ret (v := .tuple #[.agg #[.slice none 0 0], .bool false]) (by simp [results, Tryz.results39, go_sem, r0]) rfl ⟨rfl, B1.out⟩
        | true =>
          have h1 : (a.kind == 1) = false := by
            cases h : (a.kind == 1) with
            | false => rfl
            | true => rw [h3, h, blank, hb] at hok; simp at hok
          have k1 : ¬ a.kind = 1 := by simpa using h1
          have hb2 : (a.text.toList == []) = false := by
            cases h : (a.text.toList == []) with
            | false => rfl
            | true => rw [h3, h1, blank, blank, h, hb] at hok; simp at hok
          clear hd hn hok
          go_wp2
          refine bodyPost_ret (v := .tuple #[.agg #[.slice none 0 0], .bool false]) (by simp [results, Tryz.results39, go_sem, r0]) rfl ⟨rfl, B1.out⟩
      | true =>
        have hk3 : a.kind = 3 := by simpa using h3
        have h1 : (a.kind == 1) = false := by rw [hk3]; rfl
        have k1 : ¬ a.kind = 1 := by simpa using h1
        have hb2 : (a.text.toList == []) = false := by
          cases h : (a.text.toList == []) with
          | false => rfl
          | true => rw [h3, blank, blank, h] at hok; simp at hok
        clear hd hn hok
        go_wp2
        refine bodyPost_ret (v := .tuple #[.agg #[.slice none 0 0], .bool false]) (by simp [results, Tryz.results39, go_sem, r0]) rfl ⟨rfl, B1.out⟩

theorem blank_eq {s : ByteArray} (h : blank s = true) : s = ByteArray.empty := by
  rw [blank, beq_iff_eq] at h
  exact text_eq (by rw [h, ByteArray.toList_eq]; rfl)

theorem doAns_small {l : List FileD} {a : ActD} : (doAns l a).1.length ≤ 1048576 := by
  unfold doAns
  split
  · exact Nat.zero_le _
  · rename_i o h
    have := (diskOk_iff.1 (doAct_right h)).1
    show o.length ≤ _
    omega

theorem specDoAct_o (ao : Option Addr) (l : List FileD) (cap : Nat) (a : ActD) (hl : l.length ≤ 1048576) (ht : a.text.size ≤ 1048576) (w : World) (ha : FilesAt w ao l) :
    Calls Tryz.prog 39 #[.agg #[.slice ao l.length cap], a.value] w fun e w' => ∃ va vc, e = .returned (.tuple #[.agg #[.slice va (doAns l a).1.length vc], .bool (doAns l a).2]) ∧ OwnAt w' 61 (fileCells (doAns l a).1) (doAns l a).1.length va w.heap.size w'.heap.size ∧ Below w.heap.size w w' := by
  cases hok : actOk l a with
  | false =>
    refine (specBad_any ao l cap a hl hok w ha).mono ?_
    rintro e w' ⟨rfl, hb⟩
    have : doAns l a = ([], false) := by simp [doAns, doAct, hok]
    rw [this]
    exact ⟨none, 0, rfl, Or.inl rfl, hb⟩
  | true =>
    obtain ⟨kd, name, text, to⟩ := a
    simp only [actOk, Bool.and_eq_true, Bool.or_eq_true, beq_iff_eq] at hok
    obtain ⟨⟨⟨hd, hn⟩, h3⟩, h1⟩ := hok
    unfold ActD.value
    by_cases k1 : kd = 1
    · subst k1
      obtain rfl := blank_eq (h3.resolve_left (by decide))
      exact specAdd_any ao l cap name text hd hn ht w ha
    · obtain rfl := blank_eq (h1.resolve_left k1)
      by_cases k3 : kd = 3
      · subst k3
        exact specMove_any ao l cap name to hd hn w ha
      · obtain rfl := blank_eq (h3.resolve_left k3)
        by_cases k2 : kd = 2
        · subst k2
          exact specKeep_any ao l cap name hd hn w ha
        · by_cases k4 : kd = 4
          · subst k4
            exact specDrop_any ao l cap name hd hn w ha
          · exact specOther_any ao l cap name hd hn kd (by simpa using k1) (by simpa using k2) (by simpa using k3) (by simpa using k4) k1 k2 k3 k4 w ha
end Go.Proofs.YtoanhjjigbjecaaGreatDoor
