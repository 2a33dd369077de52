/-
  The walk of spec.DoAct at every act.
  The walk of spec.DoActs: acts are done one by one.
  The walk of spec.DoActs at a disk with no files.
  What each kind of act leaves of a right disk.
-/
import Derived.Test.YtfkknmhokiacaaaJoint5
import Derived.Test.YtfkknmhokiacaaaJoint2
import Derived.Deep.AppendLies
import Derived.Deep.DeepCutAuto
import Derived.Deep.RegionWith
namespace Go.Proofs.Ytfkknmhokiacaaa
open Go.RowKit

set_option maxRecDepth 1000000 in
set_option maxHeartbeats 4000000 in
theorem specOther_any (ao : Option Addr) (l : List FileD) (cap : Nat) (name : ByteArray) (hd : diskOk l = true) (hn : nameOk name = true) (kd : Int) (q1 : (kd == 1) = false) (q2 : (kd == 2) = false) (q3 : (kd == 3) = false) (q4 : (kd == 4) = false) (_ : ¬ kd = 1) (_ : ¬ kd = 2) (_ : ¬ kd = 3) (_ : ¬ kd = 4) (w : World) (ha : FilesAt w ao l) :
    Calls Try.prog 25 #[.agg #[.slice ao l.length cap], .agg #[.int .i64 kd, .string name, .string ByteArray.empty, .string ByteArray.empty]] w fun e w' => ∃ va vc, e = .returned (.tuple #[.agg #[.slice va (doAns l ⟨kd, name, ByteArray.empty, ByteArray.empty⟩).1.length vc], .bool (doAns l ⟨kd, name, ByteArray.empty, ByteArray.empty⟩).2]) ∧ OwnAt w' 36 (fileCells (doAns l ⟨kd, name, ByteArray.empty, ByteArray.empty⟩).1) (doAns l ⟨kd, name, ByteArray.empty, ByteArray.empty⟩).1.length va w.heap.size w'.heap.size ∧ Below w.heap.size w w' := by
  have HA := hid ha
  have hl : l.length ≤ 30 := (diskOk_iff.1 hd).1
  have h3 := three_boxes w (.cells #[.slice ao l.length cap] 26) (.cells #[.int .i64 kd, .string name, .string ByteArray.empty, .string ByteArray.empty] 45) (.cells #[.slice none 0 0] 26)
  have H3 := hid h3
  clear h3 ha
  obtain ⟨W0, hW0⟩ : ∃ W0, ((w.alloc (.cells #[.slice ao l.length cap] 26)).alloc (.cells #[.int .i64 kd, .string name, .string ByteArray.empty, .string ByteArray.empty] 45)).alloc (.cells #[.slice none 0 0] 26) = W0 := ⟨_, rfl⟩
  rw [hW0] at H3
  have X0 : Hid (BlockIs W0 w.heap.size 26 [.slice ao l.length cap] ∧ BlockIs W0 (w.heap.size + 1) 45 [.int .i64 kd, .string name, .string ByteArray.empty, .string ByteArray.empty] ∧ BlockIs W0 (w.heap.size + 1 + 1) 26 [.slice none 0 0]) := H3.out.2.2
  have c0 := X0.out.1.cell (j := 0) rfl
  have C := hid (fun w ha => specDiskOk_any ao l cap (by omega) w ha)
  rw [hd] at C
  have cN' := fun w => l03Name_any name w
  rw [hn] at cN'
  have cN := hid cN'
  have cAt := hid (fun w ha => l03At_any ao l cap name (by omega) w ha)
  have HD := hid hd
  have HN := hid hn
  clear cN' hd hn
  go_enter Try.func25, Try.ntmps25
  go_wp2_with fail
  refine (C.out W0 (HA.out.on H3.out.1)).mono ?_
  rintro e w1 ⟨rfl, b1⟩
  have B1 := hid (below_via H3.out.1 b1)
  have X1 := hid (And.intro (X0.out.1.on b1 X0.out.1.lt) (And.intro (X0.out.2.1.on b1 X0.out.2.1.lt) (X0.out.2.2.on b1 X0.out.2.2.lt)))
  have a0 := X1.out.2.1.cell (j := 0) rfl
  have a1 := X1.out.2.1.cell (j := 1) rfl
  have a2 := X1.out.2.1.cell (j := 2) rfl
  have a3 := X1.out.2.1.cell (j := 3) rfl
  have d0 := X1.out.1.cell (j := 0) rfl
  clear b1 C H3 X0 c0 hW0 W0
  go_wp2_with fail
  refine (cN.out _).mono ?_
  rintro e w' ⟨rfl, hw⟩
  rw [hw]
  clear hw w' cN
  go_wp2_with fail
  refine (cAt.out _ (HA.out.on B1.out)).mono ?_
  rintro e w2 ⟨hor, b2⟩
  have B2 := hid (below_via B1.out b2)
  have X2 := hid (And.intro (X1.out.1.on b2 X1.out.1.lt) (And.intro (X1.out.2.1.on b2 X1.out.2.1.lt) (X1.out.2.2.on b2 X1.out.2.2.lt)))
  clear b2 cAt B1 X1 a0 a1 a2 a3 d0
  have a0 := X2.out.2.1.cell (j := 0) rfl
  have a1 := X2.out.2.1.cell (j := 1) rfl
  have a2 := X2.out.2.1.cell (j := 2) rfl
  have a3 := X2.out.2.1.cell (j := 3) rfl
  have d0 := X2.out.1.cell (j := 0) rfl
  have r0 := X2.out.2.2.cell (j := 0) rfl
  have s0 := X2.out.2.2.thaw 0
  rcases hor with ⟨k, hfirst, rfl⟩ | ⟨hnone, rfl⟩
  · have hk := hfirst.1
    have hk' : (k : Int) < (l.length : Int) := by omega
    have hk0 : (0 : Int) ≤ (k : Int) := by omega
    have hk1 : ¬ (k : Int) < 0 := by omega
    have htk : l[k].text.size ≤ 20000 := (diskOk_kept HD.out hk).2.2
    have hne : l ≠ [] := by intro e; rw [e] at hk; simp at hk
    obtain ⟨b, off, rfl, hc⟩ := HA.out.on B2.out hne
    obtain ⟨x0', x1', x2'⟩ := hc k hk
    have hbF := below_more (Below.refl w2.heap.size w2) (.cells #[.string name, .string ⟨#[]⟩, .int .i64 0] 36)
    have x0 := (hbF.cell (p := ⟨b, off + k * 3, none⟩) (World.block_lt_of_cell? w2 _ x0')).trans x0'
    have x1 := (hbF.cell (p := ⟨b, off + k * 3 + 1, none⟩) (World.block_lt_of_cell? w2 _ x1')).trans x1'
    have x2 := (hbF.cell (p := ⟨b, off + k * 3 + 2, none⟩) (World.block_lt_of_cell? w2 _ x2')).trans x2'
    have d1 := (hbF.cell (p := ⟨w.heap.size, 0, none⟩) (World.block_lt_of_cell? w2 _ d0)).trans d0
    have HFD : Hid (foundOf l name = some l[k]) := found_some hfirst
    have HNM : Hid (l[k].name = name) := hfirst.2.1
    have p1 := a1
    clear hc x0' x1' x2' hbF d0 a0 a1 a2 a3 r0 s0 hfirst
    obtain ⟨Wa, hWa⟩ : ∃ Wa, (w2.alloc (.cells #[.string l[k].name, .string l[k].text, .int .i64 l[k].kept] 36)).alloc (.cells #[.slice none 0 0] 26) = Wa := ⟨_, rfl⟩
    have Ya : Hid (ActIn w w2.heap.size (.slice (some ⟨b, off, none⟩) l.length cap) [.int .i64 kd, .string name, .string ByteArray.empty, .string ByteArray.empty] l[k] (.slice none 0 0) Wa) := by rw [← hWa]; exact hid (ActIn.start B2.out X2.out l[k] (.slice none 0 0))
    obtain ⟨W3, hW3⟩ : ∃ W3, Wa.setCell ⟨w2.heap.size + 1, 0, none⟩ (.slice none 0 0) = W3 := ⟨_, rfl⟩
    have Y3 := hid (Ya.out.setOut (.slice none 0 0))
    rw [hW3] at Y3
    obtain ⟨-, -, -, -, -, -, -, -, -, ya0, -, -, ya1⟩ := Ya.out.cells
    obtain ⟨d0, a0, a1, a2, a3, r0, f0, f1, f2, o0, s0, ⟨t0, t1, t2⟩, u0⟩ := Y3.out.cells
    clear Ya
    have hfin := hid (show doAns l ⟨kd, name, ByteArray.empty, ByteArray.empty⟩ = ([], false) from doAns_no (by unfold doTry; rw [if_neg (by simpa using q1)]; dsimp only; rw [HFD.out]; dsimp only; rw [if_neg (by simpa using q2), if_neg (by simpa using q3), if_neg (by simpa using q4)]))
    have HB := hid (Y3.out.below.setCell (p := ⟨w.heap.size + 1 + 1, 0, none⟩) (by show _ ≤ _ + 1 + 1; omega) (.slice none 0 0))
    go_wp2
    refine bodyPost_ret (v := .tuple #[.agg #[.slice none 0 0], .bool false]) (by simp [results, Try.results25, go_sem, r0]) rfl ?_
    rw [hfin.out]
    exact ⟨none, 0, rfl, Or.inl rfl, HB.out⟩

  · have HFD : Hid (foundOf l name = none) := found_none hnone
    have p1 := a1
    clear d0 a0 a1 a2 a3 r0 s0 hnone
    obtain ⟨Wa, hWa⟩ : ∃ Wa, (w2.alloc (.cells #[.string name, .string ⟨#[]⟩, .int .i64 0] 36)).alloc (.cells #[.slice none 0 0] 26) = Wa := ⟨_, rfl⟩
    have Ya : Hid (ActIn w w2.heap.size (.slice ao l.length cap) [.int .i64 kd, .string name, .string ByteArray.empty, .string ByteArray.empty] (⟨name, ⟨#[]⟩, 0⟩ : FileD) (.slice none 0 0) Wa) := by rw [← hWa]; exact hid (ActIn.start B2.out X2.out (⟨name, ⟨#[]⟩, 0⟩ : FileD) (.slice none 0 0))
    obtain ⟨W3, hW3⟩ : ∃ W3, Wa.setCell ⟨w2.heap.size + 1, 0, none⟩ (.slice none 0 0) = W3 := ⟨_, rfl⟩
    have Y3 := hid (Ya.out.setOut (.slice none 0 0))
    rw [hW3] at Y3
    obtain ⟨-, -, -, -, -, -, -, -, -, ya0, -, -, ya1⟩ := Ya.out.cells
    obtain ⟨d0, a0, a1, a2, a3, r0, f0, f1, f2, o0, s0, ⟨t0, t1, t2⟩, u0⟩ := Y3.out.cells
    clear Ya
    have hfin := hid (show doAns l ⟨kd, name, ByteArray.empty, ByteArray.empty⟩ = ([], false) from doAns_no (by unfold doTry; rw [if_neg (by simpa using q1)]; dsimp only; rw [HFD.out]))
    have HB := hid (Y3.out.below.setCell (p := ⟨w.heap.size + 1 + 1, 0, none⟩) (by show _ ≤ _ + 1 + 1; omega) (.slice none 0 0))
    go_wp2
    refine bodyPost_ret (v := .tuple #[.agg #[.slice none 0 0], .bool false]) (by simp [results, Try.results25, go_sem, r0]) rfl ?_
    rw [hfin.out]
    exact ⟨none, 0, rfl, Or.inl rfl, HB.out⟩


set_option maxRecDepth 1000000 in
set_option maxHeartbeats 4000000 in
theorem specBad_any (ao : Option Addr) (l : List FileD) (cap : Nat) (a : ActD) (hl : l.length ≤ 1048576) (hok : actOk l a = false) (w : World) (ha : FilesAt w ao l) :
    Calls Try.prog 25 #[.agg #[.slice ao l.length cap], a.value] w fun e w' => e = .returned (.tuple #[.agg #[.slice none 0 0], .bool false]) ∧ Below w.heap.size w w' := by
  unfold ActD.value
  have HA := hid ha
  have h3 := three_boxes w (.cells #[.slice ao l.length cap] 26) (.cells #[.int .i64 a.kind, .string a.name, .string a.text, .string a.to] 45) (.cells #[.slice none 0 0] 26)
  have H3 := hid h3
  clear h3 ha
  obtain ⟨W0, hW0⟩ : ∃ W0, ((w.alloc (.cells #[.slice ao l.length cap] 26)).alloc (.cells #[.int .i64 a.kind, .string a.name, .string a.text, .string a.to] 45)).alloc (.cells #[.slice none 0 0] 26) = W0 := ⟨_, rfl⟩
  rw [hW0] at H3
  have X0 : Hid (BlockIs W0 w.heap.size 26 [.slice ao l.length cap] ∧ BlockIs W0 (w.heap.size + 1) 45 [.int .i64 a.kind, .string a.name, .string a.text, .string a.to] ∧ BlockIs W0 (w.heap.size + 1 + 1) 26 [.slice none 0 0]) := H3.out.2.2
  have c0 := X0.out.1.cell (j := 0) rfl
  have C' := fun w ha => specDiskOk_any ao l cap (by omega) w ha
  go_enter Try.func25, Try.ntmps25
  cases hd : diskOk l with
  | false =>
    rw [hd] at C'
    have C := hid C'
    clear C'
    go_wp2_with fail
    refine (C.out W0 (HA.out.on H3.out.1)).mono ?_
    rintro e w1 ⟨rfl, b1⟩
    have B1 := hid ((below_via H3.out.1 b1).setCell (p := ⟨w.heap.size + 1 + 1, 0, none⟩) (by show _ ≤ _ + 1 + 1; omega) (.slice none 0 0))
    have X1 := X0.out.2.2.on b1 X0.out.2.2.lt
    have r0 := X1.cell (j := 0) rfl
    have s0 := X1.thaw 0
    clear b1 C H3 X0 c0 hW0 X1 hd hok
    go_wp2
    refine bodyPost_ret (v := .tuple #[.agg #[.slice none 0 0], .bool false]) (by simp [results, Try.results25, go_sem, r0]) rfl ⟨rfl, B1.out⟩
  | true =>
    rw [hd] at C'
    have C := hid C'
    clear C'
    go_wp2_with fail
    refine (C.out W0 (HA.out.on H3.out.1)).mono ?_
    rintro e w1 ⟨rfl, b1⟩
    have B1 := hid ((below_via H3.out.1 b1).setCell (p := ⟨w.heap.size + 1 + 1, 0, none⟩) (by show _ ≤ _ + 1 + 1; omega) (.slice none 0 0))
    have X1 := X0.out.2.2.on b1 X0.out.2.2.lt
    have X2 := X0.out.2.1.on b1 X0.out.2.1.lt
    have r0 := X1.cell (j := 0) rfl
    have s0 := X1.thaw 0
    have a0 := X2.cell (j := 0) rfl
    have a1 := X2.cell (j := 1) rfl
    have a2 := X2.cell (j := 2) rfl
    have a3 := X2.cell (j := 3) rfl
    clear b1 C H3 X0 c0 hW0 X1 X2
    have cN' := fun w => l03Name_any a.name w
    cases hn : nameOk a.name with
    | false =>
      rw [hn] at cN'
      have cN := hid cN'
      clear cN' hd hn hok
      go_wp2_with fail
      refine (cN.out _).mono ?_
      rintro e w' ⟨rfl, hw⟩
      rw [hw]
      clear hw w' cN
      go_wp2
      refine bodyPost_ret (v := .tuple #[.agg #[.slice none 0 0], .bool false]) (by simp [results, Try.results25, go_sem, r0]) rfl ⟨rfl, B1.out⟩
    | true =>
      rw [hn] at cN'
      have cN := hid cN'
      clear cN'
      go_wp2_with fail
      refine (cN.out _).mono ?_
      rintro e w' ⟨rfl, hw⟩
      rw [hw]
      clear hw w' cN
      rw [actOk, hd, hn] at hok
      cases h3 : (a.kind == 3) with
      | false =>
        have k3 : ¬ a.kind = 3 := by simpa using h3
        cases hb : (a.to.toList == []) with
        | false =>
          clear hd hn hok
          go_wp2
          refine bodyPost_ret (v := .tuple #[.agg #[.slice none 0 0], .bool false]) (by simp [results, Try.results25, go_sem, r0]) rfl ⟨rfl, B1.out⟩
        | true =>
          have h1 : (a.kind == 1) = false := by
            cases h : (a.kind == 1) with
            | false => rfl
            | true => rw [h3, h, blank, hb] at hok; simp at hok
          have k1 : ¬ a.kind = 1 := by simpa using h1
          have hb2 : (a.text.toList == []) = false := by
            cases h : (a.text.toList == []) with
            | false => rfl
            | true => rw [h3, h1, blank, blank, h, hb] at hok; simp at hok
          clear hd hn hok
          go_wp2
          refine bodyPost_ret (v := .tuple #[.agg #[.slice none 0 0], .bool false]) (by simp [results, Try.results25, go_sem, r0]) rfl ⟨rfl, B1.out⟩
      | true =>
        have hk3 : a.kind = 3 := by simpa using h3
        have h1 : (a.kind == 1) = false := by rw [hk3]; rfl
        have k1 : ¬ a.kind = 1 := by simpa using h1
        have hb2 : (a.text.toList == []) = false := by
          cases h : (a.text.toList == []) with
          | false => rfl
          | true => rw [h3, blank, blank, h] at hok; simp at hok
        clear hd hn hok
        go_wp2
        refine bodyPost_ret (v := .tuple #[.agg #[.slice none 0 0], .bool false]) (by simp [results, Try.results25, go_sem, r0]) rfl ⟨rfl, B1.out⟩

theorem blank_eq {s : ByteArray} (h : blank s = true) : s = ByteArray.empty := by
  rw [blank, beq_iff_eq] at h
  exact text_eq (by rw [h, ByteArray.toList_eq]; rfl)

theorem doAns_small {l : List FileD} {a : ActD} : (doAns l a).1.length ≤ 1048576 := by
  unfold doAns
  split
  · exact Nat.zero_le _
  · rename_i o h
    have := (diskOk_iff.1 (doAct_right h)).1
    show o.length ≤ _
    omega

theorem specDoAct_o (ao : Option Addr) (l : List FileD) (cap : Nat) (a : ActD) (hl : l.length ≤ 1048576) (ht : a.text.size ≤ 1048576) (w : World) (ha : FilesAt w ao l) :
    Calls Try.prog 25 #[.agg #[.slice ao l.length cap], a.value] w fun e w' => ∃ va vc, e = .returned (.tuple #[.agg #[.slice va (doAns l a).1.length vc], .bool (doAns l a).2]) ∧ OwnAt w' 36 (fileCells (doAns l a).1) (doAns l a).1.length va w.heap.size w'.heap.size ∧ Below w.heap.size w w' := by
  cases hok : actOk l a with
  | false =>
    refine (specBad_any ao l cap a hl hok w ha).mono ?_
    rintro e w' ⟨rfl, hb⟩
    have : doAns l a = ([], false) := by simp [doAns, doAct, hok]
    rw [this]
    exact ⟨none, 0, rfl, Or.inl rfl, hb⟩
  | true =>
    obtain ⟨kd, name, text, to⟩ := a
    simp only [actOk, Bool.and_eq_true, Bool.or_eq_true, beq_iff_eq] at hok
    obtain ⟨⟨⟨hd, hn⟩, h3⟩, h1⟩ := hok
    unfold ActD.value
    by_cases k1 : kd = 1
    · subst k1
      obtain rfl := blank_eq (h3.resolve_left (by decide))
      exact specAdd_any ao l cap name text hd hn ht w ha
    · obtain rfl := blank_eq (h1.resolve_left k1)
      by_cases k3 : kd = 3
      · subst k3
        exact specMove_any ao l cap name to hd hn w ha
      · obtain rfl := blank_eq (h3.resolve_left k3)
        by_cases k2 : kd = 2
        · subst k2
          exact specKeep_any ao l cap name hd hn w ha
        · by_cases k4 : kd = 4
          · subst k4
            exact specDrop_any ao l cap name hd hn w ha
          · exact specOther_any ao l cap name hd hn kd (by simpa using k1) (by simpa using k2) (by simpa using k3) (by simpa using k4) k1 k2 k3 k4 w ha
end Go.Proofs.Ytfkknmhokiacaaa

namespace Go.Proofs.Ytfkknmhokiacaaa
open Go.RowKit

/-- the loop of spec.DoActs -/
structure ActsIn (w : World) (O : Nat) (l : List FileD) (acts : List ActD) (k : Nat) (o : List FileD) (va : Option Addr) (vc : Nat) (W : World) : Prop where
  below : Below w.heap.size w W
  res : BlockIs W (w.heap.size + 1) 26 [.slice none 0 0]
  out : BlockIs W O 26 [.slice va o.length vc]
  own : OwnAt W 36 (fileCells o) o.length va w.heap.size W.heap.size
  did : doTo l acts k = some o
  small : o.length ≤ 1048576
  far : w.heap.size + 1 < O
theorem ActsIn.on {w W W' : World} {O k vc : Nat} {l o : List FileD} {acts : List ActD} {va : Option Addr} (h : ActsIn w O l acts k o va vc W) (hb : Below W.heap.size W W') : ActsIn w O l acts k o va vc W' :=
  ⟨below_via h.below hb, h.res.on hb h.res.lt, h.out.on hb h.out.lt, (h.own.on hb).down (Nat.le_refl _) hb.size, h.did, h.small, h.far⟩
theorem ActsIn.files {w W : World} {O k vc : Nat} {l o : List FileD} {acts : List ActD} {va : Option Addr} (h : ActsIn w O l acts k o va vc W) : FilesAt W va o := h.own.files

theorem fileCells_one (l : List FileD) : ∀ u ∈ fileCells l, u.oneCell' = true := by
  intro u hu
  rw [fileCells, List.mem_flatMap] at hu
  obtain ⟨f, _, hf⟩ := hu
  simp [fileEnc] at hf
  rcases hf with rfl | rfl | rfl <;> simp [Value.oneCell']
theorem files_cells {w : World} {b off : Nat} {l : List FileD} (hc : ∀ j (hj : j < l.length), w.cell? ⟨b, off + j * 3, none⟩ = some (.string l[j].name) ∧ w.cell? ⟨b, off + j * 3 + 1, none⟩ = some (.string l[j].text) ∧ w.cell? ⟨b, off + j * 3 + 2, none⟩ = some (.int .i64 l[j].kept)) :
    ∀ j u, (fileCells l)[j]? = some u → w.cell? ((⟨b, off, none⟩ : Addr).add j) = some u := by
  intro j u hu
  have hlen := fileCells_length l
  have hj : j < l.length * 3 := by
    rcases Nat.lt_or_ge j (l.length * 3) with q | q
    · exact q
    · rw [List.getElem?_eq_none (by omega)] at hu; cases hu
  obtain ⟨q, c, hc3, rfl⟩ : ∃ q c, c < 3 ∧ j = q * 3 + c := ⟨j / 3, j % 3, Nat.mod_lt _ (by omega), by omega⟩
  have hq : q < l.length := by omega
  have e := row_at fileEnc 3 (fun _ => rfl) l [] q c hq hc3
  rw [List.append_nil] at e
  have e' : (fileCells l)[q * 3 + c]? = (fileEnc l[q])[c]? := e
  rw [e'] at hu
  obtain ⟨h0, h1, h2⟩ := hc q hq
  rw [show (⟨b, off, none⟩ : Addr).add (q * 3 + c) = ⟨b, off + (q * 3 + c), none⟩ by simp [Addr.add], show off + (q * 3 + c) = off + q * 3 + c by omega]
  match c, hc3 with
  | 0, _ => simp [fileEnc] at hu; rw [← hu]; exact h0
  | 1, _ => simp [fileEnc] at hu; rw [← hu]; exact h1
  | 2, _ => simp [fileEnc] at hu; rw [← hu]; exact h2

set_option maxRecDepth 1000000 in
set_option maxHeartbeats 2000000 in
theorem specDoActs_any (ao : Option Addr) (l : List FileD) (cap : Nat) (bo : Option Addr) (acts : List ActD) (bcap : Nat) (hl : l.length ≤ 1048576) (hal : acts.length ≤ 1048576) (ham : ActsSmall acts) (hpos : 0 < l.length) (w : World) (ha : FilesAt w ao l) (hq : ActsAt w bo acts) :
    Calls Try.prog 18 #[.agg #[.slice ao l.length cap], .slice bo acts.length bcap] w fun e w' => DidActs w l acts (fun W o va => OwnAt W 36 (fileCells o) o.length va w.heap.size W.heap.size) e w' := by
  obtain ⟨i0, hi, hz0, hz1, hz2⟩ := info_parts toFile_info
  have HQ := hid hq
  have HM := hid ham
  have hne : l ≠ [] := by intro e; rw [e] at hpos; simp at hpos
  obtain ⟨b, off, rfl, hc0⟩ := ha hne
  have hx0 : BlockIs (w.alloc (.cells #[.slice (some ⟨b, off, none⟩) l.length cap] 26)) w.heap.size 26 [.slice (some ⟨b, off, none⟩) l.length cap] := heap_alloc_new w _
  obtain ⟨W1, hW1⟩ : ∃ W1, (w.alloc (.cells #[.slice (some ⟨b, off, none⟩) l.length cap] 26)).alloc (.cells #[.slice none 0 0] 26) = W1 := ⟨_, rfl⟩
  have hs1 : W1.heap.size = w.heap.size + 2 := by rw [← hW1]; simp [World.alloc, -World.alloc_eq]
  have hb1 : Below w.heap.size w W1 := by rw [← hW1]; exact below_more (below_more (Below.refl _ w) _) _
  have hxD : BlockIs W1 w.heap.size 26 [.slice (some ⟨b, off, none⟩) l.length cap] := by rw [← hW1]; exact hx0.on (below_more (Below.refl _ _) _) hx0.lt
  have hxR : BlockIs W1 (w.heap.size + 1) 26 [.slice none 0 0] := by
    rw [← hW1]
    have := heap_alloc_new (w.alloc (.cells #[.slice (some ⟨b, off, none⟩) l.length cap] 26)) (.cells #[.slice none 0 0] 26)
    rw [show (w.alloc (.cells #[.slice (some ⟨b, off, none⟩) l.length cap] 26)).heap.size = w.heap.size + 1 by simp [World.alloc, -World.alloc_eq]] at this
    exact this
  obtain ⟨W2, hW2⟩ : ∃ W2, W1.alloc (.cells #[] 36) = W2 := ⟨_, rfl⟩
  have hbE : Below W1.heap.size W1 W2 := by rw [← hW2]; exact below_more (Below.refl W1.heap.size W1) _
  have d0 := (hxD.on hbE hxD.lt).cell (j := 0) rfl
  have hrow : W2.ownsRow W1.heap.size 36 3 (.slice (some ⟨W1.heap.size, 0, none⟩) 0 0) 0 [] := by
    rw [← hW2]; exact World.ownsRow_made W1 #[] 0 (Nat.le_refl W1.heap.size) (Nat.zero_le _) rfl
  have hs2 : W2.heap.size = W1.heap.size + 1 := by rw [← hW2]; simp [World.alloc, -World.alloc_eq]
  have hnews : ∀ j u, (fileCells l)[j]? = some u → W2.cell? ((⟨b, off, none⟩ : Addr).add j) = some u := by
    obtain ⟨b', off', e, hc'⟩ := ha.on (below_via hb1 hbE) hne
    cases e
    exact files_cells hc'
  have hone := fileCells_one l
  have H2 := hid (And.intro (below_via hb1 hbE) (hxR.on hbE hxR.lt))
  have HS1 := hid hs1
  clear ha hq ham hx0 hb1 hxD hxR hbE hc0 hs1
  go_enter Try.func18, Try.ntmps18
  go_wp2_with (at_builtin; refine wpList_append_lies _ rfl (.tmp 10) (.tmp 12) 24 rfl W1.heap.size 36 i0 _ 3 40 Try.underlying24 hi hz0 hz1 hz2 rfl (by decide) _ 0 _ rfl hrow ⟨b, off, none⟩ l.length cap (fileCells l) rfl (fileCells_length l) hnews hone hpos (by unfold maxLen; omega) (by omega) (by omega) (W1.heap.size + 1) hs2 ?_; intro g1 cap1 w1 hown1 hgrow hat hlt1)
  have hB1 : Below W1.heap.size W2 w1 := (Below.refl _ W2).grown hgrow (by omega) (fun j hj => by cases hj; exact Nat.le_refl _)
  rw [Nat.zero_add, List.nil_append] at hown1
  obtain ⟨va1, vc1, hv1, hown2⟩ := own_of_row hown1
  cases hv1
  have hbO := below_more (Below.refl w1.heap.size w1) (.cells #[.slice (some ⟨g1, 0, none⟩) l.length cap1] 26)
  have hxO : BlockIs (w1.alloc (.cells #[.slice (some ⟨g1, 0, none⟩) l.length cap1] 26)) w1.heap.size 26 [.slice (some ⟨g1, 0, none⟩) l.length cap1] := heap_alloc_new w1 _
  have hR1 := H2.out.2.on hB1 (by have := HS1.out; omega)
  have hsz1 := hB1.size
  have H3 : Hid (ActsIn w w1.heap.size l acts 0 l (some ⟨g1, 0, none⟩) cap1 (w1.alloc (.cells #[.slice (some ⟨g1, 0, none⟩) l.length cap1] 26))) :=
    ⟨below_via (H2.out.1.trans (hB1.mono (by have := HS1.out; omega))) hbO, hR1.on hbO hR1.lt, hxO, (hown2.on hbO).down (by have := HS1.out; omega) hbO.size, rfl, hl, by have := HS1.out; omega⟩
  clear hB1 hown1 hown2 hbO hxO hR1 hsz1 hgrow hat hlt1 H2 HS1 hrow hnews hone d0 hs2
  go_wp2
  go_loopg [7, 8, 9] acts.length (fun q i _ _ wr => ∃ (k : Nat) (o : List FileD) (va : Option Addr) (vc : Nat), k + q = acts.length ∧ i = .int .i64 k ∧ Hid (ActsIn w w1.heap.size l acts k o va vc wr))
  case atStart => exact ⟨0, l, _, _, by omega, rfl, H3⟩
  case round =>
    obtain ⟨k, o, va, vc, hkg, rfl, HI⟩ := hrel
    clear H3
    have r0 := HI.out.res.cell (j := 0) rfl
    have s0 := HI.out.res.thaw 0
    have o0 := HI.out.out.cell (j := 0) rfl
    have t0 := HI.out.out.thaw 0
    cases gk with
    | zero =>
      have hlt : ¬ (k : Int) < (acts.length : Int) := by omega
      have HB := hid (HI.out.below.setCell (p := ⟨w.heap.size + 1, 0, none⟩) (by show _ ≤ _ + 1; omega) (.slice va o.length vc))
      have HO := hid (own_ret (v := .slice va o.length vc) HI.out.own HI.out.res (Nat.le_refl _) (by decide))
      have HT := hid HI.out.did
      have hk : k = acts.length := by omega
      have HK := hid hk
      clear HI hk
      go_wp2
      refine bodyPost_ret (v := .tuple #[.agg #[.slice va o.length vc], .int .i64 acts.length]) (by simp [results, Try.results18, go_sem, r0]) rfl ⟨acts.length, o, va, vc, rfl, ⟨by rw [← HK.out]; exact HT.out, Nat.le_refl _, Or.inl rfl⟩, HO.out, HB.out⟩
    | succ q =>
      have hlt : k < acts.length := by omega
      have hlt' : (k : Int) < (acts.length : Int) := by omega
      have hne : acts ≠ [] := by intro e; rw [e] at hlt; simp at hlt
      obtain ⟨b', off', rfl, hc⟩ := HQ.out.on HI.out.below hne
      obtain ⟨x0, x1, x2, x3⟩ := hc k hlt
      clear hc
      have hbA := below_more (Below.refl wr.heap.size wr) (.cells #[.slice none 0 0] 26)
      have y0 := (hbA.cell (p := ⟨b', off' + k * 4, none⟩) (World.block_lt_of_cell? wr _ x0)).trans x0
      have y1 := (hbA.cell (p := ⟨b', off' + k * 4 + 1, none⟩) (World.block_lt_of_cell? wr _ x1)).trans x1
      have y2 := (hbA.cell (p := ⟨b', off' + k * 4 + 2, none⟩) (World.block_lt_of_cell? wr _ x2)).trans x2
      have y3 := (hbA.cell (p := ⟨b', off' + k * 4 + 3, none⟩) (World.block_lt_of_cell? wr _ x3)).trans x3
      have o1 := (HI.out.out.on hbA HI.out.out.lt).cell (j := 0) rfl
      have hbx : BlockIs (wr.alloc (.cells #[.slice none 0 0] 26)).drew wr.heap.size 26 [.slice none 0 0] := heap_alloc_new wr _
      have HGa := hid (show Below wr.heap.size wr wr.drew from below_drewN (Below.refl _ _) 1)
      have HGb := hid (show Below wr.heap.size wr (wr.alloc (.cells #[.slice none 0 0] 26)).drew from below_drewN hbA 1)
      have HBX := hid hbx
      obtain ⟨A, ok, hF⟩ : ∃ A ok, doAns o acts[k] = (A, ok) := ⟨_, _, rfl⟩
      have CF : Hid (∀ W, Hid (Below wr.heap.size wr W) → Calls Try.prog 25 #[.agg #[.slice va o.length vc], .agg #[.int .i64 acts[k].kind, .string acts[k].name, .string acts[k].text, .string acts[k].to]] W fun e W' => ∃ vb vd, e = .returned (.tuple #[.agg #[.slice vb A.length vd], .bool ok]) ∧ Hid (OwnAt W' 36 (fileCells A) A.length vb wr.heap.size W'.heap.size ∧ Below W.heap.size W W' ∧ Below wr.heap.size wr W')) := by
        intro W hW
        have CQ := specDoAct_o va o vc acts[k] HI.out.small (HM.out _ (List.getElem_mem hlt)).2.1 W (HI.out.files.on hW.out)
        rw [hF] at CQ
        dsimp only at CQ
        refine Calls.mono CQ ?_
        rintro e W' ⟨vb, vd, rfl, ho, hb⟩
        exact ⟨vb, vd, rfl, ho.down hW.out.size (Nat.le_refl _), hb, below_via hW.out hb⟩
      have HF := hid hF
      clear hbA hbx hF
      go_upto_region 5 with fail
      go_cut [8, 9] (fun sa sb wx => ∃ Bx vb vd, sa = .pointer (some ⟨Bx, 0, none⟩) ∧ sb = .bool ok ∧ Hid (Below wr.heap.size wr wx ∧ BlockIs wx Bx 26 [.slice vb A.length vd] ∧ OwnAt wx 36 (fileCells A) A.length vb wr.heap.size wx.heap.size))
      case first =>
        go_region_with (first | (go_at_call 25; refine Calls.mono (CF.out _ HGa) ?_; rintro e w5 ⟨vb, vd, rfl, H5⟩) | (go_at_call 25; refine Calls.mono (CF.out _ HGb) ?_; rintro e w5 ⟨vb, vd, rfl, H5⟩; have z0 := (HBX.out.on H5.out.2.1 HBX.out.lt).cell (j := 0) rfl; have z1 := (HBX.out.on H5.out.2.1 HBX.out.lt).thaw 0))
        all_goals
          go_wp2_with fail
          go_meet
          first
          | (have hbm := below_more (Below.refl w5.heap.size w5) (.cells #[.slice vb A.length vd] 26)
             exact ⟨w5.heap.size, vb, vd, rfl, rfl, below_via H5.out.2.2 hbm, heap_alloc_new w5 _, (H5.out.1.on hbm).down (Nat.le_refl _) hbm.size⟩)
          | exact ⟨wr.heap.size, vb, vd, rfl, rfl, H5.out.2.2.setCell (p := ⟨wr.heap.size, 0, none⟩) (Nat.le_refl _) _, (HBX.out.on H5.out.2.1 HBX.out.lt).set 0 _, own_ret H5.out.1 (HBX.out.on H5.out.2.1 HBX.out.lt) (Nat.le_refl _) (by decide)⟩
      case rest =>
        obtain ⟨Bx, vb, vd, rfl, rfl, HC⟩ := hcut
        clear CF HGa HGb HBX x0 x1 x2 x3 y0 y1 y2 y3 o0 o1 r0 s0 t0
        have HI2 := hid (HI.out.on HC.out.1)
        have hst := doTo_step hlt HI.out.did
        have r0 := HI2.out.res.cell (j := 0) rfl
        have s0 := HI2.out.res.thaw 0
        have o0 := HI2.out.out.cell (j := 0) rfl
        have t0 := HI2.out.out.thaw 0
        have n0 := HC.out.2.1.cell (j := 0) rfl
        cases hr : doAct o acts[k] with
        | none =>
          rw [hr] at hst
          have hF := HF.out
          rw [doAns, hr] at hF
          cases hF
          have HT2 := hid hst
          have HT := hid HI.out.did
          have HB := hid (HI2.out.below.setCell (p := ⟨w.heap.size + 1, 0, none⟩) (by show _ ≤ _ + 1; omega) (.slice va o.length vc))
          have HO := hid (own_ret (v := .slice va o.length vc) HI2.out.own HI2.out.res (Nat.le_refl _) (by decide))
          clear HI HI2 HC hst hr HF
          go_wp2
          refine bodyPost_ret (v := .tuple #[.agg #[.slice va o.length vc], .int .i64 k]) (by simp [results, Try.results18, go_sem, r0]) rfl ⟨k, o, va, vc, rfl, ⟨HT.out, by omega, Or.inr HT2.out⟩, HO.out, HB.out⟩
        | some o' =>
          rw [hr] at hst
          have hF := HF.out
          rw [doAns, hr] at hF
          cases hF
          have hsm : A.length ≤ 1048576 := by have := (diskOk_iff.1 (doAct_right hr)).1; omega
          have HN : Hid (ActsIn w w1.heap.size l acts (k + 1) A vb vd (wc.setCell ⟨w1.heap.size, 0, none⟩ (.slice vb A.length vd))) :=
            ⟨HI2.out.below.setCell (p := ⟨w1.heap.size, 0, none⟩) (by show _ ≤ w1.heap.size; have := HI2.out.far; omega) _, HI2.out.res.far (by have := HI2.out.far; omega) _, HI2.out.out.set 0 _, (own_ret HC.out.2.2 HI2.out.out (Nat.le_refl _) (by decide)).down (by have := HI.out.below.size; omega) (Nat.le_refl _), hst, hsm, HI2.out.far⟩
          clear HI HI2 HC hst hr HF
          go_wp2
          go_roundg q
          case measure => omega
          case rel => exact ⟨k + 1, A, vb, vd, by omega, by go_num, HN⟩
end Go.Proofs.Ytfkknmhokiacaaa

namespace Go.Proofs.Ytfkknmhokiacaaa
open Go.RowKit

set_option maxRecDepth 1000000 in
set_option maxHeartbeats 2000000 in
theorem specDoActs_nil (ao : Option Addr) (l : List FileD) (cap : Nat) (bo : Option Addr) (acts : List ActD) (bcap : Nat) (hl : l.length ≤ 1048576) (hal : acts.length ≤ 1048576) (ham : ActsSmall acts) (hnil : l = []) (w : World) (ha : FilesAt w ao l) (hq : ActsAt w bo acts) :
    Calls Try.prog 18 #[.agg #[.slice ao l.length cap], .slice bo acts.length bcap] w fun e w' => DidActs w l acts (fun W o va => OwnAt W 36 (fileCells o) o.length va w.heap.size W.heap.size) e w' := by
  obtain ⟨i0, hi, hz0, hz1, hz2⟩ := info_parts toFile_info
  have HQ := hid hq
  have HM := hid ham
  cases ao with
  | none =>
    subst hnil
    have hx0 : BlockIs (w.alloc (.cells #[.slice none 0 cap] 26)) w.heap.size 26 [.slice none 0 cap] := heap_alloc_new w _
    obtain ⟨W1, hW1⟩ : ∃ W1, (w.alloc (.cells #[.slice none 0 cap] 26)).alloc (.cells #[.slice none 0 0] 26) = W1 := ⟨_, rfl⟩
    have hs1 : W1.heap.size = w.heap.size + 2 := by rw [← hW1]; simp [World.alloc, -World.alloc_eq]
    have hb1 : Below w.heap.size w W1 := by rw [← hW1]; exact below_more (below_more (Below.refl _ w) _) _
    have hxD : BlockIs W1 w.heap.size 26 [.slice none 0 cap] := by rw [← hW1]; exact hx0.on (below_more (Below.refl _ _) _) hx0.lt
    have hxR : BlockIs W1 (w.heap.size + 1) 26 [.slice none 0 0] := by
      rw [← hW1]
      have := heap_alloc_new (w.alloc (.cells #[.slice none 0 cap] 26)) (.cells #[.slice none 0 0] 26)
      rw [show (w.alloc (.cells #[.slice none 0 cap] 26)).heap.size = w.heap.size + 1 by simp [World.alloc, -World.alloc_eq]] at this
      exact this
    obtain ⟨W2, hW2⟩ : ∃ W2, W1.alloc (.cells #[] 36) = W2 := ⟨_, rfl⟩
    have hbE : Below W1.heap.size W1 W2 := by rw [← hW2]; exact below_more (Below.refl W1.heap.size W1) _
    have d0 := (hxD.on hbE hxD.lt).cell (j := 0) rfl
    have hs2 : W2.heap.size = W1.heap.size + 1 := by rw [← hW2]; simp [World.alloc, -World.alloc_eq]
    have H2 := hid (And.intro (below_via hb1 hbE) (hxR.on hbE hxR.lt))
    have HS1 := hid hs1
    clear ha hq ham hx0 hb1 hxD hxR hbE hs1
    have q1 : ∀ W : World, ((pure #[] : Sem (Array Value)).run Try.prog W) = .ok #[] W := fun _ => rfl
    have q2 : ∀ (W : World) (a : Addr), (storeCells a []).run Try.prog W = .ok () W := fun _ _ => rfl
    go_enter Try.func18, Try.ntmps18
    have hbO := below_more (Below.refl W2.heap.size W2) (.cells #[.slice (some ⟨W1.heap.size, 0, none⟩) 0 0] 26)
    have hxO : BlockIs (W2.alloc (.cells #[.slice (some ⟨W1.heap.size, 0, none⟩) 0 0] 26)) W2.heap.size 26 [.slice (some ⟨W1.heap.size, 0, none⟩) 0 0] := heap_alloc_new W2 _
    have H3 : Hid (ActsIn w W2.heap.size [] acts 0 [] (some ⟨W1.heap.size, 0, none⟩) 0 (W2.alloc (.cells #[.slice (some ⟨W1.heap.size, 0, none⟩) 0 0] 26))) :=
      ⟨below_via H2.out.1 hbO, H2.out.2.on hbO H2.out.2.lt, hxO, Or.inl rfl, rfl, Nat.zero_le _, by have := HS1.out; omega⟩
    clear hbO hxO H2 HS1 hs2
    go_wp2
    clear q1 q2
    go_loopg [7, 8, 9] acts.length (fun q i _ _ wr => ∃ (k : Nat) (o : List FileD) (va : Option Addr) (vc : Nat), k + q = acts.length ∧ i = .int .i64 k ∧ Hid (ActsIn w W2.heap.size [] acts k o va vc wr))
    case atStart => exact ⟨0, [], _, _, by omega, rfl, H3⟩
    case round =>
      obtain ⟨k, o, va, vc, hkg, rfl, HI⟩ := hrel
      clear H3
      have r0 := HI.out.res.cell (j := 0) rfl
      have s0 := HI.out.res.thaw 0
      have o0 := HI.out.out.cell (j := 0) rfl
      have t0 := HI.out.out.thaw 0
      cases gk with
      | zero =>
        have hlt : ¬ (k : Int) < (acts.length : Int) := by omega
        have HB := hid (HI.out.below.setCell (p := ⟨w.heap.size + 1, 0, none⟩) (by show _ ≤ _ + 1; omega) (.slice va o.length vc))
        have HO := hid (own_ret (v := .slice va o.length vc) HI.out.own HI.out.res (Nat.le_refl _) (by decide))
        have HT := hid HI.out.did
        have hk : k = acts.length := by omega
        have HK := hid hk
        clear HI hk
        go_wp2
        refine bodyPost_ret (v := .tuple #[.agg #[.slice va o.length vc], .int .i64 acts.length]) (by simp [results, Try.results18, go_sem, r0]) rfl ⟨acts.length, o, va, vc, rfl, ⟨by rw [← HK.out]; exact HT.out, Nat.le_refl _, Or.inl rfl⟩, HO.out, HB.out⟩
      | succ q =>
        have hlt : k < acts.length := by omega
        have hlt' : (k : Int) < (acts.length : Int) := by omega
        have hne : acts ≠ [] := by intro e; rw [e] at hlt; simp at hlt
        obtain ⟨b', off', rfl, hc⟩ := HQ.out.on HI.out.below hne
        obtain ⟨x0, x1, x2, x3⟩ := hc k hlt
        clear hc
        have hbA := below_more (Below.refl wr.heap.size wr) (.cells #[.slice none 0 0] 26)
        have y0 := (hbA.cell (p := ⟨b', off' + k * 4, none⟩) (World.block_lt_of_cell? wr _ x0)).trans x0
        have y1 := (hbA.cell (p := ⟨b', off' + k * 4 + 1, none⟩) (World.block_lt_of_cell? wr _ x1)).trans x1
        have y2 := (hbA.cell (p := ⟨b', off' + k * 4 + 2, none⟩) (World.block_lt_of_cell? wr _ x2)).trans x2
        have y3 := (hbA.cell (p := ⟨b', off' + k * 4 + 3, none⟩) (World.block_lt_of_cell? wr _ x3)).trans x3
        have o1 := (HI.out.out.on hbA HI.out.out.lt).cell (j := 0) rfl
        have hbx : BlockIs (wr.alloc (.cells #[.slice none 0 0] 26)).drew wr.heap.size 26 [.slice none 0 0] := heap_alloc_new wr _
        have HGa := hid (show Below wr.heap.size wr wr.drew from below_drewN (Below.refl _ _) 1)
        have HGb := hid (show Below wr.heap.size wr (wr.alloc (.cells #[.slice none 0 0] 26)).drew from below_drewN hbA 1)
        have HBX := hid hbx
        obtain ⟨A, ok, hF⟩ : ∃ A ok, doAns o acts[k] = (A, ok) := ⟨_, _, rfl⟩
        have CF : Hid (∀ W, Hid (Below wr.heap.size wr W) → Calls Try.prog 25 #[.agg #[.slice va o.length vc], .agg #[.int .i64 acts[k].kind, .string acts[k].name, .string acts[k].text, .string acts[k].to]] W fun e W' => ∃ vb vd, e = .returned (.tuple #[.agg #[.slice vb A.length vd], .bool ok]) ∧ Hid (OwnAt W' 36 (fileCells A) A.length vb wr.heap.size W'.heap.size ∧ Below W.heap.size W W' ∧ Below wr.heap.size wr W')) := by
          intro W hW
          have CQ := specDoAct_o va o vc acts[k] HI.out.small (HM.out _ (List.getElem_mem hlt)).2.1 W (HI.out.files.on hW.out)
          rw [hF] at CQ
          dsimp only at CQ
          refine Calls.mono CQ ?_
          rintro e W' ⟨vb, vd, rfl, ho, hb⟩
          exact ⟨vb, vd, rfl, ho.down hW.out.size (Nat.le_refl _), hb, below_via hW.out hb⟩
        have HF := hid hF
        clear hbA hbx hF
        go_upto_region 5 with fail
        go_cut [8, 9] (fun sa sb wx => ∃ Bx vb vd, sa = .pointer (some ⟨Bx, 0, none⟩) ∧ sb = .bool ok ∧ Hid (Below wr.heap.size wr wx ∧ BlockIs wx Bx 26 [.slice vb A.length vd] ∧ OwnAt wx 36 (fileCells A) A.length vb wr.heap.size wx.heap.size))
        case first =>
          go_region_with (first | (go_at_call 25; refine Calls.mono (CF.out _ HGa) ?_; rintro e w5 ⟨vb, vd, rfl, H5⟩) | (go_at_call 25; refine Calls.mono (CF.out _ HGb) ?_; rintro e w5 ⟨vb, vd, rfl, H5⟩; have z0 := (HBX.out.on H5.out.2.1 HBX.out.lt).cell (j := 0) rfl; have z1 := (HBX.out.on H5.out.2.1 HBX.out.lt).thaw 0))
          all_goals
            go_wp2_with fail
            go_meet
            first
            | (have hbm := below_more (Below.refl w5.heap.size w5) (.cells #[.slice vb A.length vd] 26)
               exact ⟨w5.heap.size, vb, vd, rfl, rfl, below_via H5.out.2.2 hbm, heap_alloc_new w5 _, (H5.out.1.on hbm).down (Nat.le_refl _) hbm.size⟩)
            | exact ⟨wr.heap.size, vb, vd, rfl, rfl, H5.out.2.2.setCell (p := ⟨wr.heap.size, 0, none⟩) (Nat.le_refl _) _, (HBX.out.on H5.out.2.1 HBX.out.lt).set 0 _, own_ret H5.out.1 (HBX.out.on H5.out.2.1 HBX.out.lt) (Nat.le_refl _) (by decide)⟩
        case rest =>
          obtain ⟨Bx, vb, vd, rfl, rfl, HC⟩ := hcut
          clear CF HGa HGb HBX x0 x1 x2 x3 y0 y1 y2 y3 o0 o1 r0 s0 t0
          have HI2 := hid (HI.out.on HC.out.1)
          have hst := doTo_step hlt HI.out.did
          have r0 := HI2.out.res.cell (j := 0) rfl
          have s0 := HI2.out.res.thaw 0
          have o0 := HI2.out.out.cell (j := 0) rfl
          have t0 := HI2.out.out.thaw 0
          have n0 := HC.out.2.1.cell (j := 0) rfl
          cases hr : doAct o acts[k] with
          | none =>
            rw [hr] at hst
            have hF := HF.out
            rw [doAns, hr] at hF
            cases hF
            have HT2 := hid hst
            have HT := hid HI.out.did
            have HB := hid (HI2.out.below.setCell (p := ⟨w.heap.size + 1, 0, none⟩) (by show _ ≤ _ + 1; omega) (.slice va o.length vc))
            have HO := hid (own_ret (v := .slice va o.length vc) HI2.out.own HI2.out.res (Nat.le_refl _) (by decide))
            clear HI HI2 HC hst hr HF
            go_wp2
            refine bodyPost_ret (v := .tuple #[.agg #[.slice va o.length vc], .int .i64 k]) (by simp [results, Try.results18, go_sem, r0]) rfl ⟨k, o, va, vc, rfl, ⟨HT.out, by omega, Or.inr HT2.out⟩, HO.out, HB.out⟩
          | some o' =>
            rw [hr] at hst
            have hF := HF.out
            rw [doAns, hr] at hF
            cases hF
            have hsm : A.length ≤ 1048576 := by have := (diskOk_iff.1 (doAct_right hr)).1; omega
            have HN : Hid (ActsIn w W2.heap.size [] acts (k + 1) A vb vd (wc.setCell ⟨W2.heap.size, 0, none⟩ (.slice vb A.length vd))) :=
              ⟨HI2.out.below.setCell (p := ⟨W2.heap.size, 0, none⟩) (by show _ ≤ W2.heap.size; have := HI2.out.far; omega) _, HI2.out.res.far (by have := HI2.out.far; omega) _, HI2.out.out.set 0 _, (own_ret HC.out.2.2 HI2.out.out (Nat.le_refl _) (by decide)).down (by have := HI.out.below.size; omega) (Nat.le_refl _), hst, hsm, HI2.out.far⟩
            clear HI HI2 HC hst hr HF
            go_wp2
            go_roundg q
            case measure => omega
            case rel => exact ⟨k + 1, A, vb, vd, by omega, by go_num, HN⟩

  | some ad =>
    subst hnil
    have hx0 : BlockIs (w.alloc (.cells #[.slice (some ad) 0 cap] 26)) w.heap.size 26 [.slice (some ad) 0 cap] := heap_alloc_new w _
    obtain ⟨W1, hW1⟩ : ∃ W1, (w.alloc (.cells #[.slice (some ad) 0 cap] 26)).alloc (.cells #[.slice none 0 0] 26) = W1 := ⟨_, rfl⟩
    have hs1 : W1.heap.size = w.heap.size + 2 := by rw [← hW1]; simp [World.alloc, -World.alloc_eq]
    have hb1 : Below w.heap.size w W1 := by rw [← hW1]; exact below_more (below_more (Below.refl _ w) _) _
    have hxD : BlockIs W1 w.heap.size 26 [.slice (some ad) 0 cap] := by rw [← hW1]; exact hx0.on (below_more (Below.refl _ _) _) hx0.lt
    have hxR : BlockIs W1 (w.heap.size + 1) 26 [.slice none 0 0] := by
      rw [← hW1]
      have := heap_alloc_new (w.alloc (.cells #[.slice (some ad) 0 cap] 26)) (.cells #[.slice none 0 0] 26)
      rw [show (w.alloc (.cells #[.slice (some ad) 0 cap] 26)).heap.size = w.heap.size + 1 by simp [World.alloc, -World.alloc_eq]] at this
      exact this
    obtain ⟨W2, hW2⟩ : ∃ W2, W1.alloc (.cells #[] 36) = W2 := ⟨_, rfl⟩
    have hbE : Below W1.heap.size W1 W2 := by rw [← hW2]; exact below_more (Below.refl W1.heap.size W1) _
    have d0 := (hxD.on hbE hxD.lt).cell (j := 0) rfl
    have hs2 : W2.heap.size = W1.heap.size + 1 := by rw [← hW2]; simp [World.alloc, -World.alloc_eq]
    have H2 := hid (And.intro (below_via hb1 hbE) (hxR.on hbE hxR.lt))
    have HS1 := hid hs1
    clear ha hq ham hx0 hb1 hxD hxR hbE hs1
    have q1 : ∀ W : World, ((pure #[] : Sem (Array Value)).run Try.prog W) = .ok #[] W := fun _ => rfl
    have q2 : ∀ (W : World) (a : Addr), (storeCells a []).run Try.prog W = .ok () W := fun _ _ => rfl
    go_enter Try.func18, Try.ntmps18
    have hbO := below_more (Below.refl W2.heap.size W2) (.cells #[.slice (some ⟨W1.heap.size, 0, none⟩) 0 0] 26)
    have hxO : BlockIs (W2.alloc (.cells #[.slice (some ⟨W1.heap.size, 0, none⟩) 0 0] 26)) W2.heap.size 26 [.slice (some ⟨W1.heap.size, 0, none⟩) 0 0] := heap_alloc_new W2 _
    have H3 : Hid (ActsIn w W2.heap.size [] acts 0 [] (some ⟨W1.heap.size, 0, none⟩) 0 (W2.alloc (.cells #[.slice (some ⟨W1.heap.size, 0, none⟩) 0 0] 26))) :=
      ⟨below_via H2.out.1 hbO, H2.out.2.on hbO H2.out.2.lt, hxO, Or.inl rfl, rfl, Nat.zero_le _, by have := HS1.out; omega⟩
    clear hbO hxO H2 HS1 hs2
    go_wp2
    clear q1 q2
    go_loopg [7, 8, 9] acts.length (fun q i _ _ wr => ∃ (k : Nat) (o : List FileD) (va : Option Addr) (vc : Nat), k + q = acts.length ∧ i = .int .i64 k ∧ Hid (ActsIn w W2.heap.size [] acts k o va vc wr))
    case atStart => exact ⟨0, [], _, _, by omega, rfl, H3⟩
    case round =>
      obtain ⟨k, o, va, vc, hkg, rfl, HI⟩ := hrel
      clear H3
      have r0 := HI.out.res.cell (j := 0) rfl
      have s0 := HI.out.res.thaw 0
      have o0 := HI.out.out.cell (j := 0) rfl
      have t0 := HI.out.out.thaw 0
      cases gk with
      | zero =>
        have hlt : ¬ (k : Int) < (acts.length : Int) := by omega
        have HB := hid (HI.out.below.setCell (p := ⟨w.heap.size + 1, 0, none⟩) (by show _ ≤ _ + 1; omega) (.slice va o.length vc))
        have HO := hid (own_ret (v := .slice va o.length vc) HI.out.own HI.out.res (Nat.le_refl _) (by decide))
        have HT := hid HI.out.did
        have hk : k = acts.length := by omega
        have HK := hid hk
        clear HI hk
        go_wp2
        refine bodyPost_ret (v := .tuple #[.agg #[.slice va o.length vc], .int .i64 acts.length]) (by simp [results, Try.results18, go_sem, r0]) rfl ⟨acts.length, o, va, vc, rfl, ⟨by rw [← HK.out]; exact HT.out, Nat.le_refl _, Or.inl rfl⟩, HO.out, HB.out⟩
      | succ q =>
        have hlt : k < acts.length := by omega
        have hlt' : (k : Int) < (acts.length : Int) := by omega
        have hne : acts ≠ [] := by intro e; rw [e] at hlt; simp at hlt
        obtain ⟨b', off', rfl, hc⟩ := HQ.out.on HI.out.below hne
        obtain ⟨x0, x1, x2, x3⟩ := hc k hlt
        clear hc
        have hbA := below_more (Below.refl wr.heap.size wr) (.cells #[.slice none 0 0] 26)
        have y0 := (hbA.cell (p := ⟨b', off' + k * 4, none⟩) (World.block_lt_of_cell? wr _ x0)).trans x0
        have y1 := (hbA.cell (p := ⟨b', off' + k * 4 + 1, none⟩) (World.block_lt_of_cell? wr _ x1)).trans x1
        have y2 := (hbA.cell (p := ⟨b', off' + k * 4 + 2, none⟩) (World.block_lt_of_cell? wr _ x2)).trans x2
        have y3 := (hbA.cell (p := ⟨b', off' + k * 4 + 3, none⟩) (World.block_lt_of_cell? wr _ x3)).trans x3
        have o1 := (HI.out.out.on hbA HI.out.out.lt).cell (j := 0) rfl
        have hbx : BlockIs (wr.alloc (.cells #[.slice none 0 0] 26)).drew wr.heap.size 26 [.slice none 0 0] := heap_alloc_new wr _
        have HGa := hid (show Below wr.heap.size wr wr.drew from below_drewN (Below.refl _ _) 1)
        have HGb := hid (show Below wr.heap.size wr (wr.alloc (.cells #[.slice none 0 0] 26)).drew from below_drewN hbA 1)
        have HBX := hid hbx
        obtain ⟨A, ok, hF⟩ : ∃ A ok, doAns o acts[k] = (A, ok) := ⟨_, _, rfl⟩
        have CF : Hid (∀ W, Hid (Below wr.heap.size wr W) → Calls Try.prog 25 #[.agg #[.slice va o.length vc], .agg #[.int .i64 acts[k].kind, .string acts[k].name, .string acts[k].text, .string acts[k].to]] W fun e W' => ∃ vb vd, e = .returned (.tuple #[.agg #[.slice vb A.length vd], .bool ok]) ∧ Hid (OwnAt W' 36 (fileCells A) A.length vb wr.heap.size W'.heap.size ∧ Below W.heap.size W W' ∧ Below wr.heap.size wr W')) := by
          intro W hW
          have CQ := specDoAct_o va o vc acts[k] HI.out.small (HM.out _ (List.getElem_mem hlt)).2.1 W (HI.out.files.on hW.out)
          rw [hF] at CQ
          dsimp only at CQ
          refine Calls.mono CQ ?_
          rintro e W' ⟨vb, vd, rfl, ho, hb⟩
          exact ⟨vb, vd, rfl, ho.down hW.out.size (Nat.le_refl _), hb, below_via hW.out hb⟩
        have HF := hid hF
        clear hbA hbx hF
        go_upto_region 5 with fail
        go_cut [8, 9] (fun sa sb wx => ∃ Bx vb vd, sa = .pointer (some ⟨Bx, 0, none⟩) ∧ sb = .bool ok ∧ Hid (Below wr.heap.size wr wx ∧ BlockIs wx Bx 26 [.slice vb A.length vd] ∧ OwnAt wx 36 (fileCells A) A.length vb wr.heap.size wx.heap.size))
        case first =>
          go_region_with (first | (go_at_call 25; refine Calls.mono (CF.out _ HGa) ?_; rintro e w5 ⟨vb, vd, rfl, H5⟩) | (go_at_call 25; refine Calls.mono (CF.out _ HGb) ?_; rintro e w5 ⟨vb, vd, rfl, H5⟩; have z0 := (HBX.out.on H5.out.2.1 HBX.out.lt).cell (j := 0) rfl; have z1 := (HBX.out.on H5.out.2.1 HBX.out.lt).thaw 0))
          all_goals
            go_wp2_with fail
            go_meet
            first
            | (have hbm := below_more (Below.refl w5.heap.size w5) (.cells #[.slice vb A.length vd] 26)
               exact ⟨w5.heap.size, vb, vd, rfl, rfl, below_via H5.out.2.2 hbm, heap_alloc_new w5 _, (H5.out.1.on hbm).down (Nat.le_refl _) hbm.size⟩)
            | exact ⟨wr.heap.size, vb, vd, rfl, rfl, H5.out.2.2.setCell (p := ⟨wr.heap.size, 0, none⟩) (Nat.le_refl _) _, (HBX.out.on H5.out.2.1 HBX.out.lt).set 0 _, own_ret H5.out.1 (HBX.out.on H5.out.2.1 HBX.out.lt) (Nat.le_refl _) (by decide)⟩
        case rest =>
          obtain ⟨Bx, vb, vd, rfl, rfl, HC⟩ := hcut
          clear CF HGa HGb HBX x0 x1 x2 x3 y0 y1 y2 y3 o0 o1 r0 s0 t0
          have HI2 := hid (HI.out.on HC.out.1)
          have hst := doTo_step hlt HI.out.did
          have r0 := HI2.out.res.cell (j := 0) rfl
          have s0 := HI2.out.res.thaw 0
          have o0 := HI2.out.out.cell (j := 0) rfl
          have t0 := HI2.out.out.thaw 0
          have n0 := HC.out.2.1.cell (j := 0) rfl
          cases hr : doAct o acts[k] with
          | none =>
            rw [hr] at hst
            have hF := HF.out
            rw [doAns, hr] at hF
            cases hF
            have HT2 := hid hst
            have HT := hid HI.out.did
            have HB := hid (HI2.out.below.setCell (p := ⟨w.heap.size + 1, 0, none⟩) (by show _ ≤ _ + 1; omega) (.slice va o.length vc))
            have HO := hid (own_ret (v := .slice va o.length vc) HI2.out.own HI2.out.res (Nat.le_refl _) (by decide))
            clear HI HI2 HC hst hr HF
            go_wp2
            refine bodyPost_ret (v := .tuple #[.agg #[.slice va o.length vc], .int .i64 k]) (by simp [results, Try.results18, go_sem, r0]) rfl ⟨k, o, va, vc, rfl, ⟨HT.out, by omega, Or.inr HT2.out⟩, HO.out, HB.out⟩
          | some o' =>
            rw [hr] at hst
            have hF := HF.out
            rw [doAns, hr] at hF
            cases hF
            have hsm : A.length ≤ 1048576 := by have := (diskOk_iff.1 (doAct_right hr)).1; omega
            have HN : Hid (ActsIn w W2.heap.size [] acts (k + 1) A vb vd (wc.setCell ⟨W2.heap.size, 0, none⟩ (.slice vb A.length vd))) :=
              ⟨HI2.out.below.setCell (p := ⟨W2.heap.size, 0, none⟩) (by show _ ≤ W2.heap.size; have := HI2.out.far; omega) _, HI2.out.res.far (by have := HI2.out.far; omega) _, HI2.out.out.set 0 _, (own_ret HC.out.2.2 HI2.out.out (Nat.le_refl _) (by decide)).down (by have := HI.out.below.size; omega) (Nat.le_refl _), hst, hsm, HI2.out.far⟩
            clear HI HI2 HC hst hr HF
            go_wp2
            go_roundg q
            case measure => omega
            case rel => exact ⟨k + 1, A, vb, vd, by omega, by go_num, HN⟩

end Go.Proofs.Ytfkknmhokiacaaa

namespace Go.Proofs.Ytfkknmhokiacaaa
open Go.RowKit

theorem found_right {l : List FileD} {s : ByteArray} {f : FileD} (hd : diskOk l = true) (hf : foundOf l s = some f) : nameOk s = true ∧ f.text.size ≤ 20000 ∧ 0 ≤ f.kept ∧ f.kept ≤ f.text.size := by
  obtain ⟨hm, hn⟩ := found_mem hf
  have := (diskOk_iff.1 hd).2.1 f hm
  simp only [fileOk, Bool.and_eq_true, decide_eq_true_eq, within] at this
  exact ⟨by rw [← hn]; exact this.1.1, this.1.2, this.2.1, this.2.2⟩
theorem put_right {l : List FileD} {f : FileD} (hd : diskOk l = true) (hf : fileOk f = true) (hl : (filesPut l f).length ≤ 30) : diskOk (filesPut l f) = true := by
  obtain ⟨_, h2, h3⟩ := diskOk_iff.1 hd
  refine diskOk_iff.2 ⟨hl, fun g hg => ?_, asc_put h3 f⟩
  rcases mem_put.1 hg with rfl | ⟨h, _⟩
  · exact hf
  · exact h2 g h
theorem not_right {l : List FileD} {x : ByteArray} (hd : diskOk l = true) : diskOk (filesNot l x) = true := by
  obtain ⟨h1, h2, h3⟩ := diskOk_iff.1 hd
  exact diskOk_iff.2 ⟨Nat.le_trans (List.length_filter_le _ _) h1, fun g hg => h2 g (mem_not.1 hg).1, asc_not h3 x⟩
theorem put_same_length {l : List FileD} {f g : FileD} (hd : diskOk l = true) (hf : foundOf l f.name = some g) : (filesPut l f).length = l.length := by
  obtain ⟨hm, hn⟩ := found_mem hf
  rw [put_length, not_length (diskOk_iff.1 hd).2.2 ⟨g, hm, hn⟩]
theorem put_new_length {l : List FileD} {f : FileD} (hf : foundOf l f.name = none) : (filesPut l f).length = l.length + 1 := by
  rw [put_length, not_all (found_not hf)]
theorem put_wrong {l : List FileD} {f : FileD} (h : fileOk f = false) : diskOk (filesPut l f) = false := by
  cases hd : diskOk (filesPut l f) with
  | false => rfl
  | true => rw [(diskOk_iff.1 hd).2.1 f (mem_put.2 (Or.inl rfl))] at h; cases h

theorem blank_empty : blank ByteArray.empty = true := by rw [blank, ByteArray.toList_eq]; rfl
theorem actOk_of {l : List FileD} {a : ActD} (hd : diskOk l = true) (hn : nameOk a.name = true) (h3 : a.kind = 3 ∨ a.to = ByteArray.empty) (h1 : a.kind = 1 ∨ a.text = ByteArray.empty) : actOk l a = true := by
  unfold actOk
  rw [hd, hn]
  simp only [Bool.true_and, Bool.and_eq_true, Bool.or_eq_true, beq_iff_eq]
  exact ⟨h3.imp id fun e => by rw [e]; exact blank_empty, h1.imp id fun e => by rw [e]; exact blank_empty⟩
theorem size_add (s t : ByteArray) : (s ++ t).size = s.size + t.size := by simp

theorem doAct_add_found {l : List FileD} {name text : ByteArray} {f : FileD} (hd : diskOk l = true) (hf : foundOf l name = some f) :
    doAct l ⟨1, name, text, ByteArray.empty⟩ = if f.text.size + text.size ≤ 20000 then some (filesPut l ⟨name, f.text ++ text, f.kept⟩) else none := by
  obtain ⟨r1, r2, r3, r4⟩ := found_right hd hf
  rw [doAct, if_pos (actOk_of hd r1 (Or.inr rfl) (Or.inl rfl)), doTry, if_pos rfl]
  dsimp only
  rw [hf]
  dsimp only [Option.getD]
  by_cases h : f.text.size + text.size ≤ 20000
  · rw [if_pos h, if_pos (put_right hd (by simp only [fileOk, r1, within, size_add, Bool.true_and, Bool.and_eq_true, decide_eq_true_eq]; omega) (by rw [put_same_length hd hf]; exact (diskOk_iff.1 hd).1))]
  · rw [if_neg h, if_neg (by rw [put_wrong (by simp [fileOk, h])]; simp)]
theorem doAct_add_new {l : List FileD} {name text : ByteArray} (hd : diskOk l = true) (hf : foundOf l name = none) :
    doAct l ⟨1, name, text, ByteArray.empty⟩ = if nameOk name = true ∧ l.length < 30 ∧ text.size ≤ 20000 then some (filesPut l ⟨name, ByteArray.empty ++ text, 0⟩) else none := by
  by_cases hn : nameOk name = true
  · rw [doAct, if_pos (actOk_of hd hn (Or.inr rfl) (Or.inl rfl)), doTry, if_pos rfl]
    dsimp only
    rw [hf]
    dsimp only [Option.getD]
    have hlen := put_new_length (f := ⟨name, ByteArray.empty ++ text, 0⟩) hf
    by_cases h : l.length < 30 ∧ text.size ≤ 20000
    · have hsz : (ByteArray.empty ++ text).size = text.size := by rw [size_add]; simp
      rw [if_pos (put_right hd (by simp only [fileOk, hn, within, hsz, Bool.true_and, Bool.and_eq_true, decide_eq_true_eq]; omega) (by rw [hlen]; omega)), if_pos ⟨hn, h⟩]
    · rw [if_neg, if_neg (fun q => h q.2)]
      intro hq
      obtain ⟨q1, q2, _⟩ := diskOk_iff.1 hq
      have q3 := q2 _ (mem_put.2 (Or.inl rfl))
      have hsz : (ByteArray.empty ++ text).size = text.size := by rw [size_add]; simp
      simp only [fileOk, Bool.and_eq_true, decide_eq_true_eq, hsz] at q3
      exact h ⟨by omega, q3.1.2⟩
  · rw [if_neg (fun q => hn q.1), doAct, if_neg]
    intro q
    simp only [actOk, Bool.and_eq_true] at q
    exact hn q.1.1.2
theorem doAct_keep_found {l : List FileD} {name : ByteArray} {f : FileD} (hd : diskOk l = true) (hf : foundOf l name = some f) :
    doAct l ⟨2, name, ByteArray.empty, ByteArray.empty⟩ = some (filesPut l ⟨name, f.text, f.text.size⟩) := by
  obtain ⟨r1, r2, r3, r4⟩ := found_right hd hf
  have hfn := (found_mem hf).2
  rw [doAct, if_pos (actOk_of hd r1 (Or.inr rfl) (Or.inr rfl)), doTry, if_neg (by simp)]
  dsimp only
  rw [hf]
  dsimp only
  rw [if_pos rfl, hfn]
  dsimp only
  rw [if_pos (put_right hd (by simp only [fileOk, r1, within, Bool.true_and, Bool.and_eq_true, decide_eq_true_eq]; omega) (by rw [put_same_length hd hf]; exact (diskOk_iff.1 hd).1))]
theorem doAct_drop_found {l : List FileD} {name : ByteArray} {f : FileD} (hd : diskOk l = true) (hf : foundOf l name = some f) :
    doAct l ⟨4, name, ByteArray.empty, ByteArray.empty⟩ = some (filesNot l name) := by
  obtain ⟨r1, _⟩ := found_right hd hf
  rw [doAct, if_pos (actOk_of hd r1 (Or.inr rfl) (Or.inr rfl)), doTry, if_neg (by simp)]
  dsimp only
  rw [hf]
  dsimp only
  rw [if_neg (by simp), if_neg (by simp), if_pos rfl]
  dsimp only
  rw [if_pos (not_right hd)]
theorem doAct_move_found {l : List FileD} {name to : ByteArray} {f : FileD} (hd : diskOk l = true) (hf : foundOf l name = some f) :
    doAct l ⟨3, name, ByteArray.empty, to⟩ = if (decide (f.kept < f.text.size) || to.toList == name.toList || !nameOk to) = true then none else some (filesPut (filesNot l name) ⟨to, f.text, f.kept⟩) := by
  obtain ⟨r1, r2, r3, r4⟩ := found_right hd hf
  obtain ⟨hm, hfn⟩ := found_mem hf
  rw [doAct, if_pos (actOk_of hd r1 (Or.inl rfl) (Or.inr rfl)), doTry, if_neg (by simp)]
  dsimp only
  rw [hf]
  dsimp only
  rw [if_neg (by simp), if_pos rfl]
  by_cases h : (decide (f.kept < f.text.size) || to.toList == name.toList || !nameOk to) = true
  · rw [if_pos h]
  · rw [if_neg h]
    dsimp only
    have hto : nameOk to = true := by
      cases q : nameOk to with
      | true => rfl
      | false => rw [q] at h; simp at h
    have hlen := not_length (diskOk_iff.1 hd).2.2 ⟨f, hm, hfn⟩
    have hps : (filesPut (filesNot l name) ⟨to, f.text, f.kept⟩).length ≤ 30 := by
      rw [put_length]
      have : (filesNot (filesNot l name) to).length ≤ (filesNot l name).length := List.length_filter_le _ _
      have := (diskOk_iff.1 hd).1
      show (filesNot (filesNot l name) to).length + 1 ≤ 30
      omega
    rw [if_pos (put_right (not_right hd) (by simp only [fileOk, hto, within, Bool.true_and, Bool.and_eq_true, decide_eq_true_eq]; omega) hps)]
theorem doAct_none {l : List FileD} {a : ActD} (hk : a.kind ≠ 1) (hf : foundOf l a.name = none) : doAct l a = none := by
  rw [doAct, doTry, if_neg hk, hf]
  split <;> rfl
theorem doAct_other {l : List FileD} {a : ActD} (h1 : a.kind ≠ 1) (h2 : a.kind ≠ 2) (h3 : a.kind ≠ 3) (h4 : a.kind ≠ 4) : doAct l a = none := by
  cases hf : foundOf l a.name with
  | none => exact doAct_none h1 hf
  | some f =>
    rw [doAct, doTry, if_neg h1, hf]
    dsimp only
    rw [if_neg h2, if_neg h3, if_neg h4]
    split <;> rfl
theorem doAct_bad {l : List FileD} {a : ActD} (h : (a.kind ≠ 1 ∧ blank a.text = false) ∨ (a.kind ≠ 3 ∧ blank a.to = false)) : doAct l a = none := by
  rw [doAct, if_neg]
  intro q
  simp only [actOk, Bool.and_eq_true, Bool.or_eq_true, beq_iff_eq] at q
  rcases h with ⟨h1, h2⟩ | ⟨h1, h2⟩
  · rcases q.2 with q | q
    · exact h1 q
    · rw [h2] at q; cases q
  · rcases q.1.2 with q | q
    · exact h1 q
    · rw [h2] at q; cases q
end Go.Proofs.Ytfkknmhokiacaaa
