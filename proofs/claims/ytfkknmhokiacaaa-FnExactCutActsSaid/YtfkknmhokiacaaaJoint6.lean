/-
  The walk of spec.DoAct at every act.
  What each kind of act leaves of a right disk.
  An open disk: files behind pointers in a map of the call's own, by their names.
  The walk of impl.opened: a right disk is opened.
  The walk of strings.Clone: the text itself, in new memory.
  The walks of impl.copiedFile, impl.copiedDisk: a disk is laid anew, in memory of its own.
-/
import Derived.Test.YtfkknmhokiacaaaJoint5
import Derived.Test.YtfkknmhokiacaaaJoint2
import Derived.Maps.OwnSet
import Derived.Maps.OwnOps
import Derived.Sort.KeysCollected
import Derived.Test.YtfkknmhokiacaaaJoint3
import Derived.Test.YtfkknmhokiacaaaRows
import Derived.Test.YtfkknmhokiacaaaJoint1
import Derived.Lib.UnsafeStr
import Derived.Lib.BufferWrite
import Derived.Laws.CopyOwn
import Derived.WalkKit
import Derived.Deep.RegionWith
namespace Go.Proofs.Ytfkknmhokiacaaa
open Go.RowKit

set_option maxRecDepth 1000000 in
set_option maxHeartbeats 4000000 in
theorem specOther_any (ao : Option Addr) (l : List FileD) (cap : Nat) (name : ByteArray) (hd : diskOk l = true) (hn : nameOk name = true) (kd : Int) (q1 : (kd == 1) = false) (q2 : (kd == 2) = false) (q3 : (kd == 3) = false) (q4 : (kd == 4) = false) (_ : ¬ kd = 1) (_ : ¬ kd = 2) (_ : ¬ kd = 3) (_ : ¬ kd = 4) (w : World) (ha : FilesAt w ao l) :
    Calls Try.prog 25 #[.agg #[.slice ao l.length cap], .agg #[.int .i64 kd, .string name, .string ByteArray.empty, .string ByteArray.empty]] w fun e w' => ∃ va vc, e = .returned (.tuple #[.agg #[.slice va (doAns l ⟨kd, name, ByteArray.empty, ByteArray.empty⟩).1.length vc], .bool (doAns l ⟨kd, name, ByteArray.empty, ByteArray.empty⟩).2]) ∧ OwnAt w' 36 (fileCells (doAns l ⟨kd, name, ByteArray.empty, ByteArray.empty⟩).1) (doAns l ⟨kd, name, ByteArray.empty, ByteArray.empty⟩).1.length va w.heap.size w'.heap.size ∧ Below w.heap.size w w' := by
  have HA := hid ha
  have hl : l.length ≤ 30 := (diskOk_iff.1 hd).1
  have h3 := three_boxes w (.cells #[.slice ao l.length cap] 26) (.cells #[.int .i64 kd, .string name, .string ByteArray.empty, .string ByteArray.empty] 45) (.cells #[.slice none 0 0] 26)
  have H3 := hid h3
  clear h3 ha
  obtain ⟨W0, hW0⟩ : ∃ W0, ((w.alloc (.cells #[.slice ao l.length cap] 26)).alloc (.cells #[.int .i64 kd, .string name, .string ByteArray.empty, .string ByteArray.empty] 45)).alloc (.cells #[.slice none 0 0] 26) = W0 := ⟨_, rfl⟩
  rw [hW0] at H3
  have X0 : Hid (BlockIs W0 w.heap.size 26 [.slice ao l.length cap] ∧ BlockIs W0 (w.heap.size + 1) 45 [.int .i64 kd, .string name, .string ByteArray.empty, .string ByteArray.empty] ∧ BlockIs W0 (w.heap.size + 1 + 1) 26 [.slice none 0 0]) := H3.out.2.2
  have c0 := X0.out.1.cell (j := 0) rfl
  have C := hid (fun w ha => specDiskOk_any ao l cap (by omega) w ha)
  rw [hd] at C
  have cN' := fun w => l03Name_any name w
  rw [hn] at cN'
  have cN := hid cN'
  have cAt := hid (fun w ha => l03At_any ao l cap name (by omega) w ha)
  have HD := hid hd
  have HN := hid hn
  clear cN' hd hn
  go_enter Try.func25, Try.ntmps25
  go_wp2_with fail
  refine (C.out W0 (HA.out.on H3.out.1)).mono ?_
  rintro e w1 ⟨rfl, b1⟩
  have B1 := hid (below_via H3.out.1 b1)
  have X1 := hid (And.intro (X0.out.1.on b1 X0.out.1.lt) (And.intro (X0.out.2.1.on b1 X0.out.2.1.lt) (X0.out.2.2.on b1 X0.out.2.2.lt)))
  have a0 := X1.out.2.1.cell (j := 0) rfl
  have a1 := X1.out.2.1.cell (j := 1) rfl
  have a2 := X1.out.2.1.cell (j := 2) rfl
  have a3 := X1.out.2.1.cell (j := 3) rfl
  have d0 := X1.out.1.cell (j := 0) rfl
  clear b1 C H3 X0 c0 hW0 W0
  go_wp2_with fail
  refine (cN.out _).mono ?_
  rintro e w' ⟨rfl, hw⟩
  rw [hw]
  clear hw w' cN
  go_wp2_with fail
  refine (cAt.out _ (HA.out.on B1.out)).mono ?_
  rintro e w2 ⟨hor, b2⟩
  have B2 := hid (below_via B1.out b2)
  have X2 := hid (And.intro (X1.out.1.on b2 X1.out.1.lt) (And.intro (X1.out.2.1.on b2 X1.out.2.1.lt) (X1.out.2.2.on b2 X1.out.2.2.lt)))
  clear b2 cAt B1 X1 a0 a1 a2 a3 d0
  have a0 := X2.out.2.1.cell (j := 0) rfl
  have a1 := X2.out.2.1.cell (j := 1) rfl
  have a2 := X2.out.2.1.cell (j := 2) rfl
  have a3 := X2.out.2.1.cell (j := 3) rfl
  have d0 := X2.out.1.cell (j := 0) rfl
  have r0 := X2.out.2.2.cell (j := 0) rfl
  have s0 := X2.out.2.2.thaw 0
  rcases hor with ⟨k, hfirst, rfl⟩ | ⟨hnone, rfl⟩
  · have hk := hfirst.1
    have hk' : (k : Int) < (l.length : Int) := by omega
    have hk0 : (0 : Int) ≤ (k : Int) := by omega
    have hk1 : ¬ (k : Int) < 0 := by omega
    have htk : l[k].text.size ≤ 20000 := (diskOk_kept HD.out hk).2.2
    have hne : l ≠ [] := by intro e; rw [e] at hk; simp at hk
    obtain ⟨b, off, rfl, hc⟩ := HA.out.on B2.out hne
    obtain ⟨x0', x1', x2'⟩ := hc k hk
    have hbF := below_more (Below.refl w2.heap.size w2) (.cells #[.string name, .string ⟨#[]⟩, .int .i64 0] 36)
    have x0 := (hbF.cell (p := ⟨b, off + k * 3, none⟩) (World.block_lt_of_cell? w2 _ x0')).trans x0'
    have x1 := (hbF.cell (p := ⟨b, off + k * 3 + 1, none⟩) (World.block_lt_of_cell? w2 _ x1')).trans x1'
    have x2 := (hbF.cell (p := ⟨b, off + k * 3 + 2, none⟩) (World.block_lt_of_cell? w2 _ x2')).trans x2'
    have d1 := (hbF.cell (p := ⟨w.heap.size, 0, none⟩) (World.block_lt_of_cell? w2 _ d0)).trans d0
    have HFD : Hid (foundOf l name = some l[k]) := found_some hfirst
    have HNM : Hid (l[k].name = name) := hfirst.2.1
    have p1 := a1
    clear hc x0' x1' x2' hbF d0 a0 a1 a2 a3 r0 s0 hfirst
    obtain ⟨Wa, hWa⟩ : ∃ Wa, (w2.alloc (.cells #[.string l[k].name, .string l[k].text, .int .i64 l[k].kept] 36)).alloc (.cells #[.slice none 0 0] 26) = Wa := ⟨_, rfl⟩
    have Ya : Hid (ActIn w w2.heap.size (.slice (some ⟨b, off, none⟩) l.length cap) [.int .i64 kd, .string name, .string ByteArray.empty, .string ByteArray.empty] l[k] (.slice none 0 0) Wa) := by rw [← hWa]; exact hid (ActIn.start B2.out X2.out l[k] (.slice none 0 0))
    obtain ⟨W3, hW3⟩ : ∃ W3, Wa.setCell ⟨w2.heap.size + 1, 0, none⟩ (.slice none 0 0) = W3 := ⟨_, rfl⟩
    have Y3 := hid (Ya.out.setOut (.slice none 0 0))
    rw [hW3] at Y3
    obtain ⟨-, -, -, -, -, -, -, -, -, ya0, -, -, ya1⟩ := Ya.out.cells
    obtain ⟨d0, a0, a1, a2, a3, r0, f0, f1, f2, o0, s0, ⟨t0, t1, t2⟩, u0⟩ := Y3.out.cells
    clear Ya
    have hfin := hid (show doAns l ⟨kd, name, ByteArray.empty, ByteArray.empty⟩ = ([], false) from doAns_no (by unfold doTry; rw [if_neg (by simpa using q1)]; dsimp only; rw [HFD.out]; dsimp only; rw [if_neg (by simpa using q2), if_neg (by simpa using q3), if_neg (by simpa using q4)]))
    have HB := hid (Y3.out.below.setCell (p := ⟨w.heap.size + 1 + 1, 0, none⟩) (by show _ ≤ _ + 1 + 1; omega) (.slice none 0 0))
    go_wp2
    refine bodyPost_ret (v := .tuple #[.agg #[.slice none 0 0], .bool false]) (by simp [results, Try.results25, go_sem, r0]) rfl ?_
    rw [hfin.out]
    exact ⟨none, 0, rfl, Or.inl rfl, HB.out⟩

  · have HFD : Hid (foundOf l name = none) := found_none hnone
    have p1 := a1
    clear d0 a0 a1 a2 a3 r0 s0 hnone
    obtain ⟨Wa, hWa⟩ : ∃ Wa, (w2.alloc (.cells #[.string name, .string ⟨#[]⟩, .int .i64 0] 36)).alloc (.cells #[.slice none 0 0] 26) = Wa := ⟨_, rfl⟩
    have Ya : Hid (ActIn w w2.heap.size (.slice ao l.length cap) [.int .i64 kd, .string name, .string ByteArray.empty, .string ByteArray.empty] (⟨name, ⟨#[]⟩, 0⟩ : FileD) (.slice none 0 0) Wa) := by rw [← hWa]; exact hid (ActIn.start B2.out X2.out (⟨name, ⟨#[]⟩, 0⟩ : FileD) (.slice none 0 0))
    obtain ⟨W3, hW3⟩ : ∃ W3, Wa.setCell ⟨w2.heap.size + 1, 0, none⟩ (.slice none 0 0) = W3 := ⟨_, rfl⟩
    have Y3 := hid (Ya.out.setOut (.slice none 0 0))
    rw [hW3] at Y3
    obtain ⟨-, -, -, -, -, -, -, -, -, ya0, -, -, ya1⟩ := Ya.out.cells
    obtain ⟨d0, a0, a1, a2, a3, r0, f0, f1, f2, o0, s0, ⟨t0, t1, t2⟩, u0⟩ := Y3.out.cells
    clear Ya
    have hfin := hid (show doAns l ⟨kd, name, ByteArray.empty, ByteArray.empty⟩ = ([], false) from doAns_no (by unfold doTry; rw [if_neg (by simpa using q1)]; dsimp only; rw [HFD.out]))
    have HB := hid (Y3.out.below.setCell (p := ⟨w.heap.size + 1 + 1, 0, none⟩) (by show _ ≤ _ + 1 + 1; omega) (.slice none 0 0))
    go_wp2
    refine bodyPost_ret (v := .tuple #[.agg #[.slice none 0 0], .bool false]) (by simp [results, Try.results25, go_sem, r0]) rfl ?_
    rw [hfin.out]
    exact ⟨none, 0, rfl, Or.inl rfl, HB.out⟩


set_option maxRecDepth 1000000 in
set_option maxHeartbeats 4000000 in
theorem specBad_any (ao : Option Addr) (l : List FileD) (cap : Nat) (a : ActD) (hl : l.length ≤ 1048576) (hok : actOk l a = false) (w : World) (ha : FilesAt w ao l) :
    Calls Try.prog 25 #[.agg #[.slice ao l.length cap], a.value] w fun e w' => e = .returned (.tuple #[.agg #[.slice none 0 0], .bool false]) ∧ Below w.heap.size w w' := by
  unfold ActD.value
  have HA := hid ha
  have h3 := three_boxes w (.cells #[.slice ao l.length cap] 26) (.cells #[.int .i64 a.kind, .string a.name, .string a.text, .string a.to] 45) (.cells #[.slice none 0 0] 26)
  have H3 := hid h3
  clear h3 ha
  obtain ⟨W0, hW0⟩ : ∃ W0, ((w.alloc (.cells #[.slice ao l.length cap] 26)).alloc (.cells #[.int .i64 a.kind, .string a.name, .string a.text, .string a.to] 45)).alloc (.cells #[.slice none 0 0] 26) = W0 := ⟨_, rfl⟩
  rw [hW0] at H3
  have X0 : Hid (BlockIs W0 w.heap.size 26 [.slice ao l.length cap] ∧ BlockIs W0 (w.heap.size + 1) 45 [.int .i64 a.kind, .string a.name, .string a.text, .string a.to] ∧ BlockIs W0 (w.heap.size + 1 + 1) 26 [.slice none 0 0]) := H3.out.2.2
  have c0 := X0.out.1.cell (j := 0) rfl
  have C' := fun w ha => specDiskOk_any ao l cap (by omega) w ha
  go_enter Try.func25, Try.ntmps25
  cases hd : diskOk l with
  | false =>
    rw [hd] at C'
    have C := hid C'
    clear C'
    go_wp2_with fail
    refine (C.out W0 (HA.out.on H3.out.1)).mono ?_
    rintro e w1 ⟨rfl, b1⟩
    have B1 := hid ((below_via H3.out.1 b1).setCell (p := ⟨w.heap.size + 1 + 1, 0, none⟩) (by show _ ≤ _ + 1 + 1; omega) (.slice none 0 0))
    have X1 := X0.out.2.2.on b1 X0.out.2.2.lt
    have r0 := X1.cell (j := 0) rfl
    have s0 := X1.thaw 0
    clear b1 C H3 X0 c0 hW0 X1 hd hok
    go_wp2
    refine bodyPost_ret (v := .tuple #[.agg #[.slice none 0 0], .bool false]) (by simp [results, Try.results25, go_sem, r0]) rfl ⟨rfl, B1.out⟩
  | true =>
    rw [hd] at C'
    have C := hid C'
    clear C'
    go_wp2_with fail
    refine (C.out W0 (HA.out.on H3.out.1)).mono ?_
    rintro e w1 ⟨rfl, b1⟩
    have B1 := hid ((below_via H3.out.1 b1).setCell (p := ⟨w.heap.size + 1 + 1, 0, none⟩) (by show _ ≤ _ + 1 + 1; omega) (.slice none 0 0))
    have X1 := X0.out.2.2.on b1 X0.out.2.2.lt
    have X2 := X0.out.2.1.on b1 X0.out.2.1.lt
    have r0 := X1.cell (j := 0) rfl
    have s0 := X1.thaw 0
    have a0 := X2.cell (j := 0) rfl
    have a1 := X2.cell (j := 1) rfl
    have a2 := X2.cell (j := 2) rfl
    have a3 := X2.cell (j := 3) rfl
    clear b1 C H3 X0 c0 hW0 X1 X2
    have cN' := fun w => l03Name_any a.name w
    cases hn : nameOk a.name with
    | false =>
      rw [hn] at cN'
      have cN := hid cN'
      clear cN' hd hn hok
      go_wp2_with fail
      refine (cN.out _).mono ?_
      rintro e w' ⟨rfl, hw⟩
      rw [hw]
      clear hw w' cN
      go_wp2
      refine bodyPost_ret (v := .tuple #[.agg #[.slice none 0 0], .bool false]) (by simp [results, Try.results25, go_sem, r0]) rfl ⟨rfl, B1.out⟩
    | true =>
      rw [hn] at cN'
      have cN := hid cN'
      clear cN'
      go_wp2_with fail
      refine (cN.out _).mono ?_
      rintro e w' ⟨rfl, hw⟩
      rw [hw]
      clear hw w' cN
      rw [actOk, hd, hn] at hok
      cases h3 : (a.kind == 3) with
      | false =>
        have k3 : ¬ a.kind = 3 := by simpa using h3
        cases hb : (a.to.toList == []) with
        | false =>
          clear hd hn hok
          go_wp2
          refine bodyPost_ret (v := .tuple #[.agg #[.slice none 0 0], .bool false]) (by simp [results, Try.results25, go_sem, r0]) rfl ⟨rfl, B1.out⟩
        | true =>
          have h1 : (a.kind == 1) = false := by
            cases h : (a.kind == 1) with
            | false => rfl
            | true => rw [h3, h, blank, hb] at hok; simp at hok
          have k1 : ¬ a.kind = 1 := by simpa using h1
          have hb2 : (a.text.toList == []) = false := by
            cases h : (a.text.toList == []) with
            | false => rfl
            | true => rw [h3, h1, blank, blank, h, hb] at hok; simp at hok
          clear hd hn hok
          go_wp2
          refine bodyPost_ret (v := .tuple #[.agg #[.slice none 0 0], .bool false]) (by simp [results, Try.results25, go_sem, r0]) rfl ⟨rfl, B1.out⟩
      | true =>
        have hk3 : a.kind = 3 := by simpa using h3
        have h1 : (a.kind == 1) = false := by rw [hk3]; rfl
        have k1 : ¬ a.kind = 1 := by simpa using h1
        have hb2 : (a.text.toList == []) = false := by
          cases h : (a.text.toList == []) with
          | false => rfl
          | true => rw [h3, blank, blank, h] at hok; simp at hok
        clear hd hn hok
        go_wp2
        refine bodyPost_ret (v := .tuple #[.agg #[.slice none 0 0], .bool false]) (by simp [results, Try.results25, go_sem, r0]) rfl ⟨rfl, B1.out⟩

theorem blank_eq {s : ByteArray} (h : blank s = true) : s = ByteArray.empty := by
  rw [blank, beq_iff_eq] at h
  exact text_eq (by rw [h, ByteArray.toList_eq]; rfl)

theorem doAns_small {l : List FileD} {a : ActD} : (doAns l a).1.length ≤ 1048576 := by
  unfold doAns
  split
  · exact Nat.zero_le _
  · rename_i o h
    have := (diskOk_iff.1 (doAct_right h)).1
    show o.length ≤ _
    omega

theorem specDoAct_o (ao : Option Addr) (l : List FileD) (cap : Nat) (a : ActD) (hl : l.length ≤ 1048576) (ht : a.text.size ≤ 1048576) (w : World) (ha : FilesAt w ao l) :
    Calls Try.prog 25 #[.agg #[.slice ao l.length cap], a.value] w fun e w' => ∃ va vc, e = .returned (.tuple #[.agg #[.slice va (doAns l a).1.length vc], .bool (doAns l a).2]) ∧ OwnAt w' 36 (fileCells (doAns l a).1) (doAns l a).1.length va w.heap.size w'.heap.size ∧ Below w.heap.size w w' := by
  cases hok : actOk l a with
  | false =>
    refine (specBad_any ao l cap a hl hok w ha).mono ?_
    rintro e w' ⟨rfl, hb⟩
    have : doAns l a = ([], false) := by simp [doAns, doAct, hok]
    rw [this]
    exact ⟨none, 0, rfl, Or.inl rfl, hb⟩
  | true =>
    obtain ⟨kd, name, text, to⟩ := a
    simp only [actOk, Bool.and_eq_true, Bool.or_eq_true, beq_iff_eq] at hok
    obtain ⟨⟨⟨hd, hn⟩, h3⟩, h1⟩ := hok
    unfold ActD.value
    by_cases k1 : kd = 1
    · subst k1
      obtain rfl := blank_eq (h3.resolve_left (by decide))
      exact specAdd_any ao l cap name text hd hn ht w ha
    · obtain rfl := blank_eq (h1.resolve_left k1)
      by_cases k3 : kd = 3
      · subst k3
        exact specMove_any ao l cap name to hd hn w ha
      · obtain rfl := blank_eq (h3.resolve_left k3)
        by_cases k2 : kd = 2
        · subst k2
          exact specKeep_any ao l cap name hd hn w ha
        · by_cases k4 : kd = 4
          · subst k4
            exact specDrop_any ao l cap name hd hn w ha
          · exact specOther_any ao l cap name hd hn kd (by simpa using k1) (by simpa using k2) (by simpa using k3) (by simpa using k4) k1 k2 k3 k4 w ha
end Go.Proofs.Ytfkknmhokiacaaa

namespace Go.Proofs.Ytfkknmhokiacaaa
open Go.RowKit

theorem found_right {l : List FileD} {s : ByteArray} {f : FileD} (hd : diskOk l = true) (hf : foundOf l s = some f) : nameOk s = true ∧ f.text.size ≤ 20000 ∧ 0 ≤ f.kept ∧ f.kept ≤ f.text.size := by
  obtain ⟨hm, hn⟩ := found_mem hf
  have := (diskOk_iff.1 hd).2.1 f hm
  simp only [fileOk, Bool.and_eq_true, decide_eq_true_eq, within] at this
  exact ⟨by rw [← hn]; exact this.1.1, this.1.2, this.2.1, this.2.2⟩
theorem put_right {l : List FileD} {f : FileD} (hd : diskOk l = true) (hf : fileOk f = true) (hl : (filesPut l f).length ≤ 30) : diskOk (filesPut l f) = true := by
  obtain ⟨_, h2, h3⟩ := diskOk_iff.1 hd
  refine diskOk_iff.2 ⟨hl, fun g hg => ?_, asc_put h3 f⟩
  rcases mem_put.1 hg with rfl | ⟨h, _⟩
  · exact hf
  · exact h2 g h
theorem not_right {l : List FileD} {x : ByteArray} (hd : diskOk l = true) : diskOk (filesNot l x) = true := by
  obtain ⟨h1, h2, h3⟩ := diskOk_iff.1 hd
  exact diskOk_iff.2 ⟨Nat.le_trans (List.length_filter_le _ _) h1, fun g hg => h2 g (mem_not.1 hg).1, asc_not h3 x⟩
theorem put_same_length {l : List FileD} {f g : FileD} (hd : diskOk l = true) (hf : foundOf l f.name = some g) : (filesPut l f).length = l.length := by
  obtain ⟨hm, hn⟩ := found_mem hf
  rw [put_length, not_length (diskOk_iff.1 hd).2.2 ⟨g, hm, hn⟩]
theorem put_new_length {l : List FileD} {f : FileD} (hf : foundOf l f.name = none) : (filesPut l f).length = l.length + 1 := by
  rw [put_length, not_all (found_not hf)]
theorem put_wrong {l : List FileD} {f : FileD} (h : fileOk f = false) : diskOk (filesPut l f) = false := by
  cases hd : diskOk (filesPut l f) with
  | false => rfl
  | true => rw [(diskOk_iff.1 hd).2.1 f (mem_put.2 (Or.inl rfl))] at h; cases h

theorem blank_empty : blank ByteArray.empty = true := by rw [blank, ByteArray.toList_eq]; rfl
theorem actOk_of {l : List FileD} {a : ActD} (hd : diskOk l = true) (hn : nameOk a.name = true) (h3 : a.kind = 3 ∨ a.to = ByteArray.empty) (h1 : a.kind = 1 ∨ a.text = ByteArray.empty) : actOk l a = true := by
  unfold actOk
  rw [hd, hn]
  simp only [Bool.true_and, Bool.and_eq_true, Bool.or_eq_true, beq_iff_eq]
  exact ⟨h3.imp id fun e => by rw [e]; exact blank_empty, h1.imp id fun e => by rw [e]; exact blank_empty⟩
theorem size_add (s t : ByteArray) : (s ++ t).size = s.size + t.size := by simp

theorem doAct_add_found {l : List FileD} {name text : ByteArray} {f : FileD} (hd : diskOk l = true) (hf : foundOf l name = some f) :
    doAct l ⟨1, name, text, ByteArray.empty⟩ = if f.text.size + text.size ≤ 20000 then some (filesPut l ⟨name, f.text ++ text, f.kept⟩) else none := by
  obtain ⟨r1, r2, r3, r4⟩ := found_right hd hf
  rw [doAct, if_pos (actOk_of hd r1 (Or.inr rfl) (Or.inl rfl)), doTry, if_pos rfl]
  dsimp only
  rw [hf]
  dsimp only [Option.getD]
  by_cases h : f.text.size + text.size ≤ 20000
  · rw [if_pos h, if_pos (put_right hd (by simp only [fileOk, r1, within, size_add, Bool.true_and, Bool.and_eq_true, decide_eq_true_eq]; omega) (by rw [put_same_length hd hf]; exact (diskOk_iff.1 hd).1))]
  · rw [if_neg h, if_neg (by rw [put_wrong (by simp [fileOk, h])]; simp)]
theorem doAct_add_new {l : List FileD} {name text : ByteArray} (hd : diskOk l = true) (hf : foundOf l name = none) :
    doAct l ⟨1, name, text, ByteArray.empty⟩ = if nameOk name = true ∧ l.length < 30 ∧ text.size ≤ 20000 then some (filesPut l ⟨name, ByteArray.empty ++ text, 0⟩) else none := by
  by_cases hn : nameOk name = true
  · rw [doAct, if_pos (actOk_of hd hn (Or.inr rfl) (Or.inl rfl)), doTry, if_pos rfl]
    dsimp only
    rw [hf]
    dsimp only [Option.getD]
    have hlen := put_new_length (f := ⟨name, ByteArray.empty ++ text, 0⟩) hf
    by_cases h : l.length < 30 ∧ text.size ≤ 20000
    · have hsz : (ByteArray.empty ++ text).size = text.size := by rw [size_add]; simp
      rw [if_pos (put_right hd (by simp only [fileOk, hn, within, hsz, Bool.true_and, Bool.and_eq_true, decide_eq_true_eq]; omega) (by rw [hlen]; omega)), if_pos ⟨hn, h⟩]
    · rw [if_neg, if_neg (fun q => h q.2)]
      intro hq
      obtain ⟨q1, q2, _⟩ := diskOk_iff.1 hq
      have q3 := q2 _ (mem_put.2 (Or.inl rfl))
      have hsz : (ByteArray.empty ++ text).size = text.size := by rw [size_add]; simp
      simp only [fileOk, Bool.and_eq_true, decide_eq_true_eq, hsz] at q3
      exact h ⟨by omega, q3.1.2⟩
  · rw [if_neg (fun q => hn q.1), doAct, if_neg]
    intro q
    simp only [actOk, Bool.and_eq_true] at q
    exact hn q.1.1.2
theorem doAct_keep_found {l : List FileD} {name : ByteArray} {f : FileD} (hd : diskOk l = true) (hf : foundOf l name = some f) :
    doAct l ⟨2, name, ByteArray.empty, ByteArray.empty⟩ = some (filesPut l ⟨name, f.text, f.text.size⟩) := by
  obtain ⟨r1, r2, r3, r4⟩ := found_right hd hf
  have hfn := (found_mem hf).2
  rw [doAct, if_pos (actOk_of hd r1 (Or.inr rfl) (Or.inr rfl)), doTry, if_neg (by simp)]
  dsimp only
  rw [hf]
  dsimp only
  rw [if_pos rfl, hfn]
  dsimp only
  rw [if_pos (put_right hd (by simp only [fileOk, r1, within, Bool.true_and, Bool.and_eq_true, decide_eq_true_eq]; omega) (by rw [put_same_length hd hf]; exact (diskOk_iff.1 hd).1))]
theorem doAct_drop_found {l : List FileD} {name : ByteArray} {f : FileD} (hd : diskOk l = true) (hf : foundOf l name = some f) :
    doAct l ⟨4, name, ByteArray.empty, ByteArray.empty⟩ = some (filesNot l name) := by
  obtain ⟨r1, _⟩ := found_right hd hf
  rw [doAct, if_pos (actOk_of hd r1 (Or.inr rfl) (Or.inr rfl)), doTry, if_neg (by simp)]
  dsimp only
  rw [hf]
  dsimp only
  rw [if_neg (by simp), if_neg (by simp), if_pos rfl]
  dsimp only
  rw [if_pos (not_right hd)]
theorem doAct_move_found {l : List FileD} {name to : ByteArray} {f : FileD} (hd : diskOk l = true) (hf : foundOf l name = some f) :
    doAct l ⟨3, name, ByteArray.empty, to⟩ = if (decide (f.kept < f.text.size) || to.toList == name.toList || !nameOk to) = true then none else some (filesPut (filesNot l name) ⟨to, f.text, f.kept⟩) := by
  obtain ⟨r1, r2, r3, r4⟩ := found_right hd hf
  obtain ⟨hm, hfn⟩ := found_mem hf
  rw [doAct, if_pos (actOk_of hd r1 (Or.inl rfl) (Or.inr rfl)), doTry, if_neg (by simp)]
  dsimp only
  rw [hf]
  dsimp only
  rw [if_neg (by simp), if_pos rfl]
  by_cases h : (decide (f.kept < f.text.size) || to.toList == name.toList || !nameOk to) = true
  · rw [if_pos h]
  · rw [if_neg h]
    dsimp only
    have hto : nameOk to = true := by
      cases q : nameOk to with
      | true => rfl
      | false => rw [q] at h; simp at h
    have hlen := not_length (diskOk_iff.1 hd).2.2 ⟨f, hm, hfn⟩
    have hps : (filesPut (filesNot l name) ⟨to, f.text, f.kept⟩).length ≤ 30 := by
      rw [put_length]
      have : (filesNot (filesNot l name) to).length ≤ (filesNot l name).length := List.length_filter_le _ _
      have := (diskOk_iff.1 hd).1
      show (filesNot (filesNot l name) to).length + 1 ≤ 30
      omega
    rw [if_pos (put_right (not_right hd) (by simp only [fileOk, hto, within, Bool.true_and, Bool.and_eq_true, decide_eq_true_eq]; omega) hps)]
theorem doAct_none {l : List FileD} {a : ActD} (hk : a.kind ≠ 1) (hf : foundOf l a.name = none) : doAct l a = none := by
  rw [doAct, doTry, if_neg hk, hf]
  split <;> rfl
theorem doAct_other {l : List FileD} {a : ActD} (h1 : a.kind ≠ 1) (h2 : a.kind ≠ 2) (h3 : a.kind ≠ 3) (h4 : a.kind ≠ 4) : doAct l a = none := by
  cases hf : foundOf l a.name with
  | none => exact doAct_none h1 hf
  | some f =>
    rw [doAct, doTry, if_neg h1, hf]
    dsimp only
    rw [if_neg h2, if_neg h3, if_neg h4]
    split <;> rfl
theorem doAct_bad {l : List FileD} {a : ActD} (h : (a.kind ≠ 1 ∧ blank a.text = false) ∨ (a.kind ≠ 3 ∧ blank a.to = false)) : doAct l a = none := by
  rw [doAct, if_neg]
  intro q
  simp only [actOk, Bool.and_eq_true, Bool.or_eq_true, beq_iff_eq] at q
  rcases h with ⟨h1, h2⟩ | ⟨h1, h2⟩
  · rcases q.2 with q | q
    · exact h1 q
    · rw [h2] at q; cases q
  · rcases q.1.2 with q | q
    · exact h1 q
    · rw [h2] at q; cases q
end Go.Proofs.Ytfkknmhokiacaaa

namespace Go.Proofs.Ytfkknmhokiacaaa
open Go.RowKit Go.Maps

/-- how a pointer to an open file reads: by its block -/
def ptrRead : Value → Option (DataW Unit × List MemPlace)
  | .pointer (some ⟨g, 0, none⟩) => some (.lit (.int .i64 g), [])
  | .pointer none => some (.nil, [])
  | _ => none
theorem ptrRead_mk (g : Nat) : ptrRead (.pointer (some ⟨g, 0, none⟩)) = some (.lit (.int .i64 g), []) := rfl
theorem ptrRead_inv {v : Value} {g : Nat} {ps : List MemPlace} (h : ptrRead v = some (.lit (.int .i64 g), ps)) : v = .pointer (some ⟨g, 0, none⟩) := by
  unfold ptrRead at h
  split at h
  · simp at h
    rw [Int.ofNat_inj.1 h.1]
  · simp at h
  · cases h
theorem ptrRead_nil {v : Value} {ps : List MemPlace} (h : ptrRead v = some (.nil, ps)) : v = .pointer none := by
  unfold ptrRead at h
  split at h
  · simp at h
  · rfl
  · cases h
theorem open_keyed : Keyed Try.prog 9 := string_keyed Try.underlying9
theorem open_zero (w : World) : (zeroValue 106).run Try.prog w = .ok (.pointer none) w := by kernel_rfl
def keyL (s : ByteArray) : Lit := .string s.data.toList
theorem keyL_of {s : ByteArray} (h : s.size ≤ maxLen) : keyOf Try.prog 9 (.string s) = some (keyL s) := WideMaps.keyOf_string_mk Try.underlying9 h
theorem keyL_lit (s : ByteArray) : WideAt.IsKeyLit (keyL s) := trivial
theorem keyL_ne {s t : ByteArray} (h : s ≠ t) : keyL s ≠ keyL t := by
  intro e
  simp only [keyL, Lit.string.injEq] at e
  exact h (ByteArray.ext (Array.toList_inj.1 e))
theorem owns_tight {w : World} {P : Program} {k : TypeId} {R : Value → Option (DataW Unit × List MemPlace)} {b n : Nat} {D : DataW Unit} (h : w.ownsMap P k R b n D) : w.ownsMap P k R b (Maps.size D) D := by
  obtain ⟨es, clock, hb, F, hs, rfl⟩ := h
  exact ⟨es, clock, hb, F, by simp [Maps.size, length_sorted], rfl⟩

/-- block b is a map that has the files of a right disk by their names, each behind a pointer to a block of its own -/
structure OpenIs (w : World) (b : Nat) (l : List FileD) (adr : ByteArray → Nat) (lo : Nat) (D : DataW Unit) : Prop where
  own : w.ownsMap Try.prog 9 ptrRead b (Maps.size D) D
  right : diskOk l = true
  has : ∀ s, Maps.has D (keyL s) = true ↔ ∃ f ∈ l, f.name = s
  at_ : ∀ f ∈ l, ∀ z, D.atKey (keyL f.name) z = .lit (.int .i64 (adr f.name))
  blk : ∀ f ∈ l, BlockIs w (adr f.name) 108 [.string f.text, .int .i64 f.kept]
  low : lo ≤ b
  lows : ∀ f ∈ l, lo ≤ adr f.name
  inj : ∀ f ∈ l, ∀ g ∈ l, adr f.name = adr g.name → f.name = g.name

theorem OpenIs.on {w w' : World} {b : Nat} {l : List FileD} {adr : ByteArray → Nat} {lo : Nat} {D : DataW Unit} (h : OpenIs w b l adr lo D) (hb : Below w.heap.size w w') : OpenIs w' b l adr lo D :=
  ⟨by obtain ⟨es, clock, hb', F, hs, hD⟩ := h.own; exact ⟨es, clock, (hb.block b h.own.lt).trans hb', F, hs, hD⟩, h.right, h.has, h.at_, fun f hf => (h.blk f hf).on hb (h.blk f hf).lt, h.low, h.lows, h.inj⟩
theorem OpenIs.drew {w : World} {b : Nat} {l : List FileD} {adr : ByteArray → Nat} {lo : Nat} {D : DataW Unit} (h : OpenIs w b l adr lo D) : OpenIs w.drew b l adr lo D := h.on (below_drewN (Below.refl _ _) 1)
/-- the map's block holds no cells -/
theorem owns_apart {w : World} {P : Program} {k : TypeId} {R : Value → Option (DataW Unit × List MemPlace)} {b n g : Nat} {D : DataW Unit} {t : TypeId} {cs : List Value} (h : w.ownsMap P k R b n D) (hg : BlockIs w g t cs) : g ≠ b := by
  obtain ⟨es, clock, hb, _⟩ := h
  intro e
  subst e
  unfold BlockIs at hg
  rw [hb] at hg
  cases hg
theorem BlockIs.turned {w w' : World} {b g : Nat} {t : TypeId} {cs : List Value} (hg : BlockIs w g t cs) (ht : w.mapTurned w' b) (hne : g ≠ b) : BlockIs w' g t cs := by
  unfold BlockIs
  rw [ht.grown.block g hg.lt (by simpa using hne)]
  exact hg

theorem names_nodup {l : List FileD} (h : Asc l) : (l.map fun f => f.name.data.toList).Nodup := by
  rw [List.nodup_iff_pairwise_ne, List.pairwise_map]
  refine h.imp fun {a b} q e => ?_
  rw [ByteArray.toList_eq, ByteArray.toList_eq, e] at q
  exact List.lt_irrefl _ q
theorem OpenIs.perm {w : World} {b : Nat} {l : List FileD} {adr : ByteArray → Nat} {lo : Nat} {D : DataW Unit} (h : OpenIs w b l adr lo D) : (l.map fun f => f.name.data.toList).Perm (strKeys D) := by
  obtain ⟨es, rfl, hk⟩ := h.own.keysOf
  obtain ⟨es', he, hp⟩ := h.own.tidy open_keyed
  cases he
  refine perm_strKeys hp (fun p hq => by obtain ⟨v, hv⟩ := hk p hq; obtain ⟨x, _, hx, _⟩ := Maps.keyOf_str Try.underlying9 hv; exact ⟨x, hx⟩) (names_nodup (diskOk_iff.1 h.right).2.2) fun x => ?_
  have hx : keyL ⟨x.toArray⟩ = .string x := by simp [keyL]
  rw [← hx, h.has]
  simp only [List.mem_map]
  exact ⟨fun ⟨f, hf, e⟩ => ⟨f, hf, ByteArray.ext (by rw [← e])⟩, fun ⟨f, hf, e⟩ => ⟨f, hf, by rw [e]⟩⟩
theorem OpenIs.size {w : World} {b : Nat} {l : List FileD} {adr : ByteArray → Nat} {lo : Nat} {D : DataW Unit} (h : OpenIs w b l adr lo D) : Maps.size D = l.length := by
  have hp := h.perm.length_eq
  obtain ⟨es, rfl⟩ := h.own.isMap
  simpa [Maps.size, strKeys] using hp.symm

/-- 'file, there := open[name]' -/
theorem OpenIs.look {w : World} {b : Nat} {l : List FileD} {adr : ByteArray → Nat} {lo : Nat} {D : DataW Unit} (h : OpenIs w b l adr lo D) {s : ByteArray} (hs : s.size ≤ maxLen) :
    (∃ f, foundOf l s = some f ∧ (Instr.lookup 81 (.map (some b)) (.string s) true).run Try.prog w = .ok (.tuple #[.pointer (some ⟨adr s, 0, none⟩), .bool true]) w ∧ BlockIs w (adr s) 108 [.string f.text, .int .i64 f.kept]) ∨
    (foundOf l s = none ∧ (Instr.lookup 81 (.map (some b)) (.string s) true).run Try.prog w = .ok (.tuple #[.pointer none, .bool false]) w) := by
  obtain ⟨v, ps, hrun, hv⟩ := h.own.look_ok open_keyed Try.underlying81 (open_zero w) (zd := .nil) (zp := []) rfl (keyL_of hs)
  cases hf : foundOf l s with
  | none =>
    have hno : Maps.has D (keyL s) = false := by
      cases hh : Maps.has D (keyL s) with
      | false => rfl
      | true => obtain ⟨f, hm, e⟩ := (h.has s).1 hh; exact absurd e (found_not hf f hm)
    rw [hno] at hrun
    rw [Maps.atKey_of_not_has hno] at hv
    rw [ptrRead_nil hv] at hrun
    exact Or.inr ⟨rfl, hrun⟩
  | some f =>
    obtain ⟨hm, rfl⟩ := found_mem hf
    rw [(h.has f.name).2 ⟨f, hm, rfl⟩] at hrun
    rw [h.at_ f hm] at hv
    rw [ptrRead_inv hv] at hrun
    exact Or.inl ⟨f, rfl, hrun, h.blk f hm⟩
/-- 'open[name]', the name is there -/
theorem OpenIs.get {w : World} {b : Nat} {l : List FileD} {adr : ByteArray → Nat} {lo : Nat} {D : DataW Unit} (h : OpenIs w b l adr lo D) {f : FileD} (hf : f ∈ l) (hs : f.name.size ≤ maxLen) :
    (Instr.lookup 81 (.map (some b)) (.string f.name) false).run Try.prog w = .ok (.pointer (some ⟨adr f.name, 0, none⟩)) w := by
  obtain ⟨v, ps, hrun, hv⟩ := h.own.lookup open_keyed Try.underlying81 (open_zero w) (zd := .nil) (zp := []) rfl (keyL_of hs)
  rw [h.at_ f hf] at hv
  rw [ptrRead_inv hv] at hrun
  exact hrun

def adrPut (adr : ByteArray → Nat) (x : ByteArray) (g : Nat) (s : ByteArray) : Nat := if s.toList == x.toList then g else adr s
theorem adrPut_same (adr : ByteArray → Nat) (x : ByteArray) (g : Nat) : adrPut adr x g x = g := by simp [adrPut]
theorem adrPut_other (adr : ByteArray → Nat) {x s : ByteArray} (g : Nat) (h : s ≠ x) : adrPut adr x g s = adr s := by
  have : (s.toList == x.toList) = false := beq_eq_false_iff_ne.2 fun e => h (text_eq e)
  simp [adrPut, this]
/-- a file is put in -/
theorem open_put {w w' : World} {b : Nat} {l : List FileD} {adr : ByteArray → Nat} {lo : Nat} {D : DataW Unit} {n g : Nat} (f : FileD)
    (hhas : ∀ s, Maps.has D (keyL s) = true ↔ ∃ f ∈ l, f.name = s) (hat : ∀ f ∈ l, ∀ z, D.atKey (keyL f.name) z = .lit (.int .i64 (adr f.name))) (hinj : ∀ f ∈ l, ∀ g ∈ l, adr f.name = adr g.name → f.name = g.name)
    (hmap : Maps.IsMap D) (hlow : lo ≤ b) (hr : diskOk (filesPut l f) = true)
    (hown : w'.ownsMap Try.prog 9 ptrRead b n (D.put (keyL f.name) (.lit (.int .i64 g)))) (ht : w.mapTurned w' b) (hb0 : ∀ k t cs, BlockIs w k t cs → k ≠ b)
    (hblk : ∀ h ∈ l, h.name ≠ f.name → lo ≤ adr h.name ∧ adr h.name ≠ g ∧ BlockIs w (adr h.name) 108 [.string h.text, .int .i64 h.kept]) (hg : lo ≤ g) (hgb : BlockIs w g 108 [.string f.text, .int .i64 f.kept]) :
    OpenIs w' b (filesPut l f) (adrPut adr f.name g) lo (D.put (keyL f.name) (.lit (.int .i64 g))) := by
  refine ⟨owns_tight hown, hr, fun s => ?_, fun h hh z => ?_, fun h hh => ?_, hlow, fun h hh => ?_, fun h hh k hk e => ?_⟩
  · by_cases e : s = f.name
    · rw [e, Maps.has_put_same hmap (keyL_lit _)]
      exact ⟨fun _ => ⟨f, mem_put.2 (Or.inl rfl), rfl⟩, fun _ => rfl⟩
    · rw [Maps.has_put_other (keyL_ne e), hhas]
      exact ⟨fun ⟨h, hm, q⟩ => ⟨h, mem_put.2 (Or.inr ⟨hm, by rw [q]; exact e⟩), q⟩, fun ⟨h, hm, q⟩ => by
        rcases mem_put.1 hm with rfl | ⟨hm, _⟩
        · exact absurd q.symm e
        · exact ⟨h, hm, q⟩⟩
  · rcases mem_put.1 hh with rfl | ⟨hm, hne⟩
    · rw [Maps.atKey_put_same hmap (keyL_lit _), adrPut_same]
    · rw [Maps.atKey_put_other (keyL_ne hne), hat h hm, adrPut_other adr g hne]
  · rcases mem_put.1 hh with rfl | ⟨hm, hne⟩
    · rw [adrPut_same]; exact hgb.turned ht (hb0 _ _ _ hgb)
    · rw [adrPut_other adr g hne]; exact (hblk h hm hne).2.2.turned ht (hb0 _ _ _ (hblk h hm hne).2.2)
  · rcases mem_put.1 hh with rfl | ⟨hm, hne⟩
    · rw [adrPut_same]; exact hg
    · rw [adrPut_other adr g hne]; exact (hblk h hm hne).1
  · rcases mem_put.1 hh with rfl | ⟨hm, hne⟩
    · rcases mem_put.1 hk with rfl | ⟨km, kne⟩
      · rfl
      · rw [adrPut_same, adrPut_other adr g kne] at e; exact absurd e.symm (hblk k km kne).2.1
    · rcases mem_put.1 hk with rfl | ⟨km, kne⟩
      · rw [adrPut_same, adrPut_other adr g hne] at e; exact absurd e (hblk h hm hne).2.1
      · rw [adrPut_other adr g hne, adrPut_other adr g kne] at e; exact hinj h hm k km e
/-- a file's cells are written -/
theorem open_set {w w' : World} {b : Nat} {l : List FileD} {adr : ByteArray → Nat} {lo : Nat} {D : DataW Unit} {name t : ByteArray} {k : Int} {f : FileD} {j : Nat} {v : Value} (h : OpenIs w b l adr lo D) (hf : foundOf l name = some f) (hr : diskOk (filesPut l ⟨name, t, k⟩) = true)
    (hw : w' = w.setCell ⟨adr name, j, none⟩ v) (hb : BlockIs w' (adr name) 108 [.string t, .int .i64 k]) : OpenIs w' b (filesPut l ⟨name, t, k⟩) adr lo D := by
  obtain ⟨hm, hn⟩ := found_mem hf
  have hne : b ≠ adr name := fun e => owns_apart h.own (h.blk f hm) (by rw [hn]; exact e.symm)
  refine ⟨by rw [hw]; exact h.own.setCell hne v, hr, fun s => ?_, fun g hg z => ?_, fun g hg => ?_, h.low, fun g hg => ?_, fun g hg q hq e => ?_⟩
  · rw [h.has]
    constructor
    · rintro ⟨g, hg, e⟩
      by_cases q : g.name = name
      · exact ⟨_, mem_put.2 (Or.inl rfl), by rw [← e, q]⟩
      · exact ⟨g, mem_put.2 (Or.inr ⟨hg, q⟩), e⟩
    · rintro ⟨g, hg, e⟩
      rcases mem_put.1 hg with rfl | ⟨hg, _⟩
      · exact ⟨f, hm, by rw [hn]; exact e⟩
      · exact ⟨g, hg, e⟩
  · rcases mem_put.1 hg with rfl | ⟨hg, _⟩
    · show D.atKey (keyL name) z = .lit (.int .i64 (adr name))
      rw [← hn]; exact h.at_ f hm z
    · exact h.at_ g hg z
  · rcases mem_put.1 hg with rfl | ⟨hg, q⟩
    · exact hb
    · rw [hw]
      exact (h.blk g hg).far (fun e => q (by have := h.inj g hg f hm (by rw [hn]; exact e.symm); rw [this, hn])) v
  · rcases mem_put.1 hg with rfl | ⟨hg, _⟩
    · show lo ≤ adr name
      rw [← hn]; exact h.lows f hm
    · exact h.lows g hg
  · have up : ∀ x ∈ filesPut l ⟨name, t, k⟩, ∃ y ∈ l, y.name = x.name := by
      intro x hx
      rcases mem_put.1 hx with rfl | ⟨hx, _⟩
      · exact ⟨f, hm, hn⟩
      · exact ⟨x, hx, rfl⟩
    obtain ⟨g', hg', eg⟩ := up g hg
    obtain ⟨q', hq', eq⟩ := up q hq
    rw [← eg, ← eq] at e ⊢
    exact h.inj g' hg' q' hq' e
/-- a file is taken out -/
theorem open_del {w w' : World} {b : Nat} {l : List FileD} {adr : ByteArray → Nat} {lo : Nat} {D : DataW Unit} {n : Nat} {x : ByteArray} (h : OpenIs w b l adr lo D)
    (hown : w'.ownsMap Try.prog 9 ptrRead b n (D.del (keyL x))) (ht : w.mapTurned w' b) : OpenIs w' b (filesNot l x) adr lo (D.del (keyL x)) := by
  refine ⟨owns_tight hown, not_right h.right, fun s => ?_, fun f hf z => ?_, fun f hf => ?_, h.low, fun f hf => h.lows f (mem_not.1 hf).1, fun f hf g hg => h.inj f (mem_not.1 hf).1 g (mem_not.1 hg).1⟩
  · by_cases e : s = x
    · rw [e, Maps.has_del_same]
      exact ⟨fun q => (by cases q), fun ⟨f, hm, q⟩ => absurd q (mem_not.1 hm).2⟩
    · rw [Maps.has_del_other (keyL_ne e), h.has]
      exact ⟨fun ⟨f, hm, q⟩ => ⟨f, mem_not.2 ⟨hm, by rw [q]; exact e⟩, q⟩, fun ⟨f, hm, q⟩ => ⟨f, (mem_not.1 hm).1, q⟩⟩
  · rw [Maps.atKey_del_other (keyL_ne (mem_not.1 hf).2), h.at_ f (mem_not.1 hf).1]
  · exact (h.blk f (mem_not.1 hf).1).turned ht (owns_apart h.own (h.blk f (mem_not.1 hf).1))
end Go.Proofs.Ytfkknmhokiacaaa

namespace Go.Proofs.Ytfkknmhokiacaaa
open Go.RowKit Go.Maps

theorem below_turned' {w w' : World} {b lo : Nat} (h : w.mapTurned w' b) (hlo : lo ≤ b) (hw : lo ≤ w.heap.size) : Below lo w w' :=
  (Below.refl lo w).grown h.grown hw (fun j hj => by cases hj; exact hlo)
theorem take_right {l : List FileD} (h : diskOk l = true) (k : Nat) : diskOk (l.take k) = true := by
  obtain ⟨h1, h2, h3⟩ := diskOk_iff.1 h
  exact diskOk_iff.2 ⟨by rw [List.length_take]; omega, fun f hf => h2 f (List.mem_of_mem_take hf), h3.sublist (List.take_sublist k l)⟩
theorem take_less {l : List FileD} (h : Asc l) {k : Nat} (hk : k < l.length) : ∀ f ∈ l.take k, f.name.toList < l[k].name.toList := by
  intro f hf
  obtain ⟨j, hj, rfl⟩ := List.getElem_of_mem hf
  rw [List.length_take] at hj
  rw [List.getElem_take]
  exact List.pairwise_iff_getElem.1 h j k (by omega) hk (by omega)
theorem put_take {l : List FileD} (h : Asc l) {k : Nat} (hk : k < l.length) : filesPut (l.take k) l[k] = l.take (k + 1) := by
  have hl := take_less h hk
  have a1 : filesLess (l.take k) l[k] = l.take k := by
    rw [filesLess, List.filter_eq_self]
    exact fun f hf => textLt_iff.2 (hl f hf)
  have a2 : (l.take k).filter (isMore l[k]) = [] := by
    rw [List.filter_eq_nil_iff]
    exact fun f hf q => List.lt_irrefl _ (List.lt_trans (hl f hf) (textLt_iff.1 q))
  rw [filesPut, lessAnd, a1, a2, List.append_nil, List.take_succ_eq_append_getElem hk]

theorem open_none {w : World} {b lo : Nat} (h : w.ownsMap Try.prog 9 ptrRead b 0 (.map [])) (hlo : lo ≤ b) : OpenIs w b [] (fun _ => 0) lo (.map []) :=
  ⟨h, rfl, fun s => ⟨fun q => (by cases q), fun ⟨f, hf, _⟩ => (by cases hf)⟩, fun f hf => (by cases hf), fun f hf => (by cases hf), hlo, fun f hf => (by cases hf), fun f hf => (by cases hf)⟩

set_option maxRecDepth 1000000 in
set_option maxHeartbeats 1000000 in
theorem implOpened_any (ao : Option Addr) (l : List FileD) (cap : Nat) (hd : diskOk l = true) (w : World) (ha : FilesAt w ao l) :
    Calls Try.prog 50 #[.agg #[.slice ao l.length cap]] w fun e w' => ∃ b, e = .returned (.map (some b)) ∧ (∃ adr D, OpenIs w' b l adr w.heap.size D) ∧ Below w.heap.size w w' := by
  have hmm := @run_makeMap Try.prog
  have hl : l.length ≤ 30 := (diskOk_iff.1 hd).1
  have HA := hid ha
  have HD := hid hd
  obtain ⟨W0, hW0⟩ : ∃ W0, w.alloc (.cells #[.slice ao l.length cap] 26) = W0 := ⟨_, rfl⟩
  have hs0 : W0.heap.size = w.heap.size + 1 := by rw [← hW0]; simp [World.alloc, -World.alloc_eq]
  have hb0 : Below w.heap.size w W0 := by rw [← hW0]; exact below_more (Below.refl _ w) _
  have hx0 : BlockIs W0 w.heap.size 26 [.slice ao l.length cap] := by rw [← hW0]; exact heap_alloc_new w _
  have hm0 := World.ownsMap_made (H := Unit) W0 Try.prog 9 ptrRead
  rw [hs0] at hm0
  have hbm := below_more (Below.refl W0.heap.size W0) (.map #[] 0)
  have H0 := hid (And.intro (open_none hm0 (lo := w.heap.size) (by omega)) (below_via hb0 hbm))
  have c0 := (hx0.on hbm hx0.lt).cell (j := 0) rfl
  clear ha hd hb0 hx0 hm0 hbm
  go_enter Try.func50, Try.ntmps50
  go_wp2
  clear hW0
  go_loopg [5, 10] l.length (fun q _ i wr => ∃ (k : Nat), k + q = l.length ∧ i = .int .i64 k ∧ Hid (∃ adr D, OpenIs wr (w.heap.size + 1) (l.take k) adr w.heap.size D) ∧ Hid (Below w.heap.size w wr))
  case atStart => exact ⟨0, by omega, rfl, ⟨_, _, H0.out.1⟩, H0.out.2⟩
  case round =>
    obtain ⟨k, hkg, rfl, HO, BR⟩ := hrel
    clear H0 c0
    cases gk with
    | zero =>
      have hlt : ¬ (k : Int) < (l.length : Int) := by omega
      go_wp2
      obtain ⟨adr, D, h⟩ := HO.out
      rw [List.take_of_length_le (by omega)] at h
      refine bodyPost_ret (v := .map (some (w.heap.size + 1))) (by simp [results, Try.results50, go_sem]) rfl ⟨_, rfl, ⟨adr, D, h⟩, BR.out⟩
    | succ q =>
      have hlt : k < l.length := by omega
      have hlt' : (k : Int) < (l.length : Int) := by omega
      have hne : l ≠ [] := by intro e; rw [e] at hlt; simp at hlt
      obtain ⟨b, off, rfl, hc⟩ := HA.out.on BR.out hne
      obtain ⟨x0, x1, x2⟩ := hc k hlt
      clear hc
      obtain ⟨adr, D, h⟩ := HO.out
      have hsz : Maps.size D ≤ 30 := by rw [h.size]; exact (diskOk_iff.1 h.right).1
      have hnm : l[k].name.size ≤ maxLen := by have := (diskOk_small HD.out l[k] (List.getElem_mem hlt)).1; unfold maxLen; omega
      have hown := (h.own.alloc (.cells #[.string l[k].name, .string l[k].text, .int .i64 l[k].kept] 36)).alloc (.cells #[.string l[k].text, .int .i64 l[k].kept] 108)
      have H := hid h
      clear h HO
      go_wp2_with (at_mapUpdate; refine wpList_mapUpdate_in _ rfl _ _ _ 81 rfl 9 106 open_keyed Try.underlying81 ptrRead (w.heap.size + 1) _ D rfl hown (by unfold maxLen; omega) _ _ _ rfl rfl (keyL_of hnm) (.lit (.int .i64 ((wr.heap.size + 1 : Nat) : Int))) [] (ptrRead_mk (wr.heap.size + 1)) ?_; intro w1 hown1 hturn1)
      have HT := hid (And.intro hown (And.intro hown1 hturn1))
      clear hown hown1 hturn1
      go_wp2
      go_roundg q
      case measure => omega
      case rel =>
        obtain ⟨hown, hown1, hturn1⟩ := HT.out
        have hasc := (diskOk_iff.1 HD.out).2.2
        have hb1 := below_more (Below.refl wr.heap.size wr) (.cells #[.string l[k].name, .string l[k].text, .int .i64 l[k].kept] 36)
        have hb2 := below_more hb1 (.cells #[.string l[k].text, .int .i64 l[k].kept] 108)
        have hnew : BlockIs ((wr.alloc (.cells #[.string l[k].name, .string l[k].text, .int .i64 l[k].kept] 36)).alloc (.cells #[.string l[k].text, .int .i64 l[k].kept] 108)) (wr.heap.size + 1) 108 [.string l[k].text, .int .i64 l[k].kept] := by
          have := heap_alloc_new (wr.alloc (.cells #[.string l[k].name, .string l[k].text, .int .i64 l[k].kept] 36)) (.cells #[.string l[k].text, .int .i64 l[k].kept] 108)
          rw [show (wr.alloc (.cells #[.string l[k].name, .string l[k].text, .int .i64 l[k].kept] 36)).heap.size = wr.heap.size + 1 by simp [World.alloc, -World.alloc_eq]] at this
          exact this
        have hp := open_put (g := wr.heap.size + 1) l[k] H.out.has H.out.at_ H.out.inj H.out.own.isMap H.out.low (by rw [put_take hasc hlt]; exact take_right HD.out _) hown1 hturn1 (fun k t cs hk => owns_apart hown hk) (fun g hg q => by
          have := (H.out.blk g hg).lt
          exact ⟨H.out.lows g hg, by omega, (H.out.blk g hg).on hb2 this⟩) (by have := BR.out.size; omega) hnew
        rw [put_take hasc hlt] at hp
        exact ⟨k + 1, by omega, by go_num, ⟨_, _, hp⟩, (BR.out.trans (hb2.mono BR.out.size)).trans (below_turned' hturn1 (by omega) (by have := hb2.size; have := BR.out.size; omega))⟩
end Go.Proofs.Ytfkknmhokiacaaa

namespace Go.Proofs.Ytfkknmhokiacaaa
open Go.RowKit

theorem clone_info5 : (Try.prog.info? 5).map (fun i => (i.zero, i.size, i.bytes)) = some (some (.int .u8 0), 1, 1) := by kernel_rfl

theorem clone_mem {w w1 : World} {s : ByteArray} (h0 : 0 < s.size) (hm : s.size ≤ 140737488355328) {zs : List Value} (hown : w1.ownsRow w.heap.size 5 1 (.slice (some ⟨w.heap.size, 0, none⟩) s.size s.size) s.size zs) (hg : w.grownBy w1 none) :
    ∃ W2 W3, (∀ ty, (Builtin.copy_ #[22, 9] ty #[.slice (some ⟨w.heap.size, 0, none⟩) s.size s.size, .string s]).run Try.prog w1 = .ok (goInt s.size) W2) ∧
      (∀ ty, (Builtin.unsafeString_ #[121, 3] ty #[.pointer (some ⟨w.heap.size, 0, none⟩), .int .i64 s.size]).run Try.prog W2 = .ok (.string s) W3) ∧ Below w.heap.size w W3 := by
  obtain ⟨h1, h2⟩ := hown
  rcases h2 with ⟨hv, hn⟩ | ⟨g, cap, cur, hv, hgb, hh, hle, hmx, hsz, hx⟩
  · cases hv
  · simp only [Value.slice.injEq, Option.some.injEq, Addr.mk.injEq, and_true, true_and] at hv
    obtain ⟨rfl, rfl⟩ := hv
    simp only [Nat.mul_one] at hsz
    have hc := fun ty => Lib.run_copy_row_string (P := Try.prog) w1 22 9 ty 5 w.heap.size 0 s.size s.size s cur 5 Try.underlying22 (by kernel_rfl) hh (Nat.le_refl _) (by omega)
    have ea : (cur.toList.take 0 ++ Lib.byteCells s.data.toList ++ cur.toList.drop (0 + s.size)).toArray = (Lib.byteCells s.data.toList).toArray := by
      rw [List.drop_of_length_le (by simp; omega)]
      simp
    rw [ea] at hc
    have hb2 : Below w.heap.size w (w1.setRow w.heap.size (Lib.byteCells s.data.toList).toArray) := below_setRow ((Below.refl _ _).grown hg (Nat.le_refl _) (fun k h => by cases h)) (Nat.le_refl _) _
    have hh2 : (w1.setRow w.heap.size (Lib.byteCells s.data.toList).toArray).heap[w.heap.size]? = some (.cells (Lib.byteCells s.data.toList).toArray 5 (0, 0)) := by
      simp only [World.setRow]
      rw [Array.getElem?_modify, if_pos rfl, hh]
      rfl
    have hlen : s.data.toList.length = s.size := by simp
    have hbl : (Lib.byteCells s.data.toList).length = s.size := by rw [Lib.byteCells_length, hlen]
    have hown2 : (w1.setRow w.heap.size (Lib.byteCells s.data.toList).toArray).ownsRow w.heap.size 5 1 (.slice (some ⟨w.heap.size, 0, none⟩) s.size s.size) s.size (Lib.byteCells s.data.toList) :=
      ⟨by omega, Or.inr ⟨_, _, _, rfl, Nat.le_refl _, hh2, Nat.le_refl _, hmx, by simp [hbl], by rw [List.take_of_length_le (by simp [hbl])]⟩⟩
    have hu := fun ty => Lib.run_unsafeString_row (P := Try.prog) (w1.setRow w.heap.size (Lib.byteCells s.data.toList).toArray) 121 3 ty 5 Try.underlying121 (by kernel_rfl) w.heap.size s.size
      (by simp [World.shape?, hh2, Lib.byteCells_length]) s.data.toList (by intro e; rw [e] at hlen; simp at hlen; omega) (by omega) (by omega)
      (fun j x hj => hown2.cells rfl j _ (by simp [Lib.byteCells, hj]))
    rw [hlen] at hu
    exact ⟨_, _, hc, hu, Lib.below_freeze hb2 (Nat.le_refl _) _⟩

set_option maxRecDepth 1000000 in
theorem liteClone_any (s : ByteArray) (hm : s.size ≤ 140737488355328) (w : World) :
    Calls Try.prog 81 #[.string s] w fun e w' => e = .returned (.string s) ∧ Below w.heap.size w w' := by
  by_cases h0 : s.size = 0
  · have hs : s = ByteArray.empty := by
      obtain ⟨⟨l⟩⟩ := s
      cases l with | nil => rfl | cons a l => simp [ByteArray.size] at h0
    subst hs
    go_enter Try.func81, Try.ntmps81
    go_wp2
    go_ret
    exact ⟨rfl, Below.refl _ _⟩
  · obtain ⟨i0, hi, hz0, hz1, hz2⟩ := info_parts clone_info5
    have hp : 0 < s.size := by omega
    have hp' : ((s.size : Int) == 0) = false := by rw [beq_eq_false_iff_ne]; omega
    go_enter Try.func81, Try.ntmps81
    go_wp2_with (at_make; refine wpList_make_full _ rfl (.tmp 8) (.tmp 8) 22 rfl w.heap.size 5 i0 (.int .u8 0) 1 Try.underlying22 hi hz0 hz1 _ _ _ _ s.size rfl rfl rfl rfl ?b2 ?b3 ?b4 ?_)
    case b2 => rw [hz2]; omega
    case b3 => unfold maxLen; omega
    case b4 => exact Nat.le_refl _
    intro w1 hown hgrow
    obtain ⟨W2, W3, hc, hu, hb⟩ := clone_mem hp hm hown hgrow
    clear hown hgrow
    go_wp2
    go_ret
    exact ⟨rfl, hb⟩

theorem clone_any (s : ByteArray) (hm : s.size ≤ 140737488355328) (w : World) :
    Calls Try.prog 53 #[.string s] w fun e w' => e = .returned (.string s) ∧ Below w.heap.size w w' := by
  go_enter Try.func53, Try.ntmps53
  go_wp2_with (go_at_call 81; refine (liteClone_any s hm _).mono ?_; rintro e w' ⟨rfl, hb⟩)
  go_ret
  exact ⟨rfl, hb⟩
end Go.Proofs.Ytfkknmhokiacaaa

namespace Go.Proofs.Ytfkknmhokiacaaa
open Go.RowKit

/-- what stands while a file is copied -/
def CopyIn (w : World) (f : FileD) (W : World) : Prop := Below w.heap.size w W ∧ BlockIs W w.heap.size 36 (fileEnc f) ∧ BlockIs W (w.heap.size + 1) 36 [.string ByteArray.empty, .string ByteArray.empty, .int .i64 0]

theorem copy_in (w : World) (f : FileD) : CopyIn w f ((w.alloc (.cells #[.string f.name, .string f.text, .int .i64 f.kept] 36)).alloc (.cells #[.string ByteArray.empty, .string ByteArray.empty, .int .i64 0] 36)).drew := by
  have h0 : BlockIs (w.alloc (.cells #[.string f.name, .string f.text, .int .i64 f.kept] 36)) w.heap.size 36 (fileEnc f) := heap_alloc_new w _
  have hb := below_more (Below.refl _ (w.alloc (.cells #[.string f.name, .string f.text, .int .i64 f.kept] 36))) (.cells #[.string ByteArray.empty, .string ByteArray.empty, .int .i64 0] 36)
  have h1 : BlockIs ((w.alloc (.cells #[.string f.name, .string f.text, .int .i64 f.kept] 36)).alloc (.cells #[.string ByteArray.empty, .string ByteArray.empty, .int .i64 0] 36)) (w.heap.size + 1) 36 [.string ByteArray.empty, .string ByteArray.empty, .int .i64 0] := by
    have := heap_alloc_new (w.alloc (.cells #[.string f.name, .string f.text, .int .i64 f.kept] 36)) (.cells #[.string ByteArray.empty, .string ByteArray.empty, .int .i64 0] 36)
    rw [show (w.alloc (.cells #[.string f.name, .string f.text, .int .i64 f.kept] 36)).heap.size = w.heap.size + 1 by simp [World.alloc, -World.alloc_eq]] at this
    exact this
  exact ⟨below_drewN (below_more (below_more (Below.refl _ w) _) _) 1, (h0.on hb h0.lt).on (below_drewN (Below.refl _ _) 1) (h0.on hb h0.lt).lt, h1.on (below_drewN (Below.refl _ _) 1) h1.lt⟩

/-- a text is copied meanwhile -/
theorem copy_call (w : World) (f : FileD) (s : ByteArray) (hs : s.size ≤ 1048576) (W : World) (h : Hid (CopyIn w f W)) :
    Calls Try.prog 53 #[.string s] W fun e W' => e = .returned (.string s) ∧ (W'.cell? ⟨w.heap.size, 0, none⟩ = some (.string f.name) ∧ W'.cell? ⟨w.heap.size, 1, none⟩ = some (.string f.text) ∧ W'.cell? ⟨w.heap.size, 2, none⟩ = some (.int .i64 f.kept)) ∧ (W'.cell? ⟨w.heap.size + 1, 0, none⟩ = some (.string ByteArray.empty) ∧ W'.cell? ⟨w.heap.size + 1, 1, none⟩ = some (.string ByteArray.empty) ∧ W'.cell? ⟨w.heap.size + 1, 2, none⟩ = some (.int .i64 0)) ∧ (W'.frozen? ⟨w.heap.size + 1, 0, none⟩ = false ∧ W'.frozen? ⟨w.heap.size + 1, 1, none⟩ = false ∧ W'.frozen? ⟨w.heap.size + 1, 2, none⟩ = false) ∧ Hid (CopyIn w f W') := by
  refine (clone_any s (by omega) W).mono ?_
  rintro e W' ⟨rfl, hb⟩
  obtain ⟨h0, h1, h2⟩ := h.out
  have k1 := h1.on hb h1.lt
  have k2 := h2.on hb h2.lt
  exact ⟨rfl, ⟨k1.cell (j := 0) rfl, k1.cell (j := 1) rfl, k1.cell (j := 2) rfl⟩, ⟨k2.cell (j := 0) rfl, k2.cell (j := 1) rfl, k2.cell (j := 2) rfl⟩, ⟨k2.thaw 0, k2.thaw 1, k2.thaw 2⟩, below_via h0 hb, k1, k2⟩

set_option maxRecDepth 1000000 in
set_option maxHeartbeats 1000000 in
theorem copiedFile_any (f : FileD) (hs : f.name.size ≤ 1048576) (ht : f.text.size ≤ 1048576) (w : World) :
    Calls Try.prog 68 #[f.value] w fun e w' => e = .returned f.value ∧ Below w.heap.size w w' := by
  have HG := hid (copy_in w f)
  have CC := hid (fun s hs W h => copy_call w f s hs W h)
  unfold FileD.value
  go_enter Try.func68, Try.ntmps68
  go_wp2
  go_region_with (go_at_call 53; refine (CC.out _ (by first | exact hs | exact ht) _ HG).mono ?_; rintro e w2 ⟨rfl, ⟨x0, x1, x2⟩, ⟨y0, y1, y2⟩, ⟨z0, z1, z2⟩, HG⟩)
  all_goals
    have HB := hid (((HG.out.1.setCell (p := ⟨w.heap.size + 1, 0, none⟩) (by show _ ≤ _ + 1; omega) (.string f.name)).setCell (p := ⟨w.heap.size + 1, 1, none⟩) (by show _ ≤ _ + 1; omega) (.string f.text)).setCell (p := ⟨w.heap.size + 1, 2, none⟩) (by show _ ≤ _ + 1; omega) (.int .i64 f.kept))
    go_wp2
    refine bodyPost_ret (v := .agg #[.string f.name, .string f.text, .int .i64 f.kept]) (by simp [results, Try.results68, go_sem, y0, y1, y2]) rfl ⟨rfl, HB.out⟩

set_option maxRecDepth 1000000 in
set_option maxHeartbeats 1000000 in
theorem copiedDisk_any (ao : Option Addr) (l : List FileD) (cap : Nat) (hl : l.length ≤ 1048576) (hs : ∀ f ∈ l, f.name.size ≤ 1048576 ∧ f.text.size ≤ 1048576) (w : World) (ha : FilesAt w ao l) :
    Calls Try.prog 44 #[.agg #[.slice ao l.length cap]] w fun e w' => ∃ g, w.heap.size ≤ g ∧ e = .returned (.agg #[.slice (some ⟨g, 0, none⟩) l.length l.length]) ∧ BlockIs w' g 36 (fileCells l) ∧ Below w.heap.size w w' := by
  obtain ⟨i0, hi, hz0, hz1, hz2⟩ := info_parts toFile_info
  have HA := (show Hid (FilesAt w ao l) from ha)
  have HS := hid hs
  clear ha hs
  obtain ⟨W0, hW0⟩ : ∃ W0, (w.alloc (.cells #[.slice ao l.length cap] 26)).alloc (.cells #[.slice none 0 0] 26) = W0 := ⟨_, rfl⟩
  have hb0 : Below w.heap.size w W0 := by rw [← hW0]; exact below_more (below_more (Below.refl _ w) _) _
  have hsz : W0.heap.size = w.heap.size + 2 := by rw [← hW0]; simp [World.alloc, -World.alloc_eq]
  have hx0 : BlockIs W0 w.heap.size 26 [.slice ao l.length cap] := by
    rw [← hW0]
    have h0 : BlockIs (w.alloc (.cells #[.slice ao l.length cap] 26)) w.heap.size 26 [.slice ao l.length cap] := heap_alloc_new w _
    exact h0.on (below_more (Below.refl _ _) _) h0.lt
  have hx1 : BlockIs W0 (w.heap.size + 1) 26 [.slice none 0 0] := by
    rw [← hW0]
    have := heap_alloc_new (w.alloc (.cells #[.slice ao l.length cap] 26)) (.cells #[.slice none 0 0] 26)
    rw [show (w.alloc (.cells #[.slice ao l.length cap] 26)).heap.size = w.heap.size + 1 by simp [World.alloc, -World.alloc_eq]] at this
    exact this
  have H0 := hid (And.intro hb0 (And.intro hx0 hx1))
  have c0 := hx0.cell (j := 0) rfl
  clear hb0 hx0 hx1
  go_enter Try.func44, Try.ntmps44
  go_wp2_with (at_make; refine wpList_make_full _ rfl (.tmp 8) (.tmp 8) 24 rfl (w.heap.size + 2) 36 i0 (.agg #[.string ByteArray.empty, .string ByteArray.empty, .int .i64 0]) 3 Try.underlying24 hi hz0 hz1 _ _ _ _ l.length rfl rfl rfl rfl ?b2 ?b3 ?b4 ?_)
  case b2 => rw [hz2]; omega
  case b3 => unfold maxLen; omega
  case b4 => exact Nat.le_of_eq hsz.symm
  intro w1 hown hgrow
  try rw [hsz] at hown
  have HM := hid (BlockIs.made hown)
  have hB1 : Below (w.heap.size + 2) W0 w1 := (Below.refl _ W0).grown hgrow (Nat.le_of_eq hsz.symm) (fun k h => by cases h)
  have B1 := hid (H0.out.1.trans (hB1.mono (by omega)))
  have X1 := H0.out.2.1.on hB1 (by omega)
  have Y1 := hid (And.intro X1 (H0.out.2.2.on hB1 (by omega)))
  have c1 := X1.cell (j := 0) rfl
  clear hown hgrow hB1 X1 H0 c0
  clear hsz hW0 W0
  go_wp2
  go_loopg [4, 5, 13] l.length (fun g _ _ i wr => ∃ (k : Nat), k + g = l.length ∧ i = .int .i64 k ∧ Hid (Below w.heap.size w wr) ∧ Hid (BlockIs wr (w.heap.size + 1) 26 [.slice none 0 0]) ∧ ∃ rest, Hid (rest.length = (l.length - k) * 3) ∧ Hid (BlockIs wr (w.heap.size + 2) 36 (fileCells (l.take k) ++ rest)))
  case atStart => exact ⟨0, by omega, rfl, B1, Y1.out.2, _, made_length l.length, HM⟩
  case round =>
    obtain ⟨k, hkg, rfl, BR, YR, rest, hrl, FP⟩ := hrel
    clear HM B1 Y1
    cases gk with
    | zero =>
      have hlt : ¬ (k : Int) < (l.length : Int) := by omega
      have hP : BlockIs wr (w.heap.size + 2) 36 (fileCells l) := by
        have h0 : rest = [] := List.length_eq_zero_iff.1 (by rw [hrl.out, show l.length - k = 0 by omega])
        have := FP.out
        rw [h0, List.append_nil, List.take_of_length_le (by omega)] at this
        exact this
      have HP := hid (hP.far (b := w.heap.size + 1) (j := 0) (by omega) (.slice (some ⟨w.heap.size + 2, 0, none⟩) l.length l.length))
      have HB := hid (BR.out.setCell (p := ⟨w.heap.size + 1, 0, none⟩) (by show _ ≤ _ + 1; omega) (.slice (some ⟨w.heap.size + 2, 0, none⟩) l.length l.length))
      have y0 := YR.out.cell (j := 0) rfl
      have z0 := YR.out.thaw 0
      clear FP hrl hP BR YR
      go_wp2
      refine bodyPost_ret (v := .agg #[.slice (some ⟨w.heap.size + 2, 0, none⟩) l.length l.length]) (by simp [results, Try.results44, go_sem, y0]) rfl ⟨_, Nat.le_add_right _ _, rfl, HP.out, HB.out⟩
    | succ g =>
      have hlt : k < l.length := by omega
      have hlt' : (k : Int) < (l.length : Int) := by omega
      have hne : l ≠ [] := by intro e; rw [e] at hlt; simp at hlt
      obtain ⟨b, off, rfl, hc⟩ := HA.out.on BR.out hne
      obtain ⟨x0, x1, x2⟩ := hc k hlt
      clear hc
      have C := hid (fun w => copiedFile_any l[k] (HS.out _ (List.getElem_mem hlt)).1 (HS.out _ (List.getElem_mem hlt)).2 w)
      unfold FileD.value at C
      have hbA := below_more (Below.refl wr.heap.size wr) (.cells #[.string l[k].name, .string l[k].text, .int .i64 l[k].kept] 36)
      have HBA := hid hbA
      clear hbA
      go_wp2_with fail
      refine (C.out _).mono ?_
      rintro e w2 ⟨rfl, b2⟩
      have b3 := below_via HBA.out b2
      obtain ⟨⟨z0, z1, z2, y0, y1, y2⟩, hf, r', hr', hnew⟩ := put_file hlt FP.out hrl.out b3 FP.out.lt
      have B2 := hid (below_via BR.out b3)
      have Y2 := hid (YR.out.on b3 YR.out.lt)
      have f0 := hf (k * 3)
      have f1 := hf (k * 3 + 1)
      have f2 := hf (k * 3 + 2)
      have HN := hid hnew
      have HR := hid hr'
      clear x0 x1 x2 C hf hnew hr' b2 b3 FP hrl BR YR
      go_wp2
      go_roundg g
      case measure => omega
      case rel => exact ⟨k + 1, by omega, by go_num, ((B2.out.setCell (by show _ ≤ _ + 2; omega) _).setCell (by show _ ≤ _ + 2; omega) _).setCell (by show _ ≤ _ + 2; omega) _, ((Y2.out.far (by omega) _).far (by omega) _).far (by omega) _, r', HR, HN⟩
end Go.Proofs.Ytfkknmhokiacaaa
