/-
  The walk of spec.DoAct: what an act leaves.
-/
import Derived.Test.YtbbohfagnnobgaaJoint18
import Derived.Test.YtbbohfagnnobgaaJoint27
import Derived.Test.YtbbohfagnnobgaaJoint29
import Derived.Deep.RegionWith
namespace Go.Proofs.Ytbbohfagnnobgaa
open Go.RowKit

theorem three_boxes (w : World) (o p q : Obj) : Below w.heap.size w (((w.alloc o).alloc p).alloc q) ∧ (((w.alloc o).alloc p).alloc q).heap.size = w.heap.size + 3 ∧ (((w.alloc o).alloc p).alloc q).heap[w.heap.size]? = some o ∧ (((w.alloc o).alloc p).alloc q).heap[w.heap.size + 1]? = some p ∧ (((w.alloc o).alloc p).alloc q).heap[w.heap.size + 1 + 1]? = some q := by
  refine ⟨(three_new w o p q).1, (three_new w o p q).2.1, ?_, (three_new w o p q).2.2.1, (three_new w o p q).2.2.2⟩
  show (((w.heap.push o).push p).push q)[w.heap.size]? = some o
  rw [Array.getElem?_push, if_neg (by simp <;> omega), Array.getElem?_push, if_neg (by simp), Array.getElem?_push, if_pos rfl]

/-- what an act that was done answers -/
def endAns (o : List FileD) : List FileD × Bool := if diskOk o = true then (o, true) else ([], false)
theorem doAns_of {l o : List FileD} {a : ActD} (hok : actOk l a = true) (ht : doTry l a = some o) : doAns l a = endAns o := by
  unfold doAns doAct endAns
  rw [if_pos hok, ht]
  dsimp only
  cases diskOk o <;> rfl
theorem doAns_no {l : List FileD} {a : ActD} (ht : doTry l a = none) : doAns l a = ([], false) := by
  simp [doAns, doAct, ht]

/-- the boxes of DoAct: disk, act, answer, file, disk that is made -/
structure ActIn (w : World) (F : Nat) (dv : Value) (acs : List Value) (f : FileD) (ov : Value) (W : World) : Prop where
  below : Below w.heap.size w W
  disk : BlockIs W w.heap.size 26 [dv]
  act : BlockIs W (w.heap.size + 1) 37 acs
  res : BlockIs W (w.heap.size + 1 + 1) 26 [.slice none 0 0]
  file : BlockIs W F 77 [.string f.name, .string f.text, .int .i64 f.kept]
  out : BlockIs W (F + 1) 26 [ov]
  far : w.heap.size + 2 < F
theorem ActIn.start {w w2 : World} {dv : Value} {acs : List Value} (hb : Below w.heap.size w w2) (h : BlockIs w2 w.heap.size 26 [dv] ∧ BlockIs w2 (w.heap.size + 1) 37 acs ∧ BlockIs w2 (w.heap.size + 1 + 1) 26 [.slice none 0 0]) (f : FileD) (ov : Value) :
    ActIn w w2.heap.size dv acs f ov ((w2.alloc (.cells #[.string f.name, .string f.text, .int .i64 f.kept] 77)).alloc (.cells #[ov] 26)) := by
  have b1 := below_more (below_more (Below.refl w2.heap.size w2) (.cells #[.string f.name, .string f.text, .int .i64 f.kept] 77)) (.cells #[ov] 26)
  have h0 : BlockIs (w2.alloc (.cells #[.string f.name, .string f.text, .int .i64 f.kept] 77)) w2.heap.size 77 [.string f.name, .string f.text, .int .i64 f.kept] := heap_alloc_new w2 _
  have h1 : BlockIs ((w2.alloc (.cells #[.string f.name, .string f.text, .int .i64 f.kept] 77)).alloc (.cells #[ov] 26)) (w2.heap.size + 1) 26 [ov] := by
    have := heap_alloc_new (w2.alloc (.cells #[.string f.name, .string f.text, .int .i64 f.kept] 77)) (.cells #[ov] 26)
    rw [show (w2.alloc (.cells #[.string f.name, .string f.text, .int .i64 f.kept] 77)).heap.size = w2.heap.size + 1 by simp [World.alloc, -World.alloc_eq]] at this
    exact this
  exact ⟨below_via hb b1, h.1.on b1 h.1.lt, h.2.1.on b1 h.2.1.lt, h.2.2.on b1 h.2.2.lt, h0.on (below_more (Below.refl _ _) _) h0.lt, h1, by have := h.2.2.lt; omega⟩
theorem ActIn.on {w W W' : World} {F : Nat} {dv ov : Value} {acs : List Value} {f : FileD} (h : ActIn w F dv acs f ov W) (hb : Below W.heap.size W W') : ActIn w F dv acs f ov W' :=
  ⟨below_via h.below hb, h.disk.on hb h.disk.lt, h.act.on hb h.act.lt, h.res.on hb h.res.lt, h.file.on hb h.file.lt, h.out.on hb h.out.lt, h.far⟩
theorem ActIn.drew {w W : World} {F : Nat} {dv ov : Value} {acs : List Value} {f : FileD} (h : ActIn w F dv acs f ov W) : ActIn w F dv acs f ov W.drew := h.on (below_drewN (Below.refl _ _) 1)
theorem ActIn.setName {w W : World} {F : Nat} {dv ov : Value} {acs : List Value} {f : FileD} (h : ActIn w F dv acs f ov W) (s : ByteArray) : ActIn w F dv acs ⟨s, f.text, f.kept⟩ ov (W.setCell ⟨F, 0, none⟩ (.string s)) :=
  ⟨h.below.setCell (by show _ ≤ F; have := h.far; omega) _, h.disk.far (by have := h.far; omega) _, h.act.far (by have := h.far; omega) _, h.res.far (by have := h.far; omega) _, h.file.set 0 _, h.out.far (by omega) _, h.far⟩
theorem ActIn.setText {w W : World} {F : Nat} {dv ov : Value} {acs : List Value} {f : FileD} (h : ActIn w F dv acs f ov W) (s : ByteArray) : ActIn w F dv acs ⟨f.name, s, f.kept⟩ ov (W.setCell ⟨F, 1, none⟩ (.string s)) :=
  ⟨h.below.setCell (by show _ ≤ F; have := h.far; omega) _, h.disk.far (by have := h.far; omega) _, h.act.far (by have := h.far; omega) _, h.res.far (by have := h.far; omega) _, h.file.set 1 _, h.out.far (by omega) _, h.far⟩
theorem ActIn.setKept {w W : World} {F : Nat} {dv ov : Value} {acs : List Value} {f : FileD} (h : ActIn w F dv acs f ov W) (z : Int) : ActIn w F dv acs ⟨f.name, f.text, z⟩ ov (W.setCell ⟨F, 2, none⟩ (.int .i64 z)) :=
  ⟨h.below.setCell (by show _ ≤ F; have := h.far; omega) _, h.disk.far (by have := h.far; omega) _, h.act.far (by have := h.far; omega) _, h.res.far (by have := h.far; omega) _, h.file.set 2 _, h.out.far (by omega) _, h.far⟩
theorem ActIn.setOut {w W : World} {F : Nat} {dv ov : Value} {acs : List Value} {f : FileD} (h : ActIn w F dv acs f ov W) (v : Value) : ActIn w F dv acs f v (W.setCell ⟨F + 1, 0, none⟩ v) :=
  ⟨h.below.setCell (by show _ ≤ F + 1; have := h.far; omega) _, h.disk.far (by have := h.far; omega) _, h.act.far (by have := h.far; omega) _, h.res.far (by have := h.far; omega) _, h.file.far (by omega) _, h.out.set 0 _, h.far⟩
/-- all cells that are read -/
theorem ActIn.cells {w W : World} {F : Nat} {dv ov c0 c1 c2 c3 : Value} {f : FileD} (h : ActIn w F dv [c0, c1, c2, c3] f ov W) :
    W.cell? ⟨w.heap.size, 0, none⟩ = some dv ∧ W.cell? ⟨w.heap.size + 1, 0, none⟩ = some c0 ∧ W.cell? ⟨w.heap.size + 1, 1, none⟩ = some c1 ∧ W.cell? ⟨w.heap.size + 1, 2, none⟩ = some c2 ∧ W.cell? ⟨w.heap.size + 1, 3, none⟩ = some c3 ∧ W.cell? ⟨w.heap.size + 1 + 1, 0, none⟩ = some (.slice none 0 0) ∧
    W.cell? ⟨F, 0, none⟩ = some (.string f.name) ∧ W.cell? ⟨F, 1, none⟩ = some (.string f.text) ∧ W.cell? ⟨F, 2, none⟩ = some (.int .i64 f.kept) ∧ W.cell? ⟨F + 1, 0, none⟩ = some ov ∧ W.frozen? ⟨w.heap.size + 1 + 1, 0, none⟩ = false ∧ (W.frozen? ⟨F, 0, none⟩ = false ∧ W.frozen? ⟨F, 1, none⟩ = false ∧ W.frozen? ⟨F, 2, none⟩ = false) ∧ W.frozen? ⟨F + 1, 0, none⟩ = false :=
  ⟨h.disk.cell (j := 0) rfl, h.act.cell (j := 0) rfl, h.act.cell (j := 1) rfl, h.act.cell (j := 2) rfl, h.act.cell (j := 3) rfl, h.res.cell (j := 0) rfl, h.file.cell (j := 0) rfl, h.file.cell (j := 1) rfl, h.file.cell (j := 2) rfl, h.out.cell (j := 0) rfl, h.res.thaw 0, ⟨h.file.thaw 0, h.file.thaw 1, h.file.thaw 2⟩, h.out.thaw 0⟩
theorem OwnAt.far {w : World} {t : TypeId} {cs : List Value} {n : Nat} {va : Option Addr} {lo hi b j : Nat} (h : OwnAt w t cs n va lo hi) (hb : b < lo) (v : Value) : OwnAt (w.setCell ⟨b, j, none⟩ v) t cs n va lo hi :=
  h.imp id fun ⟨g, r, a, b, c, d⟩ => ⟨g, r, a, b, c, d.far (by omega) _⟩
theorem size_setCell (w : World) (a : Addr) (v : Value) : (w.setCell a v).heap.size = w.heap.size := by simp [World.setCell]
theorem own_ret {w : World} {t t2 : TypeId} {cs cs2 : List Value} {n : Nat} {va : Option Addr} {lo hi b : Nat} {v : Value} (h : OwnAt w t cs n va lo hi) (hb : BlockIs w b t2 cs2) (hhi : hi ≤ w.heap.size) (hne : t ≠ t2) : OwnAt (w.setCell ⟨b, 0, none⟩ v) t cs n va lo (w.setCell ⟨b, 0, none⟩ v).heap.size :=
  h.imp id fun ⟨g, r, a, c, d, k⟩ => ⟨g, r, a, c, by rw [size_setCell]; omega, k.far (fun e => by
    subst e
    unfold BlockIs at hb k
    rw [hb] at k
    simp at k
    exact hne k.2.symm) _⟩
theorem put_small (l : List FileD) (f : FileD) : (filesPut l f).length ≤ l.length + 1 := by
  rw [put_length]
  have : (filesNot l f.name).length ≤ l.length := List.length_filter_le _ _
  omega
theorem not_small (l : List FileD) (x : ByteArray) : (filesNot l x).length ≤ l.length := List.length_filter_le _ _

set_option maxRecDepth 1000000 in
set_option maxHeartbeats 4000000 in
theorem specAdd_any (ao : Option Addr) (l : List FileD) (cap : Nat) (name text : ByteArray) (hd : diskOk l = true) (hn : nameOk name = true) (ht : text.size ≤ 1048576) (w : World) (ha : FilesAt w ao l) :
    Calls Try.prog 25 #[.agg #[.slice ao l.length cap], .agg #[.int .i64 1, .string name, .string text, .string ByteArray.empty]] w fun e w' => ∃ va vc, e = .returned (.tuple #[.agg #[.slice va (doAns l ⟨1, name, text, ByteArray.empty⟩).1.length vc], .bool (doAns l ⟨1, name, text, ByteArray.empty⟩).2]) ∧ OwnAt w' 77 (fileCells (doAns l ⟨1, name, text, ByteArray.empty⟩).1) (doAns l ⟨1, name, text, ByteArray.empty⟩).1.length va w.heap.size w'.heap.size ∧ Below w.heap.size w w' := by
  have HA := hid ha
  have hl : l.length ≤ 30 := (diskOk_iff.1 hd).1
  have h3 := three_boxes w (.cells #[.slice ao l.length cap] 26) (.cells #[.int .i64 1, .string name, .string text, .string ByteArray.empty] 37) (.cells #[.slice none 0 0] 26)
  have H3 := hid h3
  clear h3 ha
  obtain ⟨W0, hW0⟩ : ∃ W0, ((w.alloc (.cells #[.slice ao l.length cap] 26)).alloc (.cells #[.int .i64 1, .string name, .string text, .string ByteArray.empty] 37)).alloc (.cells #[.slice none 0 0] 26) = W0 := ⟨_, rfl⟩
  rw [hW0] at H3
  have X0 : Hid (BlockIs W0 w.heap.size 26 [.slice ao l.length cap] ∧ BlockIs W0 (w.heap.size + 1) 37 [.int .i64 1, .string name, .string text, .string ByteArray.empty] ∧ BlockIs W0 (w.heap.size + 1 + 1) 26 [.slice none 0 0]) := H3.out.2.2
  have c0 := X0.out.1.cell (j := 0) rfl
  have C := hid (fun w ha => specDiskOk_any ao l cap (by omega) w ha)
  rw [hd] at C
  have cN' := fun w => l03Name_any name w
  rw [hn] at cN'
  have cN := hid cN'
  have cAt := hid (fun w ha => l03At_any ao l cap name (by omega) w ha)
  have HD := hid hd
  have HN := hid hn
  clear cN' hd hn
  go_enter Try.func25, Try.ntmps25
  go_wp2_with fail
  refine (C.out W0 (HA.out.on H3.out.1)).mono ?_
  rintro e w1 ⟨rfl, b1⟩
  have B1 := hid (below_via H3.out.1 b1)
  have X1 := hid (And.intro (X0.out.1.on b1 X0.out.1.lt) (And.intro (X0.out.2.1.on b1 X0.out.2.1.lt) (X0.out.2.2.on b1 X0.out.2.2.lt)))
  have a0 := X1.out.2.1.cell (j := 0) rfl
  have a1 := X1.out.2.1.cell (j := 1) rfl
  have a2 := X1.out.2.1.cell (j := 2) rfl
  have a3 := X1.out.2.1.cell (j := 3) rfl
  have d0 := X1.out.1.cell (j := 0) rfl
  clear b1 C H3 X0 c0 hW0 W0
  go_wp2_with fail
  refine (cN.out _).mono ?_
  rintro e w' ⟨rfl, hw⟩
  rw [hw]
  clear hw w' cN
  go_wp2_with fail
  refine (cAt.out _ (HA.out.on B1.out)).mono ?_
  rintro e w2 ⟨hor, b2⟩
  have B2 := hid (below_via B1.out b2)
  have X2 := hid (And.intro (X1.out.1.on b2 X1.out.1.lt) (And.intro (X1.out.2.1.on b2 X1.out.2.1.lt) (X1.out.2.2.on b2 X1.out.2.2.lt)))
  clear b2 cAt B1 X1 a0 a1 a2 a3 d0
  have a0 := X2.out.2.1.cell (j := 0) rfl
  have a1 := X2.out.2.1.cell (j := 1) rfl
  have a2 := X2.out.2.1.cell (j := 2) rfl
  have a3 := X2.out.2.1.cell (j := 3) rfl
  have d0 := X2.out.1.cell (j := 0) rfl
  have r0 := X2.out.2.2.cell (j := 0) rfl
  have s0 := X2.out.2.2.thaw 0
  rcases hor with ⟨k, hfirst, rfl⟩ | ⟨hnone, rfl⟩
  · have hk := hfirst.1
    have hk' : (k : Int) < (l.length : Int) := by omega
    have hk0 : (0 : Int) ≤ (k : Int) := by omega
    have hk1 : ¬ (k : Int) < 0 := by omega
    have htk : l[k].text.size ≤ 20000 := (diskOk_kept HD.out hk).2.2
    have hne : l ≠ [] := by intro e; rw [e] at hk; simp at hk
    obtain ⟨b, off, rfl, hc⟩ := HA.out.on B2.out hne
    obtain ⟨x0', x1', x2'⟩ := hc k hk
    have hbF := below_more (Below.refl w2.heap.size w2) (.cells #[.string name, .string ⟨#[]⟩, .int .i64 0] 77)
    have x0 := (hbF.cell (p := ⟨b, off + k * 3, none⟩) (World.block_lt_of_cell? w2 _ x0')).trans x0'
    have x1 := (hbF.cell (p := ⟨b, off + k * 3 + 1, none⟩) (World.block_lt_of_cell? w2 _ x1')).trans x1'
    have x2 := (hbF.cell (p := ⟨b, off + k * 3 + 2, none⟩) (World.block_lt_of_cell? w2 _ x2')).trans x2'
    have d1 := (hbF.cell (p := ⟨w.heap.size, 0, none⟩) (World.block_lt_of_cell? w2 _ d0)).trans d0
    have HFD : Hid (foundOf l name = some l[k]) := found_some hfirst
    have HNM : Hid (l[k].name = name) := hfirst.2.1
    have p1 := a1
    clear hc x0' x1' x2' hbF d0 a0 a1 a2 a3 r0 s0 hfirst
    obtain ⟨Wa, hWa⟩ : ∃ Wa, (w2.alloc (.cells #[.string l[k].name, .string l[k].text, .int .i64 l[k].kept] 77)).alloc (.cells #[.slice none 0 0] 26) = Wa := ⟨_, rfl⟩
    have Ya : Hid (ActIn w w2.heap.size (.slice (some ⟨b, off, none⟩) l.length cap) [.int .i64 1, .string name, .string text, .string ByteArray.empty] l[k] (.slice none 0 0) Wa) := by rw [← hWa]; exact hid (ActIn.start B2.out X2.out l[k] (.slice none 0 0))
    obtain ⟨W3, hW3⟩ : ∃ W3, Wa.setCell ⟨w2.heap.size + 1, 0, none⟩ (.slice none 0 0) = W3 := ⟨_, rfl⟩
    have Y3 := hid (Ya.out.setOut (.slice none 0 0))
    rw [hW3] at Y3
    obtain ⟨-, -, -, -, -, -, -, -, -, ya0, -, -, ya1⟩ := Ya.out.cells
    obtain ⟨d0, a0, a1, a2, a3, r0, f0, f1, f2, o0, s0, ⟨t0, t1, t2⟩, u0⟩ := Y3.out.cells
    clear Ya
    obtain ⟨W4, hW4⟩ : ∃ W4, W3.setCell ⟨w2.heap.size, 1, none⟩ (.string (l[k].text ++ text)) = W4 := ⟨_, rfl⟩
    have Y4' := hid (Y3.out.setText (l[k].text ++ text))
    rw [hW4] at Y4'
    obtain ⟨e0, g0, g1, g2, g3, -, e1, e2, e3, -, -, -, -⟩ := Y4'.out.cells
    have CP := hid (l03Put_any (some ⟨b, off, none⟩) l cap ⟨l[k].name, l[k].text ++ text, l[k].kept⟩ (by omega) W4 (HA.out.on Y4'.out.below))
    unfold FileD.value at CP
    go_wp2_with fail
    refine Calls.mono CP.out ?_
    rintro e w4 ⟨v, rfl, hrow, b4⟩
    obtain ⟨va, vc, rfl, hown⟩ := own_of_row hrow
    have Y4 := hid (Y4'.out.on b4)
    have hlo := b4.size
    have hF := Y4'.out.out.lt
    obtain ⟨o, ho⟩ : ∃ o, filesPut l ⟨l[k].name, l[k].text ++ text, l[k].kept⟩ = o := ⟨_, rfl⟩
    rw [ho] at hown ⊢
    obtain ⟨W5, hW5⟩ : ∃ W5, w4.setCell ⟨w2.heap.size + 1, 0, none⟩ (.slice va o.length vc) = W5 := ⟨_, rfl⟩
    have Y5 := hid (Y4.out.setOut (.slice va o.length vc))
    rw [hW5] at Y5
    have Q5 : Hid (OwnAt W5 77 (fileCells o) o.length va w.heap.size W5.heap.size) := by
      rw [← hW5]
      have := Y4.out.far
      exact hid ((hown.far (by omega) _).down (by omega) (by rw [size_setCell]; exact Nat.le_refl _))
    have hol : o.length ≤ 16777216 := by rw [← ho]; exact (by have := put_small l ⟨l[k].name, l[k].text ++ text, l[k].kept⟩; omega)
    have C5 := hid (specDiskOk_any va o vc hol W5 Q5.out.files)
    have hfin := hid (doAns_of (show actOk l ⟨1, name, text, ByteArray.empty⟩ = true by simp [actOk, HD.out, HN.out, blank]) (o := filesPut l ⟨l[k].name, l[k].text ++ text, l[k].kept⟩) (by unfold doTry; rw [if_pos rfl]; dsimp only; rw [HFD.out]; dsimp only [Option.getD]; rw [HNM.out]))
    rw [ho] at hfin
    obtain ⟨-, -, -, -, -, -, -, -, -, u4, -, -, u5⟩ := Y4.out.cells
    obtain ⟨-, -, -, -, -, -, -, -, -, u6, -, -, -⟩ := Y5.out.cells
    clear b4 hrow hown Y4 CP hlo hF ho Y4' hW4 W4 e0 e1 e2 e3 g0 g1 g2 g3 hW3 Y3 hWa ya0 ya1 d0 a0 a1 a2 a3 r0 f0 f1 f2 o0 s0 t0 t1 t2 u0 p1 x0 x1 x2 d1
    go_wp2_with fail
    refine Calls.mono C5.out ?_
    rintro e w6 ⟨rfl, b6⟩
    have Y6 := hid (Y5.out.on b6)
    have Q6 := hid (Q5.out.on b6)
    have hs6 := b6.size
    obtain ⟨-, -, -, -, -, q0, -, -, -, q1, q2, -, -⟩ := Y6.out.cells
    clear b6 C5 Y5 Q5 u4 u5 u6 hW5
    cases hdo : diskOk o with
    | true =>
      have HB := hid (Y6.out.below.setCell (p := ⟨w.heap.size + 1 + 1, 0, none⟩) (by show _ ≤ _ + 1 + 1; omega) (.slice va o.length vc))
      have HO := hid (And.intro Q6.out Y6.out.far)
      have HDO := hid hdo
      have HR := hid Y6.out.res
      clear Y6 Q6 hdo
      go_wp2
      refine bodyPost_ret (v := .tuple #[.agg #[.slice va o.length vc], .bool true]) (by simp [results, Try.results25, go_sem, q0]) rfl ?_
      rw [hfin.out, endAns, if_pos HDO.out]
      refine ⟨va, vc, rfl, ?_, HB.out⟩
      exact own_ret HO.out.1 HR.out hs6 (by decide)
    | false =>
      have HB := hid (Y6.out.below.setCell (p := ⟨w.heap.size + 1 + 1, 0, none⟩) (by show _ ≤ _ + 1 + 1; omega) (.slice none 0 0))
      have HDO := hid hdo
      clear Y6 Q6 hdo
      go_wp2
      refine bodyPost_ret (v := .tuple #[.agg #[.slice none 0 0], .bool false]) (by simp [results, Try.results25, go_sem, q0]) rfl ?_
      rw [hfin.out, endAns, if_neg (by rw [HDO.out]; simp)]
      exact ⟨none, 0, rfl, Or.inl rfl, HB.out⟩

  · have HFD : Hid (foundOf l name = none) := found_none hnone
    have p1 := a1
    clear d0 a0 a1 a2 a3 r0 s0 hnone
    obtain ⟨Wa, hWa⟩ : ∃ Wa, (w2.alloc (.cells #[.string name, .string ⟨#[]⟩, .int .i64 0] 77)).alloc (.cells #[.slice none 0 0] 26) = Wa := ⟨_, rfl⟩
    have Ya : Hid (ActIn w w2.heap.size (.slice ao l.length cap) [.int .i64 1, .string name, .string text, .string ByteArray.empty] (⟨name, ⟨#[]⟩, 0⟩ : FileD) (.slice none 0 0) Wa) := by rw [← hWa]; exact hid (ActIn.start B2.out X2.out (⟨name, ⟨#[]⟩, 0⟩ : FileD) (.slice none 0 0))
    obtain ⟨W3, hW3⟩ : ∃ W3, Wa.setCell ⟨w2.heap.size + 1, 0, none⟩ (.slice none 0 0) = W3 := ⟨_, rfl⟩
    have Y3 := hid (Ya.out.setOut (.slice none 0 0))
    rw [hW3] at Y3
    obtain ⟨-, -, -, -, -, -, -, -, -, ya0, -, -, ya1⟩ := Ya.out.cells
    obtain ⟨d0, a0, a1, a2, a3, r0, f0, f1, f2, o0, s0, ⟨t0, t1, t2⟩, u0⟩ := Y3.out.cells
    clear Ya
    obtain ⟨W4, hW4⟩ : ∃ W4, W3.setCell ⟨w2.heap.size, 1, none⟩ (.string (⟨#[]⟩ ++ text)) = W4 := ⟨_, rfl⟩
    have Y4' := hid (Y3.out.setText (⟨#[]⟩ ++ text))
    rw [hW4] at Y4'
    obtain ⟨e0, g0, g1, g2, g3, -, e1, e2, e3, -, -, -, -⟩ := Y4'.out.cells
    have CP := hid (l03Put_any ao l cap ⟨name, ⟨#[]⟩ ++ text, 0⟩ (by omega) W4 (HA.out.on Y4'.out.below))
    unfold FileD.value at CP
    go_wp2_with fail
    refine Calls.mono CP.out ?_
    rintro e w4 ⟨v, rfl, hrow, b4⟩
    obtain ⟨va, vc, rfl, hown⟩ := own_of_row hrow
    have Y4 := hid (Y4'.out.on b4)
    have hlo := b4.size
    have hF := Y4'.out.out.lt
    obtain ⟨o, ho⟩ : ∃ o, filesPut l ⟨name, ⟨#[]⟩ ++ text, 0⟩ = o := ⟨_, rfl⟩
    rw [ho] at hown ⊢
    obtain ⟨W5, hW5⟩ : ∃ W5, w4.setCell ⟨w2.heap.size + 1, 0, none⟩ (.slice va o.length vc) = W5 := ⟨_, rfl⟩
    have Y5 := hid (Y4.out.setOut (.slice va o.length vc))
    rw [hW5] at Y5
    have Q5 : Hid (OwnAt W5 77 (fileCells o) o.length va w.heap.size W5.heap.size) := by
      rw [← hW5]
      have := Y4.out.far
      exact hid ((hown.far (by omega) _).down (by omega) (by rw [size_setCell]; exact Nat.le_refl _))
    have hol : o.length ≤ 16777216 := by rw [← ho]; exact (by have := put_small l ⟨name, ⟨#[]⟩ ++ text, 0⟩; omega)
    have C5 := hid (specDiskOk_any va o vc hol W5 Q5.out.files)
    have hfin := hid (doAns_of (show actOk l ⟨1, name, text, ByteArray.empty⟩ = true by simp [actOk, HD.out, HN.out, blank]) (o := filesPut l ⟨name, ⟨#[]⟩ ++ text, 0⟩) (by unfold doTry; rw [if_pos rfl]; dsimp only; rw [HFD.out]; rfl))
    rw [ho] at hfin
    obtain ⟨-, -, -, -, -, -, -, -, -, u4, -, -, u5⟩ := Y4.out.cells
    obtain ⟨-, -, -, -, -, -, -, -, -, u6, -, -, -⟩ := Y5.out.cells
    clear b4 hrow hown Y4 CP hlo hF ho Y4' hW4 W4 e0 e1 e2 e3 g0 g1 g2 g3 hW3 Y3 hWa ya0 ya1 d0 a0 a1 a2 a3 r0 f0 f1 f2 o0 s0 t0 t1 t2 u0 p1
    go_wp2_with fail
    refine Calls.mono C5.out ?_
    rintro e w6 ⟨rfl, b6⟩
    have Y6 := hid (Y5.out.on b6)
    have Q6 := hid (Q5.out.on b6)
    have hs6 := b6.size
    obtain ⟨-, -, -, -, -, q0, -, -, -, q1, q2, -, -⟩ := Y6.out.cells
    clear b6 C5 Y5 Q5 u4 u5 u6 hW5
    cases hdo : diskOk o with
    | true =>
      have HB := hid (Y6.out.below.setCell (p := ⟨w.heap.size + 1 + 1, 0, none⟩) (by show _ ≤ _ + 1 + 1; omega) (.slice va o.length vc))
      have HO := hid (And.intro Q6.out Y6.out.far)
      have HDO := hid hdo
      have HR := hid Y6.out.res
      clear Y6 Q6 hdo
      go_wp2
      refine bodyPost_ret (v := .tuple #[.agg #[.slice va o.length vc], .bool true]) (by simp [results, Try.results25, go_sem, q0]) rfl ?_
      rw [hfin.out, endAns, if_pos HDO.out]
      refine ⟨va, vc, rfl, ?_, HB.out⟩
      exact own_ret HO.out.1 HR.out hs6 (by decide)
    | false =>
      have HB := hid (Y6.out.below.setCell (p := ⟨w.heap.size + 1 + 1, 0, none⟩) (by show _ ≤ _ + 1 + 1; omega) (.slice none 0 0))
      have HDO := hid hdo
      clear Y6 Q6 hdo
      go_wp2
      refine bodyPost_ret (v := .tuple #[.agg #[.slice none 0 0], .bool false]) (by simp [results, Try.results25, go_sem, q0]) rfl ?_
      rw [hfin.out, endAns, if_neg (by rw [HDO.out]; simp)]
      exact ⟨none, 0, rfl, Or.inl rfl, HB.out⟩


set_option maxRecDepth 1000000 in
set_option maxHeartbeats 4000000 in
theorem specKeep_any (ao : Option Addr) (l : List FileD) (cap : Nat) (name : ByteArray) (hd : diskOk l = true) (hn : nameOk name = true) (w : World) (ha : FilesAt w ao l) :
    Calls Try.prog 25 #[.agg #[.slice ao l.length cap], .agg #[.int .i64 2, .string name, .string ByteArray.empty, .string ByteArray.empty]] w fun e w' => ∃ va vc, e = .returned (.tuple #[.agg #[.slice va (doAns l ⟨2, name, ByteArray.empty, ByteArray.empty⟩).1.length vc], .bool (doAns l ⟨2, name, ByteArray.empty, ByteArray.empty⟩).2]) ∧ OwnAt w' 77 (fileCells (doAns l ⟨2, name, ByteArray.empty, ByteArray.empty⟩).1) (doAns l ⟨2, name, ByteArray.empty, ByteArray.empty⟩).1.length va w.heap.size w'.heap.size ∧ Below w.heap.size w w' := by
  have HA := hid ha
  have hl : l.length ≤ 30 := (diskOk_iff.1 hd).1
  have h3 := three_boxes w (.cells #[.slice ao l.length cap] 26) (.cells #[.int .i64 2, .string name, .string ByteArray.empty, .string ByteArray.empty] 37) (.cells #[.slice none 0 0] 26)
  have H3 := hid h3
  clear h3 ha
  obtain ⟨W0, hW0⟩ : ∃ W0, ((w.alloc (.cells #[.slice ao l.length cap] 26)).alloc (.cells #[.int .i64 2, .string name, .string ByteArray.empty, .string ByteArray.empty] 37)).alloc (.cells #[.slice none 0 0] 26) = W0 := ⟨_, rfl⟩
  rw [hW0] at H3
  have X0 : Hid (BlockIs W0 w.heap.size 26 [.slice ao l.length cap] ∧ BlockIs W0 (w.heap.size + 1) 37 [.int .i64 2, .string name, .string ByteArray.empty, .string ByteArray.empty] ∧ BlockIs W0 (w.heap.size + 1 + 1) 26 [.slice none 0 0]) := H3.out.2.2
  have c0 := X0.out.1.cell (j := 0) rfl
  have C := hid (fun w ha => specDiskOk_any ao l cap (by omega) w ha)
  rw [hd] at C
  have cN' := fun w => l03Name_any name w
  rw [hn] at cN'
  have cN := hid cN'
  have cAt := hid (fun w ha => l03At_any ao l cap name (by omega) w ha)
  have HD := hid hd
  have HN := hid hn
  clear cN' hd hn
  go_enter Try.func25, Try.ntmps25
  go_wp2_with fail
  refine (C.out W0 (HA.out.on H3.out.1)).mono ?_
  rintro e w1 ⟨rfl, b1⟩
  have B1 := hid (below_via H3.out.1 b1)
  have X1 := hid (And.intro (X0.out.1.on b1 X0.out.1.lt) (And.intro (X0.out.2.1.on b1 X0.out.2.1.lt) (X0.out.2.2.on b1 X0.out.2.2.lt)))
  have a0 := X1.out.2.1.cell (j := 0) rfl
  have a1 := X1.out.2.1.cell (j := 1) rfl
  have a2 := X1.out.2.1.cell (j := 2) rfl
  have a3 := X1.out.2.1.cell (j := 3) rfl
  have d0 := X1.out.1.cell (j := 0) rfl
  clear b1 C H3 X0 c0 hW0 W0
  go_wp2_with fail
  refine (cN.out _).mono ?_
  rintro e w' ⟨rfl, hw⟩
  rw [hw]
  clear hw w' cN
  go_wp2_with fail
  refine (cAt.out _ (HA.out.on B1.out)).mono ?_
  rintro e w2 ⟨hor, b2⟩
  have B2 := hid (below_via B1.out b2)
  have X2 := hid (And.intro (X1.out.1.on b2 X1.out.1.lt) (And.intro (X1.out.2.1.on b2 X1.out.2.1.lt) (X1.out.2.2.on b2 X1.out.2.2.lt)))
  clear b2 cAt B1 X1 a0 a1 a2 a3 d0
  have a0 := X2.out.2.1.cell (j := 0) rfl
  have a1 := X2.out.2.1.cell (j := 1) rfl
  have a2 := X2.out.2.1.cell (j := 2) rfl
  have a3 := X2.out.2.1.cell (j := 3) rfl
  have d0 := X2.out.1.cell (j := 0) rfl
  have r0 := X2.out.2.2.cell (j := 0) rfl
  have s0 := X2.out.2.2.thaw 0
  rcases hor with ⟨k, hfirst, rfl⟩ | ⟨hnone, rfl⟩
  · have hk := hfirst.1
    have hk' : (k : Int) < (l.length : Int) := by omega
    have hk0 : (0 : Int) ≤ (k : Int) := by omega
    have hk1 : ¬ (k : Int) < 0 := by omega
    have htk : l[k].text.size ≤ 20000 := (diskOk_kept HD.out hk).2.2
    have hne : l ≠ [] := by intro e; rw [e] at hk; simp at hk
    obtain ⟨b, off, rfl, hc⟩ := HA.out.on B2.out hne
    obtain ⟨x0', x1', x2'⟩ := hc k hk
    have hbF := below_more (Below.refl w2.heap.size w2) (.cells #[.string name, .string ⟨#[]⟩, .int .i64 0] 77)
    have x0 := (hbF.cell (p := ⟨b, off + k * 3, none⟩) (World.block_lt_of_cell? w2 _ x0')).trans x0'
    have x1 := (hbF.cell (p := ⟨b, off + k * 3 + 1, none⟩) (World.block_lt_of_cell? w2 _ x1')).trans x1'
    have x2 := (hbF.cell (p := ⟨b, off + k * 3 + 2, none⟩) (World.block_lt_of_cell? w2 _ x2')).trans x2'
    have d1 := (hbF.cell (p := ⟨w.heap.size, 0, none⟩) (World.block_lt_of_cell? w2 _ d0)).trans d0
    have HFD : Hid (foundOf l name = some l[k]) := found_some hfirst
    have HNM : Hid (l[k].name = name) := hfirst.2.1
    have p1 := a1
    clear hc x0' x1' x2' hbF d0 a0 a1 a2 a3 r0 s0 hfirst
    obtain ⟨Wa, hWa⟩ : ∃ Wa, (w2.alloc (.cells #[.string l[k].name, .string l[k].text, .int .i64 l[k].kept] 77)).alloc (.cells #[.slice none 0 0] 26) = Wa := ⟨_, rfl⟩
    have Ya : Hid (ActIn w w2.heap.size (.slice (some ⟨b, off, none⟩) l.length cap) [.int .i64 2, .string name, .string ByteArray.empty, .string ByteArray.empty] l[k] (.slice none 0 0) Wa) := by rw [← hWa]; exact hid (ActIn.start B2.out X2.out l[k] (.slice none 0 0))
    obtain ⟨W3, hW3⟩ : ∃ W3, Wa.setCell ⟨w2.heap.size + 1, 0, none⟩ (.slice none 0 0) = W3 := ⟨_, rfl⟩
    have Y3 := hid (Ya.out.setOut (.slice none 0 0))
    rw [hW3] at Y3
    obtain ⟨-, -, -, -, -, -, -, -, -, ya0, -, -, ya1⟩ := Ya.out.cells
    obtain ⟨d0, a0, a1, a2, a3, r0, f0, f1, f2, o0, s0, ⟨t0, t1, t2⟩, u0⟩ := Y3.out.cells
    clear Ya
    obtain ⟨W4, hW4⟩ : ∃ W4, W3.setCell ⟨w2.heap.size, 2, none⟩ (.int .i64 ((l[k].text.size : Int))) = W4 := ⟨_, rfl⟩
    have Y4' := hid (Y3.out.setKept ((l[k].text.size : Int)))
    rw [hW4] at Y4'
    obtain ⟨e0, g0, g1, g2, g3, -, e1, e2, e3, -, -, -, -⟩ := Y4'.out.cells
    have CP := hid (l03Put_any (some ⟨b, off, none⟩) l cap ⟨l[k].name, l[k].text, (l[k].text.size : Int)⟩ (by omega) W4 (HA.out.on Y4'.out.below))
    unfold FileD.value at CP
    go_wp2_with fail
    refine Calls.mono CP.out ?_
    rintro e w4 ⟨v, rfl, hrow, b4⟩
    obtain ⟨va, vc, rfl, hown⟩ := own_of_row hrow
    have Y4 := hid (Y4'.out.on b4)
    have hlo := b4.size
    have hF := Y4'.out.out.lt
    obtain ⟨o, ho⟩ : ∃ o, filesPut l ⟨l[k].name, l[k].text, (l[k].text.size : Int)⟩ = o := ⟨_, rfl⟩
    rw [ho] at hown ⊢
    obtain ⟨W5, hW5⟩ : ∃ W5, w4.setCell ⟨w2.heap.size + 1, 0, none⟩ (.slice va o.length vc) = W5 := ⟨_, rfl⟩
    have Y5 := hid (Y4.out.setOut (.slice va o.length vc))
    rw [hW5] at Y5
    have Q5 : Hid (OwnAt W5 77 (fileCells o) o.length va w.heap.size W5.heap.size) := by
      rw [← hW5]
      have := Y4.out.far
      exact hid ((hown.far (by omega) _).down (by omega) (by rw [size_setCell]; exact Nat.le_refl _))
    have hol : o.length ≤ 16777216 := by rw [← ho]; exact (by have := put_small l ⟨l[k].name, l[k].text, (l[k].text.size : Int)⟩; omega)
    have C5 := hid (specDiskOk_any va o vc hol W5 Q5.out.files)
    have hfin := hid (doAns_of (show actOk l ⟨2, name, ByteArray.empty, ByteArray.empty⟩ = true by simp [actOk, HD.out, HN.out, blank]) (o := filesPut l ⟨l[k].name, l[k].text, (l[k].text.size : Int)⟩) (by unfold doTry; rw [if_neg (by simp), HFD.out]; dsimp only; rw [if_pos rfl]))
    rw [ho] at hfin
    obtain ⟨-, -, -, -, -, -, -, -, -, u4, -, -, u5⟩ := Y4.out.cells
    obtain ⟨-, -, -, -, -, -, -, -, -, u6, -, -, -⟩ := Y5.out.cells
    clear b4 hrow hown Y4 CP hlo hF ho Y4' hW4 W4 e0 e1 e2 e3 g0 g1 g2 g3 hW3 Y3 hWa ya0 ya1 d0 a0 a1 a2 a3 r0 f0 f1 f2 o0 s0 t0 t1 t2 u0 p1 x0 x1 x2 d1
    go_wp2_with fail
    refine Calls.mono C5.out ?_
    rintro e w6 ⟨rfl, b6⟩
    have Y6 := hid (Y5.out.on b6)
    have Q6 := hid (Q5.out.on b6)
    have hs6 := b6.size
    obtain ⟨-, -, -, -, -, q0, -, -, -, q1, q2, -, -⟩ := Y6.out.cells
    clear b6 C5 Y5 Q5 u4 u5 u6 hW5
    cases hdo : diskOk o with
    | true =>
      have HB := hid (Y6.out.below.setCell (p := ⟨w.heap.size + 1 + 1, 0, none⟩) (by show _ ≤ _ + 1 + 1; omega) (.slice va o.length vc))
      have HO := hid (And.intro Q6.out Y6.out.far)
      have HDO := hid hdo
      have HR := hid Y6.out.res
      clear Y6 Q6 hdo
      go_wp2
      refine bodyPost_ret (v := .tuple #[.agg #[.slice va o.length vc], .bool true]) (by simp [results, Try.results25, go_sem, q0]) rfl ?_
      rw [hfin.out, endAns, if_pos HDO.out]
      refine ⟨va, vc, rfl, ?_, HB.out⟩
      exact own_ret HO.out.1 HR.out hs6 (by decide)
    | false =>
      have HB := hid (Y6.out.below.setCell (p := ⟨w.heap.size + 1 + 1, 0, none⟩) (by show _ ≤ _ + 1 + 1; omega) (.slice none 0 0))
      have HDO := hid hdo
      clear Y6 Q6 hdo
      go_wp2
      refine bodyPost_ret (v := .tuple #[.agg #[.slice none 0 0], .bool false]) (by simp [results, Try.results25, go_sem, q0]) rfl ?_
      rw [hfin.out, endAns, if_neg (by rw [HDO.out]; simp)]
      exact ⟨none, 0, rfl, Or.inl rfl, HB.out⟩

  · have HFD : Hid (foundOf l name = none) := found_none hnone
    have p1 := a1
    clear d0 a0 a1 a2 a3 r0 s0 hnone
    obtain ⟨Wa, hWa⟩ : ∃ Wa, (w2.alloc (.cells #[.string name, .string ⟨#[]⟩, .int .i64 0] 77)).alloc (.cells #[.slice none 0 0] 26) = Wa := ⟨_, rfl⟩
    have Ya : Hid (ActIn w w2.heap.size (.slice ao l.length cap) [.int .i64 2, .string name, .string ByteArray.empty, .string ByteArray.empty] (⟨name, ⟨#[]⟩, 0⟩ : FileD) (.slice none 0 0) Wa) := by rw [← hWa]; exact hid (ActIn.start B2.out X2.out (⟨name, ⟨#[]⟩, 0⟩ : FileD) (.slice none 0 0))
    obtain ⟨W3, hW3⟩ : ∃ W3, Wa.setCell ⟨w2.heap.size + 1, 0, none⟩ (.slice none 0 0) = W3 := ⟨_, rfl⟩
    have Y3 := hid (Ya.out.setOut (.slice none 0 0))
    rw [hW3] at Y3
    obtain ⟨-, -, -, -, -, -, -, -, -, ya0, -, -, ya1⟩ := Ya.out.cells
    obtain ⟨d0, a0, a1, a2, a3, r0, f0, f1, f2, o0, s0, ⟨t0, t1, t2⟩, u0⟩ := Y3.out.cells
    clear Ya
    have hfin := hid (show doAns l ⟨2, name, ByteArray.empty, ByteArray.empty⟩ = ([], false) from doAns_no (by unfold doTry; rw [if_neg (by simp)]; dsimp only; rw [HFD.out]))
    have HB := hid (Y3.out.below.setCell (p := ⟨w.heap.size + 1 + 1, 0, none⟩) (by show _ ≤ _ + 1 + 1; omega) (.slice none 0 0))
    go_wp2
    refine bodyPost_ret (v := .tuple #[.agg #[.slice none 0 0], .bool false]) (by simp [results, Try.results25, go_sem, r0]) rfl ?_
    rw [hfin.out]
    exact ⟨none, 0, rfl, Or.inl rfl, HB.out⟩


set_option maxRecDepth 1000000 in
set_option maxHeartbeats 4000000 in
theorem specDrop_any (ao : Option Addr) (l : List FileD) (cap : Nat) (name : ByteArray) (hd : diskOk l = true) (hn : nameOk name = true) (w : World) (ha : FilesAt w ao l) :
    Calls Try.prog 25 #[.agg #[.slice ao l.length cap], .agg #[.int .i64 4, .string name, .string ByteArray.empty, .string ByteArray.empty]] w fun e w' => ∃ va vc, e = .returned (.tuple #[.agg #[.slice va (doAns l ⟨4, name, ByteArray.empty, ByteArray.empty⟩).1.length vc], .bool (doAns l ⟨4, name, ByteArray.empty, ByteArray.empty⟩).2]) ∧ OwnAt w' 77 (fileCells (doAns l ⟨4, name, ByteArray.empty, ByteArray.empty⟩).1) (doAns l ⟨4, name, ByteArray.empty, ByteArray.empty⟩).1.length va w.heap.size w'.heap.size ∧ Below w.heap.size w w' := by
  have HA := hid ha
  have hl : l.length ≤ 30 := (diskOk_iff.1 hd).1
  have h3 := three_boxes w (.cells #[.slice ao l.length cap] 26) (.cells #[.int .i64 4, .string name, .string ByteArray.empty, .string ByteArray.empty] 37) (.cells #[.slice none 0 0] 26)
  have H3 := hid h3
  clear h3 ha
  obtain ⟨W0, hW0⟩ : ∃ W0, ((w.alloc (.cells #[.slice ao l.length cap] 26)).alloc (.cells #[.int .i64 4, .string name, .string ByteArray.empty, .string ByteArray.empty] 37)).alloc (.cells #[.slice none 0 0] 26) = W0 := ⟨_, rfl⟩
  rw [hW0] at H3
  have X0 : Hid (BlockIs W0 w.heap.size 26 [.slice ao l.length cap] ∧ BlockIs W0 (w.heap.size + 1) 37 [.int .i64 4, .string name, .string ByteArray.empty, .string ByteArray.empty] ∧ BlockIs W0 (w.heap.size + 1 + 1) 26 [.slice none 0 0]) := H3.out.2.2
  have c0 := X0.out.1.cell (j := 0) rfl
  have C := hid (fun w ha => specDiskOk_any ao l cap (by omega) w ha)
  rw [hd] at C
  have cN' := fun w => l03Name_any name w
  rw [hn] at cN'
  have cN := hid cN'
  have cAt := hid (fun w ha => l03At_any ao l cap name (by omega) w ha)
  have HD := hid hd
  have HN := hid hn
  clear cN' hd hn
  go_enter Try.func25, Try.ntmps25
  go_wp2_with fail
  refine (C.out W0 (HA.out.on H3.out.1)).mono ?_
  rintro e w1 ⟨rfl, b1⟩
  have B1 := hid (below_via H3.out.1 b1)
  have X1 := hid (And.intro (X0.out.1.on b1 X0.out.1.lt) (And.intro (X0.out.2.1.on b1 X0.out.2.1.lt) (X0.out.2.2.on b1 X0.out.2.2.lt)))
  have a0 := X1.out.2.1.cell (j := 0) rfl
  have a1 := X1.out.2.1.cell (j := 1) rfl
  have a2 := X1.out.2.1.cell (j := 2) rfl
  have a3 := X1.out.2.1.cell (j := 3) rfl
  have d0 := X1.out.1.cell (j := 0) rfl
  clear b1 C H3 X0 c0 hW0 W0
  go_wp2_with fail
  refine (cN.out _).mono ?_
  rintro e w' ⟨rfl, hw⟩
  rw [hw]
  clear hw w' cN
  go_wp2_with fail
  refine (cAt.out _ (HA.out.on B1.out)).mono ?_
  rintro e w2 ⟨hor, b2⟩
  have B2 := hid (below_via B1.out b2)
  have X2 := hid (And.intro (X1.out.1.on b2 X1.out.1.lt) (And.intro (X1.out.2.1.on b2 X1.out.2.1.lt) (X1.out.2.2.on b2 X1.out.2.2.lt)))
  clear b2 cAt B1 X1 a0 a1 a2 a3 d0
  have a0 := X2.out.2.1.cell (j := 0) rfl
  have a1 := X2.out.2.1.cell (j := 1) rfl
  have a2 := X2.out.2.1.cell (j := 2) rfl
  have a3 := X2.out.2.1.cell (j := 3) rfl
  have d0 := X2.out.1.cell (j := 0) rfl
  have r0 := X2.out.2.2.cell (j := 0) rfl
  have s0 := X2.out.2.2.thaw 0
  rcases hor with ⟨k, hfirst, rfl⟩ | ⟨hnone, rfl⟩
  · have hk := hfirst.1
    have hk' : (k : Int) < (l.length : Int) := by omega
    have hk0 : (0 : Int) ≤ (k : Int) := by omega
    have hk1 : ¬ (k : Int) < 0 := by omega
    have htk : l[k].text.size ≤ 20000 := (diskOk_kept HD.out hk).2.2
    have hne : l ≠ [] := by intro e; rw [e] at hk; simp at hk
    obtain ⟨b, off, rfl, hc⟩ := HA.out.on B2.out hne
    obtain ⟨x0', x1', x2'⟩ := hc k hk
    have hbF := below_more (Below.refl w2.heap.size w2) (.cells #[.string name, .string ⟨#[]⟩, .int .i64 0] 77)
    have x0 := (hbF.cell (p := ⟨b, off + k * 3, none⟩) (World.block_lt_of_cell? w2 _ x0')).trans x0'
    have x1 := (hbF.cell (p := ⟨b, off + k * 3 + 1, none⟩) (World.block_lt_of_cell? w2 _ x1')).trans x1'
    have x2 := (hbF.cell (p := ⟨b, off + k * 3 + 2, none⟩) (World.block_lt_of_cell? w2 _ x2')).trans x2'
    have d1 := (hbF.cell (p := ⟨w.heap.size, 0, none⟩) (World.block_lt_of_cell? w2 _ d0)).trans d0
    have HFD : Hid (foundOf l name = some l[k]) := found_some hfirst
    have HNM : Hid (l[k].name = name) := hfirst.2.1
    have p1 := a1
    clear hc x0' x1' x2' hbF d0 a0 a1 a2 a3 r0 s0 hfirst
    obtain ⟨Wa, hWa⟩ : ∃ Wa, (w2.alloc (.cells #[.string l[k].name, .string l[k].text, .int .i64 l[k].kept] 77)).alloc (.cells #[.slice none 0 0] 26) = Wa := ⟨_, rfl⟩
    have Ya : Hid (ActIn w w2.heap.size (.slice (some ⟨b, off, none⟩) l.length cap) [.int .i64 4, .string name, .string ByteArray.empty, .string ByteArray.empty] l[k] (.slice none 0 0) Wa) := by rw [← hWa]; exact hid (ActIn.start B2.out X2.out l[k] (.slice none 0 0))
    obtain ⟨W3, hW3⟩ : ∃ W3, Wa.setCell ⟨w2.heap.size + 1, 0, none⟩ (.slice none 0 0) = W3 := ⟨_, rfl⟩
    have Y3 := hid (Ya.out.setOut (.slice none 0 0))
    rw [hW3] at Y3
    obtain ⟨-, -, -, -, -, -, -, -, -, ya0, -, -, ya1⟩ := Ya.out.cells
    obtain ⟨d0, a0, a1, a2, a3, r0, f0, f1, f2, o0, s0, ⟨t0, t1, t2⟩, u0⟩ := Y3.out.cells
    clear Ya
    have CP := hid (l03Without_any (some ⟨b, off, none⟩) l cap name (by omega) W3 (HA.out.on Y3.out.below))
    go_wp2_with fail
    refine Calls.mono CP.out ?_
    rintro e w4 ⟨v, rfl, hrow, b4⟩
    obtain ⟨va, vc, rfl, hown⟩ := own_of_row hrow
    have Y4 := hid (Y3.out.on b4)
    have hlo := b4.size
    have hF := Y3.out.out.lt
    obtain ⟨o, ho⟩ : ∃ o, filesNot l name = o := ⟨_, rfl⟩
    rw [ho] at hown ⊢
    obtain ⟨W5, hW5⟩ : ∃ W5, w4.setCell ⟨w2.heap.size + 1, 0, none⟩ (.slice va o.length vc) = W5 := ⟨_, rfl⟩
    have Y5 := hid (Y4.out.setOut (.slice va o.length vc))
    rw [hW5] at Y5
    have Q5 : Hid (OwnAt W5 77 (fileCells o) o.length va w.heap.size W5.heap.size) := by
      rw [← hW5]
      have := Y4.out.far
      exact hid ((hown.far (by omega) _).down (by omega) (by rw [size_setCell]; exact Nat.le_refl _))
    have hol : o.length ≤ 16777216 := by rw [← ho]; exact (by have := not_small l name; omega)
    have C5 := hid (specDiskOk_any va o vc hol W5 Q5.out.files)
    have hfin := hid (doAns_of (show actOk l ⟨4, name, ByteArray.empty, ByteArray.empty⟩ = true by simp [actOk, HD.out, HN.out, blank]) (o := filesNot l name) (by unfold doTry; rw [if_neg (by simp), HFD.out]; dsimp only; rw [if_neg (by simp), if_neg (by simp), if_pos rfl]))
    rw [ho] at hfin
    obtain ⟨-, -, -, -, -, -, -, -, -, u4, -, -, u5⟩ := Y4.out.cells
    obtain ⟨-, -, -, -, -, -, -, -, -, u6, -, -, -⟩ := Y5.out.cells
    clear b4 hrow hown Y4 CP hlo hF ho hW3 Y3 hWa ya0 ya1 d0 a0 a1 a2 a3 r0 f0 f1 f2 o0 s0 t0 t1 t2 u0 p1 x0 x1 x2 d1
    go_wp2_with fail
    refine Calls.mono C5.out ?_
    rintro e w6 ⟨rfl, b6⟩
    have Y6 := hid (Y5.out.on b6)
    have Q6 := hid (Q5.out.on b6)
    have hs6 := b6.size
    obtain ⟨-, -, -, -, -, q0, -, -, -, q1, q2, -, -⟩ := Y6.out.cells
    clear b6 C5 Y5 Q5 u4 u5 u6 hW5
    cases hdo : diskOk o with
    | true =>
      have HB := hid (Y6.out.below.setCell (p := ⟨w.heap.size + 1 + 1, 0, none⟩) (by show _ ≤ _ + 1 + 1; omega) (.slice va o.length vc))
      have HO := hid (And.intro Q6.out Y6.out.far)
      have HDO := hid hdo
      have HR := hid Y6.out.res
      clear Y6 Q6 hdo
      go_wp2
      refine bodyPost_ret (v := .tuple #[.agg #[.slice va o.length vc], .bool true]) (by simp [results, Try.results25, go_sem, q0]) rfl ?_
      rw [hfin.out, endAns, if_pos HDO.out]
      refine ⟨va, vc, rfl, ?_, HB.out⟩
      exact own_ret HO.out.1 HR.out hs6 (by decide)
    | false =>
      have HB := hid (Y6.out.below.setCell (p := ⟨w.heap.size + 1 + 1, 0, none⟩) (by show _ ≤ _ + 1 + 1; omega) (.slice none 0 0))
      have HDO := hid hdo
      clear Y6 Q6 hdo
      go_wp2
      refine bodyPost_ret (v := .tuple #[.agg #[.slice none 0 0], .bool false]) (by simp [results, Try.results25, go_sem, q0]) rfl ?_
      rw [hfin.out, endAns, if_neg (by rw [HDO.out]; simp)]
      exact ⟨none, 0, rfl, Or.inl rfl, HB.out⟩

  · have HFD : Hid (foundOf l name = none) := found_none hnone
    have p1 := a1
    clear d0 a0 a1 a2 a3 r0 s0 hnone
    obtain ⟨Wa, hWa⟩ : ∃ Wa, (w2.alloc (.cells #[.string name, .string ⟨#[]⟩, .int .i64 0] 77)).alloc (.cells #[.slice none 0 0] 26) = Wa := ⟨_, rfl⟩
    have Ya : Hid (ActIn w w2.heap.size (.slice ao l.length cap) [.int .i64 4, .string name, .string ByteArray.empty, .string ByteArray.empty] (⟨name, ⟨#[]⟩, 0⟩ : FileD) (.slice none 0 0) Wa) := by rw [← hWa]; exact hid (ActIn.start B2.out X2.out (⟨name, ⟨#[]⟩, 0⟩ : FileD) (.slice none 0 0))
    obtain ⟨W3, hW3⟩ : ∃ W3, Wa.setCell ⟨w2.heap.size + 1, 0, none⟩ (.slice none 0 0) = W3 := ⟨_, rfl⟩
    have Y3 := hid (Ya.out.setOut (.slice none 0 0))
    rw [hW3] at Y3
    obtain ⟨-, -, -, -, -, -, -, -, -, ya0, -, -, ya1⟩ := Ya.out.cells
    obtain ⟨d0, a0, a1, a2, a3, r0, f0, f1, f2, o0, s0, ⟨t0, t1, t2⟩, u0⟩ := Y3.out.cells
    clear Ya
    have hfin := hid (show doAns l ⟨4, name, ByteArray.empty, ByteArray.empty⟩ = ([], false) from doAns_no (by unfold doTry; rw [if_neg (by simp)]; dsimp only; rw [HFD.out]))
    have HB := hid (Y3.out.below.setCell (p := ⟨w.heap.size + 1 + 1, 0, none⟩) (by show _ ≤ _ + 1 + 1; omega) (.slice none 0 0))
    go_wp2
    refine bodyPost_ret (v := .tuple #[.agg #[.slice none 0 0], .bool false]) (by simp [results, Try.results25, go_sem, r0]) rfl ?_
    rw [hfin.out]
    exact ⟨none, 0, rfl, Or.inl rfl, HB.out⟩

end Go.Proofs.Ytbbohfagnnobgaa
