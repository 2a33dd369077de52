/-
  A journal that came in, read as data; the walks of laws.szJournal, toJournal, eqJournal.
-/
import Derived.Test.YtihgkocfgjihhaaGreatDoorJoint4
import Derived.Test.YtihgkocfgjihhaaGreatDoorJoint1
import Derived.Test.YtihgkocfgjihhaaGreatDoorJoint8
import Derived.Test.YtihgkocfgjihhaaGreatDoorJoint10
namespace Go.Proofs.YtihgkocfgjihhaaGreatDoor
open Go.ChangeShapes Go.WideShapes Go.RowKit Go.Deep

set_option maxRecDepth 1000000 in
theorem jour_cells : Tryz.prog.cellsOf 44 = 6 := by kernel_rfl

set_option maxRecDepth 1000000 in
theorem jour_fields {H : Type} {enc : TypeId × Value → H} {P : Program} {W : World} {base : Nat} {sp : Nat → Bool} {held : Bool} {fuel : Nat} {t : TypeId} {f0 f1 f2 f3 : Field} {cs : List Value} {x : DataW H × List MemPlace} (ht : P.underlying t = some (.struct #[f0, f1, f2, f3])) (h : DataW.trod enc P W base sp held fuel t cs = some x) :
    ∃ y0 y1 y2 y3 n, cs.length = P.cellsOf t ∧ DataW.trod enc P W base sp held n f0.type ((cs.drop f0.offset).take (P.cellsOf f0.type)) = some y0 ∧ DataW.trod enc P W base sp held n f1.type ((cs.drop f1.offset).take (P.cellsOf f1.type)) = some y1 ∧
      DataW.trod enc P W base sp held n f2.type ((cs.drop f2.offset).take (P.cellsOf f2.type)) = some y2 ∧ DataW.trod enc P W base sp held n f3.type ((cs.drop f3.offset).take (P.cellsOf f3.type)) = some y3 := by
  obtain ⟨xs, n, _, _, hl, hlen, hf⟩ := DataW.trod_struct ht h
  match xs, hlen with
  | [y0, y1, y2, y3], _ => exact ⟨y0, y1, y2, y3, n, hl, by simpa using hf 0 f0 rfl, by simpa using hf 1 f1 rfl, by simpa using hf 2 f2 rfl, by simpa using hf 3 f3 rfl⟩

set_option maxRecDepth 1000000 in
/-- a journal as a parameter -/
theorem open_jour {H : Type} {enc : TypeId × Value → H} {W : World} {r : Reach} {b0 base : Nat} {sp : Nat → Bool} {held : Bool} {v : Value} {d : DataW H} {ps : List MemPlace} (hval : Value.okWide Tryz.prog W r b0 44 v) (hd : DataW.Trod enc Tryz.prog W base sp held 44 v d ps) :
    ∃ n tm vt s t ao l cap, v = .agg #[.int .i64 n, .int .i64 tm, .int .i64 vt, .int .i64 s, .int .i64 t, .slice ao l.length cap] ∧ (-9223372036854775808 ≤ n ∧ n ≤ 9223372036854775807) ∧ (-9223372036854775808 ≤ tm ∧ tm ≤ 9223372036854775807) ∧ (-9223372036854775808 ≤ vt ∧ vt ≤ 9223372036854775807) ∧ (-9223372036854775808 ≤ s ∧ s ≤ 9223372036854775807) ∧ (-9223372036854775808 ≤ t ∧ t ≤ 9223372036854775807) ∧ l.length ≤ cap ∧ cap ≤ maxLen ∧ EntsAt W ao l ∧ EntsFit l := by
  obtain ⟨cs, rfl, _⟩ := okWide_struct Tryz.underlying44 hval
  obtain ⟨fuel, hf⟩ := hd
  obtain ⟨y0, y1, y2, y3, n, hl, h0, h1, h2, h3⟩ := jour_fields Tryz.underlying44 hf
  rw [jour_cells] at hl
  obtain ⟨c⟩ := cs
  have hl' : c.length = 6 := by simpa [Value.cells] using hl
  match c, hl' with
  | [x0, x1, x2, x3, x4, x5], _ =>
    simp only [Value.cells, ent_cells3, log_cells1] at h0 h1 h2 h3
    obtain ⟨k0, e0, _, s0⟩ := DataW.trod_int Tryz.underlying3 h0
    obtain ⟨k1, e1, _, s1⟩ := DataW.trod_int Tryz.underlying3 h1
    obtain ⟨k2, e2, _, s2⟩ := DataW.trod_int Tryz.underlying3 h2
    obtain ⟨z0, z1, z2, m, _, g0, g1, g2⟩ := ent_fields Tryz.underlying36 h3
    simp only [ent_cells3, log_cellsS] at g0 g1 g2
    obtain ⟨s, e3, _, s3⟩ := DataW.trod_int Tryz.underlying3 g0
    obtain ⟨t, e4, _, s4⟩ := DataW.trod_int Tryz.underlying3 g1
    obtain ⟨ao, l, cap, e5, r⟩ := open_ents g2
    simp at e0 e1 e2 e3 e4 e5
    subst e0 e1 e2 e3 e4 e5
    exact ⟨k0, k1, k2, s, t, ao, l, cap, rfl, bounds_i64 s0, bounds_i64 s1, bounds_i64 s2, bounds_i64 s3, bounds_i64 s4, r⟩

set_option maxRecDepth 1000000 in
set_option maxHeartbeats 1000000 in
theorem szJour_any (n tm vt s t : Int) (ao : Option Addr) (l : List EntD) (cap : Nat) (k : Int) (h0 : 0 ≤ k) (h1 : k ≤ 1048576) (hl : l.length ≤ 9223372036854775807) (hf : EntsFit l) (w : World) (ha : EntsAt w ao l) :
    Calls Tryz.prog 39 #[jourV n tm vt s t (.slice ao l.length cap), .int .i64 k] w fun e w' => ((k - l.length - entBulk l < 0 ∧ e = .returned (.int .i64 (-1))) ∨ (0 ≤ k - l.length - entBulk l ∧ e = .returned (.int .i64 (k - l.length - entBulk l)))) ∧ Below w.heap.size w w' := by
  have HA := hid ha
  have C := hid (fun w ha => szLog_any s t ao l cap k h0 h1 hl hf w ha)
  have HB := hid (below_more (Below.refl w.heap.size w) (.cells #[.int .i64 n, .int .i64 tm, .int .i64 vt, .int .i64 s, .int .i64 t, .slice ao l.length cap] 44))
  clear ha hf
  go_enter Tryz.func39, Tryz.ntmps39
  go_wp2_with fail
  refine (C.out _ (HA.out.on HB.out)).mono ?_
  rintro e w1 ⟨(⟨hneg, rfl⟩ | ⟨hnn, rfl⟩), b1⟩
  · have B1 := hid (below_via HB.out b1)
    clear b1 C HB
    go_wp2
    go_ret
    exact ⟨Or.inl ⟨hneg, rfl⟩, B1.out⟩
  · have B1 := hid (below_via HB.out b1)
    clear b1 C HB
    obtain ⟨q, hq⟩ : ∃ q, k - l.length - entBulk l = q := ⟨_, rfl⟩
    rw [hq] at hnn ⊢
    go_wp2
    go_ret
    exact ⟨Or.inr ⟨by omega, by rw [hq]; rfl⟩, B1.out⟩

set_option maxRecDepth 1000000 in
set_option maxHeartbeats 1000000 in
theorem toJour_any (n tm vt s t : Int) (ao : Option Addr) (l : List EntD) (cap : Nat) (hl : l.length ≤ 1048576) (w : World) (ha : EntsAt w ao l) :
    Calls Tryz.prog 44 #[jourV n tm vt s t (.slice ao l.length cap)] w fun e w' => ∃ g, w.heap.size ≤ g ∧ e = .returned (jourV n tm vt s t (.slice (some ⟨g, 0, none⟩) l.length l.length)) ∧ BlockIs w' g 160 (entCells l) ∧ Below w.heap.size w w' := by
  have C := hid (fun w ha => toLog_any s t ao l cap hl w ha)
  have HA := hid ha
  clear ha
  have H3 := hid (three_log w (.cells #[.int .i64 n, .int .i64 tm, .int .i64 vt, .int .i64 s, .int .i64 t, .slice ao l.length cap] 44) (.cells #[.int .i64 0, .int .i64 0, .int .i64 0, .int .i64 0, .int .i64 0, .slice none 0 0] 63) (.cells #[.int .i64 n, .int .i64 tm, .int .i64 vt, .int .i64 0, .int .i64 0, .slice none 0 0] 63))
  go_enter Tryz.func44, Tryz.ntmps44
  go_wp2_with fail
  refine (C.out _ (HA.out.on H3.out.1)).mono ?_
  rintro e w1 ⟨g, hg, rfl, hbl, b1⟩
  obtain ⟨hb0, hs0, hx1, hx2⟩ := H3.out
  rw [hs0] at b1 hg
  have k1 : BlockIs w1 (w.heap.size + 1) 63 [.int .i64 0, .int .i64 0, .int .i64 0, .int .i64 0, .int .i64 0, .slice none 0 0] := BlockIs.on (show BlockIs _ _ _ _ from hx1) b1 (by omega)
  have k2 : BlockIs w1 (w.heap.size + 1 + 1) 63 [.int .i64 n, .int .i64 tm, .int .i64 vt, .int .i64 0, .int .i64 0, .slice none 0 0] := BlockIs.on (show BlockIs _ _ _ _ from hx2) b1 (by omega)
  have c10 := k1.cell (j := 0) rfl
  have c11 := k1.cell (j := 1) rfl
  have c12 := k1.cell (j := 2) rfl
  have c13 := k1.cell (j := 3) rfl
  have c14 := k1.cell (j := 4) rfl
  have c15 := k1.cell (j := 5) rfl
  have c20 := k2.cell (j := 0) rfl
  have c21 := k2.cell (j := 1) rfl
  have c22 := k2.cell (j := 2) rfl
  have c23 := k2.cell (j := 3) rfl
  have c24 := k2.cell (j := 4) rfl
  have c25 := k2.cell (j := 5) rfl
  have f10 := k1.thaw 0
  have f11 := k1.thaw 1
  have f12 := k1.thaw 2
  have f13 := k1.thaw 3
  have f14 := k1.thaw 4
  have f15 := k1.thaw 5
  have f23 := k2.thaw 3
  have f24 := k2.thaw 4
  have f25 := k2.thaw 5
  have B1 := hid (hb0.trans (b1.mono (by omega)))
  have HB := hid hbl
  have HG := hid hg
  clear hbl b1 C H3 hb0 hs0 hx1 hx2 k1 k2 hg
  go_wp2
  refine bodyPost_ret (v := .agg #[.int .i64 n, .int .i64 tm, .int .i64 vt, .int .i64 s, .int .i64 t, .slice (some ⟨g, 0, none⟩) l.length l.length]) (by simp [results, Tryz.results44, go_sem, c10, c11, c12, c13, c14, c15]) rfl ⟨_, by have := HG.out; omega, rfl, ?_, ?_⟩
  · exact (((((((((HB.out.far (by have := HG.out; omega) _).far (by have := HG.out; omega) _).far (by have := HG.out; omega) _).far (by have := HG.out; omega) _).far (by have := HG.out; omega) _).far (by have := HG.out; omega) _).far (by have := HG.out; omega) _).far (by have := HG.out; omega) _).far (by have := HG.out; omega) _)
  · exact (((((((((B1.out.setCell (by show _ ≤ _ + 1 + 1; omega) _).setCell (by show _ ≤ _ + 1 + 1; omega) _).setCell (by show _ ≤ _ + 1 + 1; omega) _).setCell (by show _ ≤ _ + 1; omega) _).setCell (by show _ ≤ _ + 1; omega) _).setCell (by show _ ≤ _ + 1; omega) _).setCell (by show _ ≤ _ + 1; omega) _).setCell (by show _ ≤ _ + 1; omega) _).setCell (by show _ ≤ _ + 1; omega) _)
end Go.Proofs.YtihgkocfgjihhaaGreatDoor
