/-
  A snapshot that came in, read as data; the walks of laws.szIntS, szSnap, toSnap.
-/
import Derived.Test.YtggogiepebnckaaDoorJoint5
import Derived.Test.YtggogiepebnckaaDoorJoint6
import Derived.Test.YtggogiepebnckaaDoorJoint1
namespace Go.Proofs.YtggogiepebnckaaDoor
open Go.ChangeShapes Go.WideShapes Go.RowKit Go.Deep

set_option maxRecDepth 1000000 in
theorem snap_cells : Tryd.prog.cellsOf 46 = 4 := by kernel_rfl
set_option maxRecDepth 1000000 in
theorem snap_cells9 : Tryd.prog.cellsOf 9 = 1 := by kernel_rfl
set_option maxRecDepth 1000000 in
theorem snap_cellsI : Tryd.prog.cellsOf 22 = 1 := by kernel_rfl

set_option maxRecDepth 1000000 in
theorem snap_fields {H : Type} {enc : TypeId × Value → H} {P : Program} {W : World} {base : Nat} {sp : Nat → Bool} {held : Bool} {fuel : Nat} {t : TypeId} {f0 f1 f2 f3 : Field} {cs : List Value} {x : DataW H × List MemPlace} (ht : P.underlying t = some (.struct #[f0, f1, f2, f3])) (h : DataW.trod enc P W base sp held fuel t cs = some x) :
    ∃ y0 y1 y2 y3 n, cs.length = P.cellsOf t ∧ DataW.trod enc P W base sp held n f0.type ((cs.drop f0.offset).take (P.cellsOf f0.type)) = some y0 ∧ DataW.trod enc P W base sp held n f1.type ((cs.drop f1.offset).take (P.cellsOf f1.type)) = some y1 ∧
      DataW.trod enc P W base sp held n f2.type ((cs.drop f2.offset).take (P.cellsOf f2.type)) = some y2 ∧ DataW.trod enc P W base sp held n f3.type ((cs.drop f3.offset).take (P.cellsOf f3.type)) = some y3 := by
  obtain ⟨xs, n, _, _, hl, hlen, hf⟩ := DataW.trod_struct ht h
  match xs, hlen with
  | [y0, y1, y2, y3], _ => exact ⟨y0, y1, y2, y3, n, hl, by simpa using hf 0 f0 rfl, by simpa using hf 1 f1 rfl, by simpa using hf 2 f2 rfl, by simpa using hf 3 f3 rfl⟩

set_option maxRecDepth 1000000 in
theorem open_intCells {H : Type} {enc : TypeId × Value → H} {W : World} {base : Nat} {sp : Nat → Bool} {held : Bool} {fuel : Nat} {cs : List Value} {x : DataW H × List MemPlace} (h : DataW.trod enc Tryd.prog W base sp held fuel 22 cs = some x) :
    ∃ ao zs cap, cs = [.slice ao zs.length cap] ∧ zs.length ≤ cap ∧ cap ≤ maxLen ∧ IntsAt W ao zs ∧ IntsFit zs := by
  rcases open_slice Tryd.underlying22 h with ⟨rfl, _⟩ | ⟨a, ln, cp, m, n, D, Pl, rfl, hb, hl, hm, hmm, _, hx⟩
  · exact ⟨none, [], 0, rfl, Nat.le_refl _, by unfold maxLen; omega, fun h => absurd rfl h, fun j hj => by simp at hj⟩
  · have hlm : ln ≤ m := by rw [hmm]; split <;> omega
    have each : ∀ i, i < ln → ∃ z : Int, (W.cells? base (a.add (i * 1)) 1 = some [.int .i64 z]) ∧ -9223372036854775808 ≤ z ∧ z ≤ 9223372036854775807 := fun i hi => by
      obtain ⟨cs', e1, e2⟩ := hx i (by omega)
      rw [ints_cells3] at e1
      obtain ⟨z, rfl, _, s⟩ := DataW.trod_int Tryd.underlying3 e2
      have := bounds_i64 s
      exact ⟨z, e1, this.1, this.2⟩
    obtain ⟨F, hF⟩ := choose_lt each
    have hll : ((List.range ln).map F).length = ln := by simp
    refine ⟨some a, (List.range ln).map F, cp, by rw [hll], by rw [hll]; exact hl, hm, ?_, ?_⟩
    · intro hne
      have hp : 0 < ln := by
        rcases Nat.eq_zero_or_pos ln with e | e
        · subst e; exact absurd rfl hne
        · exact e
      obtain ⟨b, off, spot⟩ := a
      have hc : ∀ i, i < ln → W.cell? ((Addr.add ⟨b, off, spot⟩ (i * 1)).add 0) = some (.int .i64 (F i)) := fun i hi => (World.cells?_some (hF i hi).1).2.2 0 (by omega)
      have hspot : spot = none := by
        have := hc 0 hp
        simpa [Addr.add] using World.cell?_spot this
      subst hspot
      refine ⟨b, off, rfl, fun j hj => ?_⟩
      simp only [List.getElem_map, List.getElem_range]
      have h0 := hc j (by omega)
      rw [add_plain, add_plain, Nat.mul_one, Nat.add_zero] at h0
      exact h0
    · intro j hj
      simp only [List.getElem_map, List.getElem_range]
      exact (hF j (by omega)).2

set_option maxRecDepth 1000000 in
/-- a snapshot as a parameter -/
theorem open_snap {H : Type} {enc : TypeId × Value → H} {W : World} {r : Reach} {b0 base : Nat} {sp : Nat → Bool} {held : Bool} {v : Value} {d : DataW H} {ps : List MemPlace} (hval : Value.okWide Tryd.prog W r b0 46 v) (hd : DataW.Trod enc Tryd.prog W base sp held 46 v d ps) :
    ∃ ix tm ao zs cap bd, v = snapV ix tm (.slice ao zs.length cap) bd ∧ (-9223372036854775808 ≤ ix ∧ ix ≤ 9223372036854775807) ∧ (-9223372036854775808 ≤ tm ∧ tm ≤ 9223372036854775807) ∧ bd.size ≤ maxLen ∧ zs.length ≤ cap ∧ cap ≤ maxLen ∧ IntsAt W ao zs ∧ IntsFit zs := by
  obtain ⟨cs, rfl, _⟩ := okWide_struct Tryd.underlying46 hval
  obtain ⟨fuel, hf⟩ := hd
  obtain ⟨y0, y1, y2, y3, n, hl, h0, h1, h2, h3⟩ := snap_fields Tryd.underlying46 hf
  rw [snap_cells] at hl
  obtain ⟨c⟩ := cs
  have hl' : c.length = 4 := by simpa [Value.cells] using hl
  match c, hl' with
  | [x0, x1, x2, x3], _ =>
    simp only [Value.cells, ints_cells3, snap_cellsI, snap_cells9] at h0 h1 h2 h3
    obtain ⟨ix, e0, _, s0⟩ := DataW.trod_int Tryd.underlying3 h0
    obtain ⟨tm, e1, _, s1⟩ := DataW.trod_int Tryd.underlying3 h1
    obtain ⟨ao, zs, cap, e2, r⟩ := open_intCells h2
    obtain ⟨bd, e3, _, s3⟩ := DataW.trod_string Tryd.underlying9 h3
    simp at e0 e1 e2 e3
    subst e0 e1 e2 e3
    exact ⟨ix, tm, ao, zs, cap, bd, rfl, bounds_i64 s0, bounds_i64 s1, s3, r⟩

set_option maxRecDepth 1000000 in
set_option maxHeartbeats 1000000 in
theorem szIntS_any (ao : Option Addr) (n cap : Nat) (k : Int) (h0 : 0 ≤ k) (h1 : k ≤ 1048576) (hl : n ≤ 9223372036854775807) (w : World) :
    Calls Tryd.prog 52 #[.slice ao n cap, .int .i64 k] w fun e w' => ((k - n < 0 ∧ e = .returned (.int .i64 (-1))) ∨ (0 ≤ k - n ∧ e = .returned (.int .i64 (k - n)))) ∧ w' = w := by
  rcases Int.lt_or_le (k - n) 0 with hn | hn
  · go_enter Tryd.func52, Tryd.ntmps52
    go_wp2
    go_ret
    exact ⟨Or.inl ⟨hn, rfl⟩, rfl⟩
  · go_enter Tryd.func52, Tryd.ntmps52
    go_wp2
    go_ret
    exact ⟨Or.inr ⟨hn, rfl⟩, rfl⟩

set_option maxRecDepth 1000000 in
set_option maxHeartbeats 1000000 in
theorem szSnap_any (ix tm : Int) (ao : Option Addr) (n cap : Nat) (bd : ByteArray) (k : Int) (h0 : 0 ≤ k) (h1 : k ≤ 1048576) (hl : n ≤ 9223372036854775807) (hb : bd.size ≤ maxLen) (w : World) :
    Calls Tryd.prog 23 #[snapV ix tm (.slice ao n cap) bd, .int .i64 k] w fun e w' => ((k - n - bd.size < 0 ∧ e = .returned (.int .i64 (-1))) ∨ (0 ≤ k - n - bd.size ∧ e = .returned (.int .i64 (k - n - bd.size)))) ∧ Below w.heap.size w w' := by
  have C := hid (fun w => szIntS_any ao n cap k h0 h1 hl w)
  have HB := hid (below_more (Below.refl w.heap.size w) (.cells #[.int .i64 ix, .int .i64 tm, .slice ao n cap, .string bd] 46))
  have hb' : bd.size ≤ 9223372036854775807 := by unfold maxLen at hb; omega
  clear hb
  go_enter Tryd.func23, Tryd.ntmps23
  go_wp2_with fail
  refine (C.out _).mono ?_
  rintro e w1 ⟨(⟨hneg, rfl⟩ | ⟨hnn, rfl⟩), hw⟩
  · rw [hw]
    clear hw w1 C
    go_wp2
    go_ret
    exact ⟨Or.inl ⟨by omega, rfl⟩, HB.out⟩
  · rw [hw]
    clear hw w1 C
    obtain ⟨q, hq⟩ : ∃ q, k - n = q := ⟨_, rfl⟩
    have hq2 : q ≤ 1048576 := by omega
    have HQ := hid hq
    rw [hq] at hnn ⊢
    clear hq
    rcases Int.lt_or_le (q - bd.size) 0 with hn | hn
    · go_wp2
      go_ret
      exact ⟨Or.inl ⟨by have := HQ.out; omega, rfl⟩, HB.out⟩
    · go_wp2
      go_ret
      exact ⟨Or.inr ⟨by have := HQ.out; omega, by rw [HQ.out]; rfl⟩, HB.out⟩

theorem three_snap (w : World) (o p q : Obj) : Below w.heap.size w (((w.alloc o).alloc p).alloc q) ∧ (((w.alloc o).alloc p).alloc q).heap.size = w.heap.size + 3 ∧ (((w.alloc o).alloc p).alloc q).heap[w.heap.size]? = some o ∧ (((w.alloc o).alloc p).alloc q).heap[w.heap.size + 1]? = some p ∧ (((w.alloc o).alloc p).alloc q).heap[w.heap.size + 1 + 1]? = some q := by
  refine ⟨below_more (below_more (below_more (Below.refl _ w) _) _) _, by simp [World.alloc, -World.alloc_eq], ?_, ?_, ?_⟩
  · show (((w.heap.push o).push p).push q)[w.heap.size]? = some o
    rw [Array.getElem?_push, if_neg (by simp; omega), Array.getElem?_push, if_neg (by simp), Array.getElem?_push, if_pos rfl]
  · show (((w.heap.push o).push p).push q)[w.heap.size + 1]? = some p
    rw [Array.getElem?_push, if_neg (by simp), Array.getElem?_push, if_pos (by simp)]
  · show (((w.heap.push o).push p).push q)[w.heap.size + 1 + 1]? = some q
    rw [Array.getElem?_push, if_pos (by simp)]
set_option maxRecDepth 1000000 in
set_option maxHeartbeats 1000000 in
theorem toSnap_any (ix tm : Int) (ao : Option Addr) (zs : List Int) (cap : Nat) (bd : ByteArray) (hl : zs.length ≤ 1048576) (w : World) (ha : IntsAt w ao zs) :
    Calls Tryd.prog 25 #[snapV ix tm (.slice ao zs.length cap) bd] w fun e w' => ∃ g, w.heap.size ≤ g ∧ e = .returned (snapV ix tm (.slice (some ⟨g, 0, none⟩) zs.length zs.length) bd) ∧ BlockIs w' g 3 (intCells zs) ∧ Below w.heap.size w w' := by
  have C := hid (fun w ha => toIntS_any ao zs cap hl w ha)
  have HA := hid ha
  clear ha
  have H3 := hid (three_snap w (.cells #[.int .i64 ix, .int .i64 tm, .slice ao zs.length cap, .string bd] 46) (.cells #[.int .i64 0, .int .i64 0, .slice none 0 0, .string ByteArray.empty] 24) (.cells #[.int .i64 ix, .int .i64 tm, .slice none 0 0, .string ByteArray.empty] 24))
  go_enter Tryd.func25, Tryd.ntmps25
  go_wp2_with fail
  refine (C.out _ (HA.out.on H3.out.1)).mono ?_
  rintro e w1 ⟨rfl, hbl, b1⟩
  obtain ⟨hb0, hs0, hx0, hx1, hx2⟩ := H3.out
  rw [hs0] at b1 hbl ⊢
  have k0 : BlockIs w1 w.heap.size 46 [.int .i64 ix, .int .i64 tm, .slice ao zs.length cap, .string bd] := BlockIs.on (show BlockIs _ _ _ _ from hx0) b1 (by omega)
  have k1 : BlockIs w1 (w.heap.size + 1) 24 [.int .i64 0, .int .i64 0, .slice none 0 0, .string ByteArray.empty] := BlockIs.on (show BlockIs _ _ _ _ from hx1) b1 (by omega)
  have k2 : BlockIs w1 (w.heap.size + 1 + 1) 24 [.int .i64 ix, .int .i64 tm, .slice none 0 0, .string ByteArray.empty] := BlockIs.on (show BlockIs _ _ _ _ from hx2) b1 (by omega)
  have c03 := k0.cell (j := 3) rfl
  have c10 := k1.cell (j := 0) rfl
  have c11 := k1.cell (j := 1) rfl
  have c12 := k1.cell (j := 2) rfl
  have c13 := k1.cell (j := 3) rfl
  have c20 := k2.cell (j := 0) rfl
  have c21 := k2.cell (j := 1) rfl
  have c22 := k2.cell (j := 2) rfl
  have c23 := k2.cell (j := 3) rfl
  have f10 := k1.thaw 0
  have f11 := k1.thaw 1
  have f12 := k1.thaw 2
  have f13 := k1.thaw 3
  have f22 := k2.thaw 2
  have f23 := k2.thaw 3
  have B1 := hid (hb0.trans (b1.mono (by omega)))
  have HB := hid hbl
  obtain ⟨g, hg⟩ : ∃ g, w.heap.size + 3 = g := ⟨_, rfl⟩
  rw [hg] at HB ⊢
  have HG := hid hg
  clear hbl b1 C H3 hb0 hs0 hx0 hx1 hx2 k0 k1 k2 hg
  go_wp2
  refine bodyPost_ret (v := .agg #[.int .i64 ix, .int .i64 tm, .slice (some ⟨g, 0, none⟩) zs.length zs.length, .string bd]) (by simp [results, Tryd.results25, go_sem, c10, c11, c12, c13]) rfl ⟨g, by have := HG.out; omega, rfl, ?_, ?_⟩
  · exact ((((((HB.out.far (by have := HG.out; omega) _).far (by have := HG.out; omega) _).far (by have := HG.out; omega) _).far (by have := HG.out; omega) _).far (by have := HG.out; omega) _).far (by have := HG.out; omega) _)
  · exact ((((((B1.out.setCell (by show _ ≤ _ + 1 + 1; omega) _).setCell (by show _ ≤ _ + 1 + 1; omega) _).setCell (by show _ ≤ _ + 1; omega) _).setCell (by show _ ≤ _ + 1; omega) _).setCell (by show _ ≤ _ + 1; omega) _).setCell (by show _ ≤ _ + 1; omega) _)
end Go.Proofs.YtggogiepebnckaaDoor
