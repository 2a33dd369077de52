/-
  A list of bits that came in, read as data.
-/
import Derived.Test.YtpknpodmoeaggabBitsSz
import Derived.Test.YtpknpodmoeaggabRows
import Derived.Deep.Strs
import Derived.ChangeSame
import Derived.OpenShut
namespace Go.Proofs.Ytpknpodmoeaggab
open Go.RowKit Go.ChangeShapes Go.WideShapes Go.Deep

set_option maxRecDepth 1000000 in
theorem ob_cells6 : Try.prog.cellsOf 58 = 6 := by kernel_rfl
set_option maxRecDepth 1000000 in
theorem ob_cells9 : Try.prog.cellsOf 9 = 1 := by kernel_rfl
set_option maxRecDepth 1000000 in
theorem ob_cells3 : Try.prog.cellsOf 3 = 1 := by kernel_rfl
set_option maxRecDepth 1000000 in
theorem ob_cellsS : Try.prog.cellsOf 55 = 1 := by kernel_rfl
set_option maxRecDepth 1000000 in
theorem ob_cellsI : Try.prog.cellsOf 56 = 1 := by kernel_rfl
set_option maxRecDepth 1000000 in
theorem open_textRow {H : Type} {enc : TypeId × Value → H} {W : World} {base : Nat} {sp : Nat → Bool} {held : Bool} {fuel : Nat} {cs : List Value} {x : DataW H × List MemPlace} (h : DataW.trod enc Try.prog W base sp held fuel 55 cs = some x) :
    ∃ ao zs cap, cs = [.slice ao zs.length cap] ∧ zs.length ≤ cap ∧ cap ≤ maxLen ∧ ValsAt W ao (st zs) ∧ ∀ z ∈ zs, z.size ≤ maxLen := by
  rcases open_slice Try.underlying55 h with ⟨rfl, _⟩ | ⟨a, len, cap, m, n, D, Pl, rfl, hb, hl, hm, hmm, _, hx⟩
  · exact ⟨none, [], 0, rfl, Nat.le_refl _, by unfold maxLen; omega, fun h => absurd rfl h, fun j hj => by simp at hj⟩
  · have hlm : len ≤ m := by rw [hmm]; split <;> omega
    have each : ∀ i, i < len → ∃ z : ByteArray, (W.cells? base (a.add (i * 1)) 1 = some [.string z]) ∧ z.size ≤ maxLen := fun i hi => by
      obtain ⟨cs', e1, e2⟩ := hx i (by omega)
      rw [ob_cells9] at e1
      obtain ⟨z, rfl, _, s⟩ := DataW.trod_string Try.underlying9 e2
      exact ⟨z, e1, s⟩
    obtain ⟨F, hF⟩ := choose_lt each
    have hll : ((List.range len).map F).length = len := by simp
    refine ⟨some a, (List.range len).map F, cap, by rw [hll], by rw [hll]; exact hl, hm, ?_, ?_⟩
    · intro hne
      have hp : 0 < len := by
        rcases Nat.eq_zero_or_pos len with e | e
        · subst e; exact absurd rfl hne
        · exact e
      obtain ⟨b, off, spot⟩ := a
      have hc : ∀ i, i < len → W.cell? ((Addr.add ⟨b, off, spot⟩ (i * 1)).add 0) = some (.string (F i)) := fun i hi => (World.cells?_some (hF i hi).1).2.2 0 (by omega)
      have hspot : spot = none := by
        have := hc 0 hp
        simpa [Addr.add] using World.cell?_spot this
      subst hspot
      refine ⟨b, off, rfl, fun j hj => ?_⟩
      have hj2 : j < len := by simpa [st] using hj
      have h0 := hc j hj2
      rw [add_plain, add_plain, Nat.mul_one, Nat.add_zero] at h0
      rw [h0]
      simp [st]
    · intro z hz
      obtain ⟨i, hi, rfl⟩ := List.mem_map.1 hz
      exact (hF i (List.mem_range.1 hi)).2
set_option maxRecDepth 1000000 in
theorem open_intRow {H : Type} {enc : TypeId × Value → H} {W : World} {base : Nat} {sp : Nat → Bool} {held : Bool} {fuel : Nat} {cs : List Value} {x : DataW H × List MemPlace} (h : DataW.trod enc Try.prog W base sp held fuel 56 cs = some x) :
    ∃ ao zs cap, cs = [.slice ao zs.length cap] ∧ zs.length ≤ cap ∧ cap ≤ maxLen ∧ ValsAt W ao (intCells zs) ∧ ∀ z ∈ zs, (-9223372036854775808 ≤ z ∧ z ≤ 9223372036854775807) := by
  rcases open_slice Try.underlying56 h with ⟨rfl, _⟩ | ⟨a, len, cap, m, n, D, Pl, rfl, hb, hl, hm, hmm, _, hx⟩
  · exact ⟨none, [], 0, rfl, Nat.le_refl _, by unfold maxLen; omega, fun h => absurd rfl h, fun j hj => by simp at hj⟩
  · have hlm : len ≤ m := by rw [hmm]; split <;> omega
    have each : ∀ i, i < len → ∃ z : Int, (W.cells? base (a.add (i * 1)) 1 = some [.int .i64 z]) ∧ (-9223372036854775808 ≤ z ∧ z ≤ 9223372036854775807) := fun i hi => by
      obtain ⟨cs', e1, e2⟩ := hx i (by omega)
      rw [ob_cells3] at e1
      obtain ⟨z, rfl, _, s⟩ := DataW.trod_int Try.underlying3 e2
      exact ⟨z, e1, bounds_i64 s⟩
    obtain ⟨F, hF⟩ := choose_lt each
    have hll : ((List.range len).map F).length = len := by simp
    refine ⟨some a, (List.range len).map F, cap, by rw [hll], by rw [hll]; exact hl, hm, ?_, ?_⟩
    · intro hne
      have hp : 0 < len := by
        rcases Nat.eq_zero_or_pos len with e | e
        · subst e; exact absurd rfl hne
        · exact e
      obtain ⟨b, off, spot⟩ := a
      have hc : ∀ i, i < len → W.cell? ((Addr.add ⟨b, off, spot⟩ (i * 1)).add 0) = some (.int .i64 (F i)) := fun i hi => (World.cells?_some (hF i hi).1).2.2 0 (by omega)
      have hspot : spot = none := by
        have := hc 0 hp
        simpa [Addr.add] using World.cell?_spot this
      subst hspot
      refine ⟨b, off, rfl, fun j hj => ?_⟩
      have hj2 : j < len := by simpa [intCells] using hj
      have h0 := hc j hj2
      rw [add_plain, add_plain, Nat.mul_one, Nat.add_zero] at h0
      rw [h0]
      simp [intCells]
    · intro z hz
      obtain ⟨i, hi, rfl⟩ := List.mem_map.1 hz
      exact (hF i (List.mem_range.1 hi)).2
set_option maxRecDepth 1000000 in
theorem ob_fields {H : Type} {enc : TypeId × Value → H} {P : Program} {W : World} {base : Nat} {sp : Nat → Bool} {held : Bool} {fuel : Nat} {t : TypeId} {f0 f1 f2 f3 f4 f5 : Field} {cs : List Value} {x : DataW H × List MemPlace} (ht : P.underlying t = some (.struct #[f0, f1, f2, f3, f4, f5])) (h : DataW.trod enc P W base sp held fuel t cs = some x) :
    ∃ y0 y1 y2 y3 y4 y5 n, cs.length = P.cellsOf t ∧ DataW.trod enc P W base sp held n f0.type ((cs.drop f0.offset).take (P.cellsOf f0.type)) = some y0 ∧ DataW.trod enc P W base sp held n f1.type ((cs.drop f1.offset).take (P.cellsOf f1.type)) = some y1 ∧ DataW.trod enc P W base sp held n f2.type ((cs.drop f2.offset).take (P.cellsOf f2.type)) = some y2 ∧ DataW.trod enc P W base sp held n f3.type ((cs.drop f3.offset).take (P.cellsOf f3.type)) = some y3 ∧ DataW.trod enc P W base sp held n f4.type ((cs.drop f4.offset).take (P.cellsOf f4.type)) = some y4 ∧ DataW.trod enc P W base sp held n f5.type ((cs.drop f5.offset).take (P.cellsOf f5.type)) = some y5 := by
  obtain ⟨xs, n, _, _, hl, hlen, hf⟩ := DataW.trod_struct ht h
  match xs, hlen with
  | [y0, y1, y2, y3, y4, y5], _ => exact ⟨y0, y1, y2, y3, y4, y5, n, hl, by simpa using hf 0 f0 rfl, by simpa using hf 1 f1 rfl, by simpa using hf 2 f2 rfl, by simpa using hf 3 f3 rfl, by simpa using hf 4 f4 rfl, by simpa using hf 5 f5 rfl⟩
set_option maxRecDepth 1000000 in
theorem open_bitCells {H : Type} {enc : TypeId × Value → H} {W : World} {base : Nat} {sp : Nat → Bool} {held : Bool} {fuel : Nat} {cs : List Value} {x : DataW H × List MemPlace} (h : DataW.trod enc Try.prog W base sp held fuel 58 cs = some x) :
    ∃ e r, cs = bitsEnc r ∧ HoldsB W e r ∧ BitFits e := by
  obtain ⟨y0, y1, y2, y3, y4, y5, n, hl, h0, h1, h2, h3, h4, h5⟩ := ob_fields Try.underlying58 h
  rw [ob_cells6] at hl
  match cs, hl with
  | [c0, c1, c2, c3, c4, c5], _ =>
    simp only [ob_cells3, ob_cellsS, ob_cellsI] at h0 h1 h2 h3 h4 h5
    obtain ⟨k0, e0, _, s0⟩ := DataW.trod_int Try.underlying3 h0
    obtain ⟨k1, e1, _, s1⟩ := DataW.trod_int Try.underlying3 h1
    obtain ⟨ta, ts, tc, e2, q2, q2m, v2, s2⟩ := open_textRow h2
    obtain ⟨aa, zs, ac, e3, q3, q3m, v3, s3⟩ := open_intRow h3
    obtain ⟨k4, e4, _, s4⟩ := DataW.trod_int Try.underlying3 h4
    obtain ⟨k5, e5, _, s5⟩ := DataW.trod_int Try.underlying3 h5
    simp at e0 e1 e2 e3 e4 e5
    subst e0 e1 e2 e3 e4 e5
    exact ⟨⟨k0, k1, ts, zs, k4, k5⟩, rawB ⟨k0, k1, ts, zs, k4, k5⟩ ta tc aa ac, rfl, ⟨ta, tc, aa, ac, rfl, v2, v3⟩, Nat.le_trans q2 q2m, s2, Nat.le_trans q3 q3m⟩
theorem two_of {α β : Type} {R : α → β → Prop} : ∀ (n : Nat) (F : Nat → α) (G : Nat → β), (∀ i, i < n → R (F i) (G i)) → Two R ((List.range n).map F) ((List.range n).map G)
  | 0, _, _, _ => trivial
  | n + 1, F, G, h => by
    rw [List.range_succ, List.map_append, List.map_append]
    exact Two.snoc (h n (by omega)) (two_of n F G fun i hi => h i (by omega))
set_option maxRecDepth 1000000 in
/-- a list of bits as a parameter -/
theorem open_bitsS {H : Type} {enc : TypeId × Value → H} {W : World} {r : Reach} {b0 base : Nat} {sp : Nat → Bool} {held : Bool} {v : Value} {d : DataW H} {ps : List MemPlace} (hval : Value.okWide Try.prog W r b0 37 v) (hd : DataW.Trod enc Try.prog W base sp held 37 v d ps) :
    ∃ ao l cap, v = .slice ao l.length cap ∧ l.length ≤ cap ∧ cap ≤ maxLen ∧ BitsHold W ao l ∧ ∀ e ∈ l, BitFits e := by
  obtain ⟨a, l, c, rfl⟩ := okWide_slice Try.underlying37 hval
  obtain ⟨fuel, hf⟩ := hd
  rcases open_slice Try.underlying37 hf with ⟨hcs, _⟩ | ⟨a', len, cap, m, n, D, Pl, hcs, hb, hl, hm, hmm, _, hx⟩
  · simp [Value.cells] at hcs
    obtain ⟨rfl, rfl, rfl⟩ := hcs
    exact ⟨none, [], 0, rfl, Nat.le_refl _, by unfold maxLen; omega, ⟨[], fun h => absurd rfl h, trivial⟩, fun e he => by simp at he⟩
  · simp [Value.cells] at hcs
    obtain ⟨rfl, rfl, rfl⟩ := hcs
    have hlm : l ≤ m := by rw [hmm]; split <;> omega
    have each : ∀ i, i < l → ∃ p : BitD × BitsD, (W.cells? base (a'.add (i * 6)) 6 = some (bitsEnc p.2)) ∧ HoldsB W p.1 p.2 ∧ BitFits p.1 := fun i hi => by
      obtain ⟨cs', e1, e2⟩ := hx i (by omega)
      rw [ob_cells6] at e1
      obtain ⟨e, r, rfl, h1, h2⟩ := open_bitCells e2
      exact ⟨⟨e, r⟩, e1, h1, h2⟩
    have hin : Inhabited (BitD × BitsD) := ⟨⟨⟨0, 0, [], [], 0, 0⟩, ⟨0, 0, ⟨none, 0, 0⟩, ⟨none, 0, 0⟩, 0, 0⟩⟩⟩
    obtain ⟨F, hF⟩ := choose_lt each
    have hll : ((List.range l).map fun i => (F i).1).length = l := by simp
    refine ⟨some a', (List.range l).map fun i => (F i).1, c, by rw [hll], by rw [hll]; exact hl, hm, ⟨(List.range l).map fun i => (F i).2, ?_, two_of l _ _ fun i hi => (hF i hi).2.1⟩, ?_⟩
    · intro hne
      have hp : 0 < l := by
        rcases Nat.eq_zero_or_pos l with e | e
        · subst e; exact absurd rfl hne
        · exact e
      obtain ⟨b, off, spot⟩ := a'
      have hc : ∀ i c, i < l → c < 6 → W.cell? ((Addr.add ⟨b, off, spot⟩ (i * 6)).add c) = (bitsEnc (F i).2)[c]? := fun i c hi hc => (World.cells?_some (hF i hi).1).2.2 c hc
      have hspot : spot = none := by
        have := hc 0 0 hp (by omega)
        simpa [Addr.add] using World.cell?_spot this
      subst hspot
      refine ⟨b, off, rfl, fun j hj => ?_⟩
      simp only [List.getElem_map, List.getElem_range]
      have hj' : j < l := by simpa using hj
      have h0 := hc j 0 hj' (by omega)
      have h1 := hc j 1 hj' (by omega)
      have h2 := hc j 2 hj' (by omega)
      have h3 := hc j 3 hj' (by omega)
      have h4 := hc j 4 hj' (by omega)
      have h5 := hc j 5 hj' (by omega)
      rw [add_plain, add_plain] at h0 h1 h2 h3 h4 h5
      exact ⟨h0, h1, h2, h3, h4, h5⟩
    · intro e he
      obtain ⟨i, hi, rfl⟩ := List.mem_map.1 he
      exact (hF i (List.mem_range.1 hi)).2.2
end Go.Proofs.Ytpknpodmoeaggab
