/-
  The walks of laws.szBits, szBitsS: bits are counted.
-/
import Derived.Test.YtpknpodmoeaggabBitsOwn
import Derived.Test.YtpknpodmoeaggabTextSz
namespace Go.Proofs.Ytpknpodmoeaggab
open Go.RowKit

def bitOne (e : BitD) : Int := (e.texts.length : Int) + tBulk e.texts + (e.ats.length : Int)
theorem bitOne_nonneg (e : BitD) : 0 ≤ bitOne e := by have := tBulk_nonneg e.texts; unfold bitOne; omega
def bitBulk : List BitD → Int
  | [] => 0
  | e :: l => bitOne e + bitBulk l
theorem bitBulk_nonneg (l : List BitD) : 0 ≤ bitBulk l := by
  induction l with
  | nil => exact Int.le_refl 0
  | cons f l ih => have := bitOne_nonneg f; simp only [bitBulk]; omega
theorem bitBulk_take (l : List BitD) (k : Nat) (h : k < l.length) : bitBulk (l.take (k + 1)) = bitBulk (l.take k) + bitOne l[k] := by
  induction l generalizing k with
  | nil => simp at h
  | cons f l ih =>
    cases k with
    | zero => simp [bitBulk]
    | succ k =>
      have := ih k (by simpa using h)
      simp only [List.take_succ_cons, bitBulk, List.getElem_cons_succ] at this ⊢
      omega
theorem bitBulk_le (l : List BitD) (k : Nat) : bitBulk (l.take k) ≤ bitBulk l := by
  induction l generalizing k with
  | nil => simp [bitBulk]
  | cons f l ih =>
    cases k with
    | zero => have := bitBulk_nonneg (f :: l); simpa [bitBulk] using this
    | succ k => have := ih k; simp only [List.take_succ_cons, bitBulk]; omega
theorem bit_le_bulk {l : List BitD} {f : BitD} (h : f ∈ l) : bitOne f ≤ bitBulk l := by
  induction l with
  | nil => cases h
  | cons g l ih =>
    simp only [bitBulk]
    have := bitBulk_nonneg l
    have := bitOne_nonneg g
    rcases List.mem_cons.1 h with e | e
    · subst e; omega
    · have := ih e; omega
theorem bits_small {l : List BitD} (h : 0 ≤ (1048576 : Int) - l.length - bitBulk l) : l.length ≤ 1048576 ∧ (∀ e ∈ l, SmallB e) ∧ bitBulk l ≤ 1048576 - l.length := by
  have := bitBulk_nonneg l
  refine ⟨by omega, fun e he => ?_, by omega⟩
  have h1 := bit_le_bulk he
  have h2 := tBulk_nonneg e.texts
  unfold bitOne at h1
  exact ⟨by omega, by omega, fun t ht => by have := text_le_bulk ht; omega⟩
def BitFits (e : BitD) : Prop := e.texts.length ≤ maxLen ∧ TextsFit e.texts ∧ e.ats.length ≤ maxLen
set_option maxRecDepth 1000000 in
set_option maxHeartbeats 1000000 in
theorem szBits_any (e : BitD) (r : BitsD) (n : Int) (h0 : 0 ≤ n) (h1 : n ≤ 1048576) (hf : BitFits e) (w : World) (h : HoldsB w e r) :
    Calls Try.prog 33 #[.agg #[.int .i64 r.src, .int .i64 r.ident, .slice r.tx.ad r.tx.len r.tx.cap, .slice r.ax.ad r.ax.len r.ax.cap, .int .i64 r.total, .int .i64 r.lim], .int .i64 n] w fun e' w' => ((n - bitOne e < 0 ∧ e' = .returned (.int .i64 (-1))) ∨ (0 ≤ n - bitOne e ∧ e' = .returned (.int .i64 (n - bitOne e)))) ∧ Below w.heap.size w w' := by
  obtain ⟨f1, f2, f3⟩ := hf
  unfold maxLen at f1 f3
  obtain ⟨ta, tc, aa, ac, rfl, h1t, _⟩ := h
  have HB := hid (below_more (Below.refl w.heap.size w) (.cells #[.int .i64 e.src, .int .i64 e.ident, .slice ta e.texts.length tc, .slice aa e.ats.length ac, .int .i64 e.total, .int .i64 e.lim] 58))
  have hx : BlockIs (w.alloc (.cells #[.int .i64 e.src, .int .i64 e.ident, .slice ta e.texts.length tc, .slice aa e.ats.length ac, .int .i64 e.total, .int .i64 e.lim] 58)) w.heap.size 58 [.int .i64 e.src, .int .i64 e.ident, .slice ta e.texts.length tc, .slice aa e.ats.length ac, .int .i64 e.total, .int .i64 e.lim] := heap_alloc_new w _
  have ht := h1t.on HB.out
  obtain ⟨W, hW⟩ : ∃ W, w.alloc (.cells #[.int .i64 e.src, .int .i64 e.ident, .slice ta e.texts.length tc, .slice aa e.ats.length ac, .int .i64 e.total, .int .i64 e.lim] 58) = W := ⟨_, rfl⟩
  rw [hW] at HB hx ht
  have c2 := hx.cell (j := 2) rfl
  have c3 := hx.cell (j := 3) rfl
  have HO : Hid (bitOne e = (e.texts.length : Int) + tBulk e.texts + (e.ats.length : Int)) := rfl
  have CS := hid (szStringS_any ta e.texts tc n h0 h1 f1 f2 W ht)
  have hbn := tBulk_nonneg e.texts
  simp only [rawB]
  clear hx ht f2 h1t
  go_enter Try.func33, Try.ntmps33
  go_wp2_with fail
  refine Calls.mono CS.out ?_
  rintro e2 w2 ⟨hor, hw⟩
  rw [hw]
  clear hw w2 CS
  rcases hor with ⟨hneg, rfl⟩ | ⟨hnn, rfl⟩
  · go_wp2
    go_ret
    exact ⟨Or.inl ⟨by have := HO.out; omega, rfl⟩, HB.out⟩
  · obtain ⟨y, hy⟩ : ∃ y, n - (e.texts.length : Int) - tBulk e.texts = y := ⟨_, rfl⟩
    have HY := hid hy
    rw [hy] at hnn ⊢
    have hy2 : y ≤ 1048576 := by omega
    have CI := hid (szIntS_any aa e.ats.length ac y hnn hy2 f3 W)
    have hnn' : ¬ y < 0 := by omega
    clear hy
    go_wp2_with fail
    refine Calls.mono CI.out ?_
    rintro e2 w2 ⟨hor, hw⟩
    rw [hw]
    clear hw w2 CI
    rcases hor with ⟨hneg, rfl⟩ | ⟨hnn2, rfl⟩
    · go_wp2
      go_ret
      exact ⟨Or.inl ⟨by have := HO.out; have := HY.out; omega, rfl⟩, HB.out⟩
    · have hz : ¬ y - (e.ats.length : Int) < 0 := by omega
      have HE : Hid (n - bitOne e = y - (e.ats.length : Int)) := (show _ = _ by have := HO.out; have := HY.out; omega)
      go_wp2
      go_ret
      exact ⟨Or.inr ⟨by rw [HE.out]; exact hnn2, by rw [HE.out]; rfl⟩, HB.out⟩
set_option maxRecDepth 1000000 in
set_option maxHeartbeats 1000000 in
theorem szBitsS_any (ao : Option Addr) (l : List BitD) (cap : Nat) (n : Int) (h0 : 0 ≤ n) (h1 : n ≤ 1048576) (hl : l.length ≤ 9223372036854775807) (hf : ∀ e ∈ l, BitFits e) (w : World) (ha : BitsHold w ao l) :
    Calls Try.prog 17 #[.slice ao l.length cap, .int .i64 n] w fun e w' => ((n - l.length - bitBulk l < 0 ∧ e = .returned (.int .i64 (-1))) ∨ (0 ≤ n - l.length - bitBulk l ∧ e = .returned (.int .i64 (n - l.length - bitBulk l)))) ∧ Below w.heap.size w w' := by
  have HA := hid ha
  have HF := hid hf
  have HN := bitBulk_nonneg l
  clear ha hf
  by_cases hn : n - (l.length : Int) < 0
  · go_enter Try.func17, Try.ntmps17
    go_wp2
    go_ret
    exact ⟨Or.inl ⟨by omega, rfl⟩, Below.refl _ _⟩
  · go_enter Try.func17, Try.ntmps17
    go_wp2
    go_loopg [1, 5] l.length (fun g y i wr => ∃ (k : Nat), k + g = l.length ∧ i = .int .i64 k ∧ y = .int .i64 (n - l.length - bitBulk (l.take k)) ∧ 0 ≤ n - l.length - bitBulk (l.take k) ∧ Hid (Below w.heap.size w wr))
    case atStart => exact ⟨0, by omega, rfl, by simp [bitBulk], by simp [bitBulk]; omega, (show Below _ _ _ from Below.refl _ _)⟩
    case round =>
      obtain ⟨k, hkg, rfl, rfl, hpos, BR⟩ := hrel
      cases gk with
      | zero =>
        have hlt : ¬ (k : Int) < (l.length : Int) := by omega
        rw [List.take_of_length_le (by omega)] at hpos ⊢
        go_wp2
        go_ret
        exact ⟨Or.inr ⟨by omega, rfl⟩, BR.out⟩
      | succ g =>
        have hlt : k < l.length := by omega
        have hlt' : (k : Int) < (l.length : Int) := by omega
        obtain ⟨rs0, hat, htwo⟩ := HA.out.on BR.out
        have hll := htwo.length
        have hkr : k < rs0.length := by omega
        have hho := htwo.get k hlt hkr
        obtain ⟨b, off, rfl, hc⟩ := hat (by intro e; rw [e] at hkr; simp at hkr)
        obtain ⟨x0, x1, x2, x3, x4, x5⟩ := hc k hkr
        obtain ⟨R, hR⟩ : ∃ R, rs0[k] = R := ⟨_, rfl⟩
        rw [hR] at x0 x1 x2 x3 x4 x5 hho
        clear hat htwo hll hc hR
        have C := hid (szBits_any l[k] R (n - l.length - bitBulk (l.take k)) hpos (by have := bitBulk_nonneg (l.take k); omega) (HF.out _ (List.getElem_mem hlt)) wr hho)
        clear hho
        have hstep := bitBulk_take l k hlt
        have hmore := bitBulk_le l (k + 1)
        rw [show n - (l.length : Int) - bitBulk (l.take k) - bitOne l[k] = n - l.length - bitBulk (l.take (k + 1)) by omega] at C
        have HS : Hid (bitBulk (l.take (k + 1)) ≤ bitBulk l) := hmore
        have HS2 : Hid (bitBulk (l.take (k + 1)) = bitBulk (l.take k) + bitOne l[k]) := hstep
        clear hstep hmore
        go_wp2_with fail
        refine Calls.mono C.out ?_
        rintro e w1 ⟨(⟨hneg, rfl⟩ | ⟨hnn, rfl⟩), b1⟩
        · have B1 := hid (below_via BR.out b1)
          have hL : n - (l.length : Int) - bitBulk l < 0 := by have := HS.out; have := HS2.out; omega
          clear b1 C
          go_wp2
          go_ret
          exact ⟨Or.inl ⟨hL, rfl⟩, B1.out⟩
        · have B1 := hid (below_via BR.out b1)
          have hnn' : 0 ≤ n - (l.length : Int) - bitBulk (l.take (k + 1)) := by have := HS2.out; omega
          clear b1 C hnn
          go_wp2
          go_roundg g
          case measure => omega
          case rel => exact ⟨k + 1, by omega, by go_num, rfl, hnn', B1⟩
end Go.Proofs.Ytpknpodmoeaggab
