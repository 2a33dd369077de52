/-
  Entries as data, in memory, one behind the other; the walks of laws.szEntryS, szLog: a log's letters are counted.
-/
import Derived.Test.YtfbhckggkgbfdaaJoint21
import Derived.BigQuiet
import Derived.Deep.LoopGhost
import Derived.WalkSmall
import Derived.WalkKit
namespace Go.Proofs.Ytfbhckggkgbfdaa
open Go.RowKit

/-- the cells of entries -/
def entCells (l : List EntD) : List Value := l.flatMap entEnc
theorem entCells_length (l : List EntD) : (entCells l).length = l.length * 3 := row_length entEnc 3 (fun _ => rfl) l
theorem entCells_take (l : List EntD) (k : Nat) (h : k < l.length) : entCells (l.take (k + 1)) = entCells (l.take k) ++ entEnc l[k] := by
  rw [List.take_succ_eq_append_getElem h, entCells, entCells, List.flatMap_append]
  simp
/-- how many letters -/
def entBulk : List EntD → Int
  | [] => 0
  | f :: l => f.data.size + entBulk l
theorem entBulk_nonneg (l : List EntD) : 0 ≤ entBulk l := by
  induction l with
  | nil => exact Int.le_refl 0
  | cons f l ih => simp only [entBulk]; omega
theorem entBulk_take (l : List EntD) (k : Nat) (h : k < l.length) : entBulk (l.take (k + 1)) = entBulk (l.take k) + l[k].data.size := by
  induction l generalizing k with
  | nil => simp at h
  | cons f l ih =>
    cases k with
    | zero => simp [entBulk]
    | succ k =>
      have := ih k (by simpa using h)
      simp only [List.take_succ_cons, entBulk, List.getElem_cons_succ] at this ⊢
      omega
theorem entBulk_le (l : List EntD) (k : Nat) : entBulk (l.take k) ≤ entBulk l := by
  induction l generalizing k with
  | nil => simp [entBulk]
  | cons f l ih =>
    cases k with
    | zero => have := entBulk_nonneg (f :: l); simpa [entBulk] using this
    | succ k => have := ih k; simp only [List.take_succ_cons, entBulk]; omega
theorem ent_le_bulk {l : List EntD} {f : EntD} (h : f ∈ l) : (f.data.size : Int) ≤ entBulk l := by
  induction l with
  | nil => cases h
  | cons g l ih =>
    simp only [entBulk]
    have := entBulk_nonneg l
    rcases List.mem_cons.1 h with e | e
    · subst e; omega
    · have := ih e; omega
/-- entries that are few and short -/
def EntsSmall (l : List EntD) : Prop := l.length ≤ 1048576 ∧ ∀ f ∈ l, f.data.size ≤ 1048576
theorem entsSmall {l : List EntD} (h : 0 ≤ (1048576 : Int) - l.length - entBulk l) : EntsSmall l := by
  have := entBulk_nonneg l
  exact ⟨by omega, fun f hf => by have := ent_le_bulk hf; omega⟩

/-- entries lie at an address, one behind the other -/
def EntsAt (w : World) (ao : Option Addr) (l : List EntD) : Prop :=
  l ≠ [] → ∃ b off, ao = some ⟨b, off, none⟩ ∧ ∀ j (hj : j < l.length), w.cell? ⟨b, off + j * 3, none⟩ = some (.int .i64 l[j].term) ∧ w.cell? ⟨b, off + j * 3 + 1, none⟩ = some (.int .i64 l[j].kind) ∧ w.cell? ⟨b, off + j * 3 + 2, none⟩ = some (.string l[j].data)
theorem entsAt_of {w : World} {g : Nat} {t : TypeId} {l : List EntD} {r : List Value} (h : BlockIs w g t (entCells l ++ r)) : EntsAt w (some ⟨g, 0, none⟩) l := by
  intro _
  refine ⟨g, 0, rfl, fun j hj => ?_⟩
  rw [Nat.zero_add]
  exact ⟨h.cell (row_at entEnc 3 (fun _ => rfl) l r j 0 hj (by omega)), h.cell (row_at entEnc 3 (fun _ => rfl) l r j 1 hj (by omega)), h.cell (row_at entEnc 3 (fun _ => rfl) l r j 2 hj (by omega))⟩
def EntsFit (l : List EntD) : Prop := ∀ j (hj : j < l.length), l[j].Fits
theorem EntsAt.on {w w' : World} {ao : Option Addr} {l : List EntD} (h : EntsAt w ao l) (hb : Below w.heap.size w w') : EntsAt w' ao l := by
  intro h0
  obtain ⟨b, off, e1, e2⟩ := h h0
  refine ⟨b, off, e1, fun j hj => ?_⟩
  obtain ⟨x, y, z⟩ := e2 j hj
  exact ⟨(hb.cell (p := ⟨b, off + j * 3, none⟩) (World.block_lt_of_cell? w _ x)).trans x, (hb.cell (p := ⟨b, off + j * 3 + 1, none⟩) (World.block_lt_of_cell? w _ y)).trans y, (hb.cell (p := ⟨b, off + j * 3 + 2, none⟩) (World.block_lt_of_cell? w _ z)).trans z⟩

set_option maxRecDepth 1000000 in
set_option maxHeartbeats 1000000 in
theorem szEntryS_any (ao : Option Addr) (l : List EntD) (cap : Nat) (n : Int) (h0 : 0 ≤ n) (h1 : n ≤ 1048576) (hl : l.length ≤ 9223372036854775807) (hf : EntsFit l) (w : World) (ha : EntsAt w ao l) :
    Calls Try.prog 43 #[.slice ao l.length cap, .int .i64 n] w fun e w' => ((n - l.length - entBulk l < 0 ∧ e = .returned (.int .i64 (-1))) ∨ (0 ≤ n - l.length - entBulk l ∧ e = .returned (.int .i64 (n - l.length - entBulk l)))) ∧ Below w.heap.size w w' := by
  have HA := hid ha
  have HF := hid hf
  have HN := entBulk_nonneg l
  clear ha hf
  by_cases hn : n - (l.length : Int) < 0
  · go_enter Try.func43, Try.ntmps43
    go_wp2
    go_ret
    exact ⟨Or.inl ⟨by omega, rfl⟩, Below.refl _ _⟩
  · go_enter Try.func43, Try.ntmps43
    go_wp2
    go_loopg [1, 5] l.length (fun g y i wr => ∃ (k : Nat), k + g = l.length ∧ i = .int .i64 k ∧ y = .int .i64 (n - l.length - entBulk (l.take k)) ∧ 0 ≤ n - l.length - entBulk (l.take k) ∧ Hid (Below w.heap.size w wr))
    case atStart => exact ⟨0, by omega, rfl, by simp [entBulk], by simp [entBulk]; omega, (show Below _ _ _ from Below.refl _ _)⟩
    case round =>
      obtain ⟨k, hkg, rfl, rfl, hpos, BR⟩ := hrel
      cases gk with
      | zero =>
        have hlt : ¬ (k : Int) < (l.length : Int) := by omega
        rw [List.take_of_length_le (by omega)] at hpos ⊢
        go_wp2
        go_ret
        exact ⟨Or.inr ⟨by omega, rfl⟩, BR.out⟩
      | succ g =>
        have hlt : k < l.length := by omega
        have hlt' : (k : Int) < (l.length : Int) := by omega
        obtain ⟨b, off, rfl, hc⟩ := HA.out.on BR.out (by intro e; rw [e] at hlt; simp at hlt)
        obtain ⟨x0, x1, x2⟩ := hc k hlt
        clear hc
        have C := hid (szEntry_any l[k] (n - l.length - entBulk (l.take k)) hpos (by have := entBulk_nonneg (l.take k); omega) (HF.out k hlt))
        have hstep := entBulk_take l k hlt
        have hmore := entBulk_le l (k + 1)
        rw [show n - (l.length : Int) - entBulk (l.take k) - l[k].data.size = n - l.length - entBulk (l.take (k + 1)) by omega] at C
        have HS : Hid (entBulk (l.take (k + 1)) ≤ entBulk l) := hmore
        have HS2 : Hid (entBulk (l.take (k + 1)) = entBulk (l.take k) + l[k].data.size) := hstep
        clear hstep hmore
        go_wp2_with fail
        refine (C.out _).mono ?_
        rintro e w1 ⟨(⟨hneg, rfl⟩ | ⟨hnn, rfl⟩), b1⟩
        · have B1 := hid (below_via BR.out b1)
          have hL : n - (l.length : Int) - entBulk l < 0 := by have := HS.out; have := HS2.out; omega
          clear b1 C
          go_wp2
          go_ret
          exact ⟨Or.inl ⟨hL, rfl⟩, B1.out⟩
        · have B1 := hid (below_via BR.out b1)
          have hnn' : 0 ≤ n - (l.length : Int) - entBulk (l.take (k + 1)) := by have := HS2.out; omega
          clear b1 C hnn
          go_wp2
          go_roundg g
          case measure => omega
          case rel => exact ⟨k + 1, by omega, by go_num, rfl, hnn', B1⟩

/-- a log as data -/
structure LogD where
  start : Int
  sterm : Int
  ents : List EntD

theorem szLog_any (s t : Int) (ao : Option Addr) (l : List EntD) (cap : Nat) (n : Int) (h0 : 0 ≤ n) (h1 : n ≤ 1048576) (hl : l.length ≤ 9223372036854775807) (hf : EntsFit l) (w : World) (ha : EntsAt w ao l) :
    Calls Try.prog 18 #[.agg #[.int .i64 s, .int .i64 t, .slice ao l.length cap], .int .i64 n] w fun e w' => ((n - l.length - entBulk l < 0 ∧ e = .returned (.int .i64 (-1))) ∨ (0 ≤ n - l.length - entBulk l ∧ e = .returned (.int .i64 (n - l.length - entBulk l)))) ∧ Below w.heap.size w w' := by
  have C := hid (fun w ha => szEntryS_any ao l cap n h0 h1 hl hf w ha)
  have HA := hid ha
  have HB := hid (below_more (Below.refl w.heap.size w) (.cells #[.int .i64 s, .int .i64 t, .slice ao l.length cap] 42))
  clear ha hf
  go_enter Try.func18, Try.ntmps18
  go_wp2_with fail
  refine (C.out _ (HA.out.on HB.out)).mono ?_
  rintro e w1 ⟨(⟨hneg, rfl⟩ | ⟨hnn, rfl⟩), b1⟩
  · have B1 := hid (below_via HB.out b1)
    clear b1 C
    go_wp2
    go_ret
    exact ⟨Or.inl ⟨hneg, rfl⟩, B1.out⟩
  · have B1 := hid (below_via HB.out b1)
    clear b1 C
    go_wp2
    go_ret
    exact ⟨Or.inr ⟨hnn, rfl⟩, B1.out⟩
end Go.Proofs.Ytfbhckggkgbfdaa
