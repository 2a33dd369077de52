/-
  Files as data, in memory; the walks of laws.szFile, szFileS, szDisk: a disk's letters are counted.
-/
import Derived.Test.YthkfgiilbkjojabRows
import Derived.Test.YthkfgiilbkjojabJoint1
import Derived.BigQuiet
import Derived.Deep.LoopGhost
import Derived.WalkSmall
import Derived.WalkKit
namespace Go.Proofs.Ythkfgiilbkjojab
open Go.RowKit

/-- a file as data -/
structure FileD where
  name : ByteArray
  text : ByteArray
  kept : Int

def FileD.value (f : FileD) : Value := .agg #[.string f.name, .string f.text, .int .i64 f.kept]

/-- the cells of files -/
def fileEnc (f : FileD) : List Value := [.string f.name, .string f.text, .int .i64 f.kept]
def fileCells (l : List FileD) : List Value := l.flatMap fileEnc
theorem fileCells_length (l : List FileD) : (fileCells l).length = l.length * 3 := row_length fileEnc 3 (fun _ => rfl) l
theorem fileCells_take (l : List FileD) (k : Nat) (h : k < l.length) : fileCells (l.take (k + 1)) = fileCells (l.take k) ++ fileEnc l[k] := by
  rw [List.take_succ_eq_append_getElem h, fileCells, fileCells, List.flatMap_append]
  simp
/-- how many letters and files -/
def fileBulk : List FileD → Int
  | [] => 0
  | f :: l => f.name.size + f.text.size + fileBulk l
theorem fileBulk_nonneg (l : List FileD) : 0 ≤ fileBulk l := by
  induction l with
  | nil => exact Int.le_refl 0
  | cons f l ih => simp only [fileBulk]; omega
theorem fileBulk_take (l : List FileD) (k : Nat) (h : k < l.length) : fileBulk (l.take (k + 1)) = fileBulk (l.take k) + l[k].name.size + l[k].text.size := by
  induction l generalizing k with
  | nil => simp at h
  | cons f l ih =>
    cases k with
    | zero => simp [fileBulk]
    | succ k =>
      have := ih k (by simpa using h)
      simp only [List.take_succ_cons, fileBulk, List.getElem_cons_succ] at this ⊢
      omega

theorem fileBulk_le (l : List FileD) (k : Nat) : fileBulk (l.take k) ≤ fileBulk l := by
  induction l generalizing k with
  | nil => simp [fileBulk]
  | cons f l ih =>
    cases k with
    | zero => have := fileBulk_nonneg (f :: l); simpa [fileBulk] using this
    | succ k => have := ih k; simp only [List.take_succ_cons, fileBulk]; omega

theorem file_le_bulk {l : List FileD} {f : FileD} (h : f ∈ l) : (f.name.size : Int) + f.text.size ≤ fileBulk l := by
  induction l with
  | nil => cases h
  | cons g l ih =>
    simp only [fileBulk]
    have := fileBulk_nonneg l
    rcases List.mem_cons.1 h with e | e
    · subst e; omega
    · have := ih e; omega
theorem filesSmall {l : List FileD} (h : 0 ≤ (1048576 : Int) - l.length - fileBulk l) : l.length ≤ 1048576 ∧ ∀ f ∈ l, f.name.size ≤ 1048576 ∧ f.text.size ≤ 1048576 := by
  have := fileBulk_nonneg l
  exact ⟨by omega, fun f hf => by have := file_le_bulk hf; omega⟩

/-- files lie at an address, one behind the other -/
def FilesAt (w : World) (ao : Option Addr) (l : List FileD) : Prop :=
  l ≠ [] → ∃ b off, ao = some ⟨b, off, none⟩ ∧ ∀ j (hj : j < l.length), w.cell? ⟨b, off + j * 3, none⟩ = some (.string l[j].name) ∧ w.cell? ⟨b, off + j * 3 + 1, none⟩ = some (.string l[j].text) ∧ w.cell? ⟨b, off + j * 3 + 2, none⟩ = some (.int .i64 l[j].kept)
theorem filesAt_of {w : World} {g : Nat} {t : TypeId} {l : List FileD} {r : List Value} (h : BlockIs w g t (fileCells l ++ r)) : FilesAt w (some ⟨g, 0, none⟩) l := by
  intro _
  refine ⟨g, 0, rfl, fun j hj => ?_⟩
  rw [Nat.zero_add]
  exact ⟨h.cell (row_at fileEnc 3 (fun _ => rfl) l r j 0 hj (by omega)), h.cell (row_at fileEnc 3 (fun _ => rfl) l r j 1 hj (by omega)), h.cell (row_at fileEnc 3 (fun _ => rfl) l r j 2 hj (by omega))⟩
/-- texts that fit -/
def FilesFit (l : List FileD) : Prop := ∀ j (hj : j < l.length), l[j].name.size ≤ 9223372036854775807 ∧ l[j].text.size ≤ 9223372036854775807

set_option maxRecDepth 1000000 in
theorem szFile_any (f : FileD) (n : Int) (h0 : 0 ≤ n) (h1 : n ≤ 1048576) (hs : f.name.size ≤ 9223372036854775807) (ht : f.text.size ≤ 9223372036854775807) (w : World) :
    Calls Try.prog 37 #[f.value, .int .i64 n] w fun e w' => ((n - f.name.size - f.text.size < 0 ∧ e = .returned (.int .i64 (-1))) ∨ (0 ≤ n - f.name.size - f.text.size ∧ e = .returned (.int .i64 (n - f.name.size - f.text.size)))) ∧ Below w.heap.size w w' := by
  unfold FileD.value
  go_enter Try.func37, Try.ntmps37
  go_wp2
  · go_ret
    exact ⟨Or.inl ⟨by omega, rfl⟩, (Below.refl _ _).alloc (Nat.le_refl _) _⟩
  · go_ret
    exact ⟨Or.inl ⟨by omega, rfl⟩, (Below.refl _ _).alloc (Nat.le_refl _) _⟩
  · go_ret
    exact ⟨Or.inr ⟨by omega, rfl⟩, (Below.refl _ _).alloc (Nat.le_refl _) _⟩

theorem FilesAt.on {w w' : World} {ao : Option Addr} {l : List FileD} (h : FilesAt w ao l) (hb : Below w.heap.size w w') : FilesAt w' ao l := by
  intro h0
  obtain ⟨b, off, e1, e2⟩ := h h0
  refine ⟨b, off, e1, fun j hj => ?_⟩
  obtain ⟨x, y, z⟩ := e2 j hj
  exact ⟨(hb.cell (p := ⟨b, off + j * 3, none⟩) (World.block_lt_of_cell? w _ x)).trans x, (hb.cell (p := ⟨b, off + j * 3 + 1, none⟩) (World.block_lt_of_cell? w _ y)).trans y, (hb.cell (p := ⟨b, off + j * 3 + 2, none⟩) (World.block_lt_of_cell? w _ z)).trans z⟩

set_option maxRecDepth 1000000 in
set_option maxHeartbeats 1000000 in
theorem szFileS_any (ao : Option Addr) (l : List FileD) (cap : Nat) (n : Int) (h0 : 0 ≤ n) (h1 : n ≤ 1048576) (hl : l.length ≤ 9223372036854775807) (hf : FilesFit l) (w : World) (ha : FilesAt w ao l) :
    Calls Try.prog 21 #[.slice ao l.length cap, .int .i64 n] w fun e w' => ((n - l.length - fileBulk l < 0 ∧ e = .returned (.int .i64 (-1))) ∨ (0 ≤ n - l.length - fileBulk l ∧ e = .returned (.int .i64 (n - l.length - fileBulk l)))) ∧ Below w.heap.size w w' := by
  have HA := (show Hid (FilesAt w ao l) from ha)
  have HF := (show Hid (FilesFit l) from hf)
  have HN := fileBulk_nonneg l
  clear ha hf
  by_cases hn : n - (l.length : Int) < 0
  · go_enter Try.func21, Try.ntmps21
    go_wp2
    go_ret
    exact ⟨Or.inl ⟨by omega, rfl⟩, Below.refl _ _⟩
  · go_enter Try.func21, Try.ntmps21
    go_wp2
    go_loopg [1, 5] l.length (fun g y i wr => ∃ (k : Nat), k + g = l.length ∧ i = .int .i64 k ∧ y = .int .i64 (n - l.length - fileBulk (l.take k)) ∧ 0 ≤ n - l.length - fileBulk (l.take k) ∧ Hid (Below w.heap.size w wr))
    case atStart => exact ⟨0, by omega, rfl, by simp [fileBulk], by simp [fileBulk]; omega, (show Below _ _ _ from Below.refl _ _)⟩
    case round =>
      obtain ⟨k, hkg, rfl, rfl, hpos, BR⟩ := hrel
      cases gk with
      | zero =>
        have hlt : ¬ (k : Int) < (l.length : Int) := by omega
        rw [List.take_of_length_le (by omega)] at hpos ⊢
        go_wp2
        go_ret
        exact ⟨Or.inr ⟨by omega, rfl⟩, BR.out⟩
      | succ g =>
        have hlt : k < l.length := by omega
        have hlt' : (k : Int) < (l.length : Int) := by omega
        obtain ⟨b, off, rfl, hc⟩ := HA.out.on BR.out (by intro e; rw [e] at hlt; simp at hlt)
        obtain ⟨x0, x1, x2⟩ := hc k hlt
        clear hc
        have hfit := HF.out k hlt
        have C := (show Hid _ from szFile_any l[k] (n - l.length - fileBulk (l.take k)) hpos (by have := fileBulk_nonneg (l.take k); omega) hfit.1 hfit.2)
        have hstep := fileBulk_take l k hlt
        have hmore := fileBulk_le l (k + 1)
        unfold FileD.value at C
        rw [show n - (l.length : Int) - fileBulk (l.take k) - l[k].name.size - l[k].text.size = n - l.length - fileBulk (l.take (k + 1)) by omega] at C
        have HS : Hid (fileBulk (l.take (k + 1)) ≤ fileBulk l) := hmore
        clear hfit hstep hmore
        go_wp2_with fail
        refine (C.out _).mono ?_
        rintro e w1 ⟨(⟨hneg, rfl⟩ | ⟨hnn, rfl⟩), b1⟩
        · have B1 := (show Hid (Below w.heap.size w w1) from BR.out.trans (b1.mono BR.out.size))
          have hL : n - (l.length : Int) - fileBulk l < 0 := by have := HS.out; omega
          clear b1 C
          go_wp2
          go_ret
          exact ⟨Or.inl ⟨hL, rfl⟩, B1.out⟩
        · have B1 := (show Hid (Below w.heap.size w w1) from BR.out.trans (b1.mono BR.out.size))
          clear b1 C
          go_wp2
          go_roundg g
          case measure => omega
          case rel => exact ⟨k + 1, by omega, by go_num, rfl, hnn, B1⟩

theorem szDisk_any (ao : Option Addr) (l : List FileD) (cap : Nat) (n : Int) (h0 : 0 ≤ n) (h1 : n ≤ 1048576) (hl : l.length ≤ 9223372036854775807) (hf : FilesFit l) (w : World) (ha : FilesAt w ao l) :
    Calls Try.prog 5 #[.agg #[.slice ao l.length cap], .int .i64 n] w fun e w' => ((n - l.length - fileBulk l < 0 ∧ e = .returned (.int .i64 (-1))) ∨ (0 ≤ n - l.length - fileBulk l ∧ e = .returned (.int .i64 (n - l.length - fileBulk l)))) ∧ Below w.heap.size w w' := by
  have C := (show Hid _ from fun w ha => szFileS_any ao l cap n h0 h1 hl hf w ha)
  have HA := (show Hid (FilesAt w ao l) from ha)
  clear ha hf
  go_enter Try.func5, Try.ntmps5
  go_wp2_with fail
  refine (C.out _ (HA.out.on ((Below.refl _ _).alloc (Nat.le_refl _) _))).mono ?_
  rintro e w1 ⟨(⟨hneg, rfl⟩ | ⟨hnn, rfl⟩), b1⟩
  · have B1 := (show Hid (Below w.heap.size w w1) from ((Below.refl _ w).alloc (Nat.le_refl _) _).trans (b1.mono (by simp [World.alloc, -World.alloc_eq])))
    clear b1 C
    go_wp2
    go_ret
    exact ⟨Or.inl ⟨hneg, rfl⟩, B1.out⟩
  · have B1 := (show Hid (Below w.heap.size w w1) from ((Below.refl _ w).alloc (Nat.le_refl _) _).trans (b1.mono (by simp [World.alloc, -World.alloc_eq])))
    clear b1 C
    go_wp2
    go_ret
    exact ⟨Or.inr ⟨hnn, rfl⟩, B1.out⟩
end Go.Proofs.Ythkfgiilbkjojab
