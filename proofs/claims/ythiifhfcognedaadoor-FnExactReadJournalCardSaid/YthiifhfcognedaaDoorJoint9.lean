/-
  Entries that an answer owns: read, written over with marks; rows of the call's own between two sizes of memory.
-/
import Derived.Test.YthiifhfcognedaaDoorJoint1
import Derived.Test.YthiifhfcognedaaDoorJoint6
import Derived.Test.YthiifhfcognedaaDoorJoint7
import Derived.Test.YthiifhfcognedaaDoorJoint8
namespace Go.Proofs.YthiifhfcognedaaDoor
open Go.RowKit

/-- four blocks laid one behind the other -/
theorem four_log (w : World) (o p q : Obj) : Below w.heap.size w (((w.alloc o).alloc p).alloc q) ∧ (((w.alloc o).alloc p).alloc q).heap[w.heap.size]? = some o ∧ (((w.alloc o).alloc p).alloc q).heap[w.heap.size + 1]? = some p ∧ (((w.alloc o).alloc p).alloc q).heap[w.heap.size + 1 + 1]? = some q := by
  refine ⟨below_more (below_more (below_more (Below.refl _ w) _) _) _, ?_, ?_, ?_⟩
  · show (((w.heap.push o).push p).push q)[w.heap.size]? = some o
    rw [Array.getElem?_push, if_neg (by simp; omega), Array.getElem?_push, if_neg (by simp), Array.getElem?_push, if_pos rfl]
  · show (((w.heap.push o).push p).push q)[w.heap.size + 1]? = some p
    rw [Array.getElem?_push, if_neg (by simp), Array.getElem?_push, if_pos (by simp)]
  · show (((w.heap.push o).push p).push q)[w.heap.size + 1 + 1]? = some q
    rw [Array.getElem?_push, if_pos (by simp)]

/-- a row of the call's own, made between two sizes of memory -/
def OwnAt (w : World) (t : TypeId) (cs : List Value) (n : Nat) (va : Option Addr) (lo hi : Nat) : Prop :=
  n = 0 ∨ ∃ g r, va = some ⟨g, 0, none⟩ ∧ lo ≤ g ∧ g < hi ∧ BlockIs w g t (cs ++ r)
theorem OwnAt.on {w w' : World} {t : TypeId} {cs : List Value} {n : Nat} {va : Option Addr} {lo hi : Nat} (h : OwnAt w t cs n va lo hi) (hb : Below w.heap.size w w') : OwnAt w' t cs n va lo hi :=
  h.imp id fun ⟨g, r, a, b, c, d⟩ => ⟨g, r, a, b, c, d.on hb d.lt⟩
theorem OwnAt.down {w : World} {t : TypeId} {cs : List Value} {n : Nat} {va : Option Addr} {lo hi lo' hi' : Nat} (h : OwnAt w t cs n va lo hi) (h1 : lo' ≤ lo) (h2 : hi ≤ hi') : OwnAt w t cs n va lo' hi' :=
  h.imp id fun ⟨g, r, a, b, c, d⟩ => ⟨g, r, a, Nat.le_trans h1 b, Nat.lt_of_lt_of_le c h2, d⟩
/-- a cell below is written -/
theorem OwnAt.far {w : World} {t : TypeId} {cs : List Value} {n : Nat} {va : Option Addr} {lo b j : Nat} (h : OwnAt w t cs n va lo w.heap.size) (hb : b < lo) (v : Value) : OwnAt (w.setCell ⟨b, j, none⟩ v) t cs n va lo (w.setCell ⟨b, j, none⟩ v).heap.size := by
  rw [World.size_setCell]
  exact h.imp id fun ⟨g, r, a, c, d, e⟩ => ⟨g, r, a, c, d, e.far (by omega) v⟩
/-- nothing but blocks between two sizes has turned -/
def KeptBut (lo hi : Nat) (w w' : World) : Prop := ∀ j t cs, ¬ (lo ≤ j ∧ j < hi) → BlockIs w j t cs → BlockIs w' j t cs
theorem OwnAt.kept {w w' : World} {t : TypeId} {cs : List Value} {n : Nat} {va : Option Addr} {lo hi lo2 hi2 : Nat} (h : OwnAt w t cs n va lo hi) (hk : KeptBut lo2 hi2 w w') (ho : hi ≤ lo2 ∨ hi2 ≤ lo) : OwnAt w' t cs n va lo hi :=
  h.imp id fun ⟨g, r, a, b, c, d⟩ => ⟨g, r, a, b, c, hk _ _ _ (by omega) d⟩
theorem BlockIs.kept {w w' : World} {g lo hi : Nat} {t : TypeId} {cs : List Value} (h : BlockIs w g t cs) (hk : KeptBut lo hi w w') (ho : g < lo ∨ hi ≤ g) : BlockIs w' g t cs := hk _ _ _ (by omega) h
theorem OwnAt.ents {w : World} {l : List EntD} {va : Option Addr} {lo hi : Nat} (h : OwnAt w 76 (entCells l) l.length va lo hi) : EntsAt w va l := by
  rcases h with h | ⟨g, r, rfl, _, _, h⟩
  · intro h0
    exact absurd (List.length_eq_zero_iff.1 h) h0
  · exact entsAt_of h
theorem own_of_ents {w : World} {base g : Nat} {l : List EntD} (hb : base ≤ g) (hk : BlockIs w g 76 (entCells l)) : OwnAt w 76 (entCells l) l.length (some ⟨g, 0, none⟩) base w.heap.size :=
  Or.inr ⟨g, [], rfl, hb, hk.lt, by rw [List.append_nil]; exact hk⟩
/-- entries in a row of the call's own -/
theorem own_of_row {w : World} {base : Nat} {v : Value} {l : List EntD} (h : w.ownsRow base 76 3 v l.length (entCells l)) : ∃ va vc, v = .slice va l.length vc ∧ l.length ≤ vc ∧ OwnAt w 76 (entCells l) l.length va base w.heap.size := by
  obtain ⟨_, (⟨rfl, h0⟩ | ⟨g, cap, cur, rfl, hb, hg, hc, _, _, ht⟩)⟩ := h
  · exact ⟨none, 0, by rw [h0], by omega, Or.inl h0⟩
  · have hcur : cur.toList = entCells l ++ cur.toList.drop (l.length * 3) := by rw [← ht, List.take_append_drop]
    have hk : BlockIs w g 76 (entCells l ++ cur.toList.drop (l.length * 3)) := by
      unfold BlockIs
      rw [hg, ← hcur]
    exact ⟨_, _, rfl, hc, Or.inr ⟨g, _, rfl, hb, hk.lt, hk⟩⟩

theorem toLog_o (s t : Int) (ao : Option Addr) (l : List EntD) (cap : Nat) (hl : l.length ≤ 1048576) (w : World) (ha : EntsAt w ao l) :
    Calls Tryd.prog 30 #[.agg #[.int .i64 s, .int .i64 t, .slice ao l.length cap]] w fun e w' => ∃ va vc, e = .returned (.agg #[.int .i64 s, .int .i64 t, .slice va l.length vc]) ∧ l.length ≤ vc ∧ OwnAt w' 76 (entCells l) l.length va w.heap.size w'.heap.size ∧ Below w.heap.size w w' := by
  refine (toLog_any s t ao l cap hl w ha).mono ?_
  rintro e w' ⟨g, hg, rfl, hk, hb⟩
  exact ⟨_, _, rfl, Nat.le_refl _, own_of_ents hg hk, hb⟩

theorem eqLog_o (s t : Int) (va vb : Option Addr) (l : List EntD) (c c' : Nat) (hl : l.length ≤ 1048577) (w : World) (ha : EntsAt w va l) (hb : EntsAt w vb l) :
    Calls Tryd.prog 22 #[.agg #[.int .i64 s, .int .i64 t, .slice va l.length c], .agg #[.int .i64 s, .int .i64 t, .slice vb l.length c']] w fun e w' => e = .returned (.bool true) ∧ Below w.heap.size w w' :=
  eqLog_same s t va vb l c c' (by omega) w ha hb

set_option maxRecDepth 1000000 in
/-- a log of the call's own is written over with marks, nil too -/
theorem markLog_o (s t : Int) (m : Nat) (va : Option Addr) (vc : Nat) (l : List EntD) (lo hi : Nat) (hm : m ≤ 10000000) (hl : l.length ≤ 1048576) (w : World) (hw : lo ≤ w.heap.size) (h : OwnAt w 76 (entCells l) l.length va lo hi) :
    Calls Tryd.prog 23 #[.agg #[.int .i64 s, .int .i64 t, .slice va l.length vc], .int .i64 m] w fun e w' => e = .returned (.int .i64 ((m + 3 * l.length : Nat) : Int)) ∧ EntsAt w' va (marksE m l.length) ∧ KeptBut lo hi w w' ∧ Below lo w w' := by
  rcases h with h0 | ⟨g, r, rfl, h1, h2, h3⟩
  · obtain rfl : l = [] := List.length_eq_zero_iff.1 h0
    have HBB := hid (below_more (Below.refl w.heap.size w) (.cells #[.int .i64 s, .int .i64 t, .slice va 0 vc] 24))
    have C : Hid (∀ w, Calls Tryd.prog 49 #[.slice va 0 vc, .int .i64 m] w fun e w' => e = .returned (.int .i64 m) ∧ w' = w) := by
      intro w
      go_enter Tryd.func49, Tryd.ntmps49
      go_wp2
      go_loopg [1, 5] 0 (fun _ y i wr => wr = w ∧ i = .int .i64 0 ∧ y = .int .i64 m)
      case atStart => exact ⟨rfl, rfl, rfl⟩
      case round =>
        obtain ⟨rfl, rfl, rfl⟩ := hrel
        go_wp2
        go_ret
        exact ⟨rfl, rfl⟩
    show Calls Tryd.prog 23 #[.agg #[.int .i64 s, .int .i64 t, .slice va 0 vc], .int .i64 m] w fun e w' => e = .returned (.int .i64 ((m + 3 * 0 : Nat) : Int)) ∧ _
    go_enter Tryd.func23, Tryd.ntmps23
    go_wp2_with fail
    refine (C.out _).mono ?_
    rintro e w1 ⟨rfl, hw1⟩
    rw [hw1]
    clear hw1 w1
    go_wp2
    go_ret
    exact ⟨rfl, fun h => absurd rfl h, fun j t cs _ hb => hb.on HBB.out hb.lt, HBB.out.mono hw⟩
  · refine (markLog_any s t g l vc m r hm hl w h3).mono ?_
    rintro e w' ⟨rfl, hk, hg'⟩
    refine ⟨rfl, entsAt_of hk, fun j t cs hj hbj => ?_, ⟨hg'.os, hg'.tape, hg'.output, hg'.size, fun k hk' => hg'.block k (by omega) (fun e => ?_)⟩⟩
    · unfold BlockIs
      rw [hg'.block j hbj.lt (fun e => hj (by have : j = g := by simpa using e
                                              subst this
                                              exact ⟨h1, h2⟩))]
      exact hbj
    · have : k = g := by simpa using e
      omega
end Go.Proofs.YthiifhfcognedaaDoor
