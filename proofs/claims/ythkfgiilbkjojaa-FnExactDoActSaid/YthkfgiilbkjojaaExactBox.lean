/-
  Boxes that may be laid ahead of a call or behind it, and rows that are marked: what stays.
-/
import Derived.Test.YthkfgiilbkjojaaExactKit
namespace Go.Proofs.Ythkfgiilbkjojaa
open Go.RowKit

/-- nothing but files between two sizes has turned -/
def KeptBut2 (lo hi : Nat) (w w' : World) : Prop := ∀ j t cs, ¬ (lo ≤ j ∧ j < hi ∧ t = 36) → BlockIs w j t cs → BlockIs w' j t cs
theorem OwnAt.kept2 {w w' : World} {t : TypeId} {cs : List Value} {n : Nat} {va : Option Addr} {lo hi lo2 hi2 : Nat} (h : OwnAt w t cs n va lo hi) (hk : KeptBut2 lo2 hi2 w w') (ho : hi ≤ lo2 ∨ hi2 ≤ lo) : OwnAt w' t cs n va lo hi :=
  h.imp id fun ⟨g, r, a, b, c, d⟩ => ⟨g, r, a, b, c, hk _ _ _ (fun h => by omega) d⟩
theorem BlockIs.kept2 {w w' : World} {g lo hi : Nat} {t : TypeId} {cs : List Value} (h : BlockIs w g t cs) (hk : KeptBut2 lo hi w w') (ho : t ≠ 36) : BlockIs w' g t cs := hk _ _ _ (fun h => ho h.2.2) h

theorem block_type {w : World} {g : Nat} {t t' : TypeId} {cs cs' : List Value} (h : BlockIs w g t cs) (h' : BlockIs w g t' cs') : t = t' := by
  unfold BlockIs at h h'
  rw [h] at h'
  simp only [Option.some.injEq, Obj.cells.injEq] at h'
  exact h'.2.1

theorem markDisk_o2 (m : Nat) (va : Option Addr) (vc : Nat) (l : List FileD) (lo hi : Nat) (hm : m ≤ 10000000) (hl : l.length ≤ 1048576) (w : World) (hw : lo ≤ w.heap.size) (h : OwnAt w 36 (fileCells l) l.length va lo hi) :
    Calls Try.prog 32 #[.agg #[.slice va l.length vc], .int .i64 m] w fun e w' => e = .returned (.int .i64 ((m + 3 * l.length : Nat) : Int)) ∧ FilesAt w' va (marksF m l.length) ∧ KeptBut2 lo hi w w' ∧ Below lo w w' := by
  have h' : l = [] ∨ ∃ g r, va = some ⟨g, 0, none⟩ ∧ lo ≤ g ∧ BlockIs w g 36 (fileCells l ++ r) :=
    h.imp (fun e => List.length_eq_zero_iff.1 e) fun ⟨g, r, a, b, _, d⟩ => ⟨g, r, a, b, d⟩
  refine (markDisk_own lo m va vc l hm hl w hw h').mono ?_
  rintro e w' ⟨rfl, hf, hb, hk⟩
  refine ⟨rfl, hf, fun j t cs hj hbl => hk j t cs (fun g hg hne => ?_) hbl, hb⟩
  rcases h with h0 | ⟨g', r, hv, h1, h2, h3⟩
  · exact absurd (List.length_eq_zero_iff.1 h0) hne
  · rw [hg] at hv
    cases hv
    intro e
    subst e
    exact hj ⟨by omega, by omega, block_type hbl h3⟩

/-- a box that was laid ahead of a call -/
theorem box_on {C X W' : World} {t : TypeId} {v : Value} (hg : Below C.heap.size C X) (hb : Below (X.alloc (.cells #[v] t)).heap.size (X.alloc (.cells #[v] t)) W') : C.heap.size ≤ X.heap.size ∧ BlockIs W' X.heap.size t [v] := by
  have hx : BlockIs (X.alloc (.cells #[v] t)) X.heap.size t [v] := heap_alloc_new X _
  exact ⟨hg.size, hx.on hb hx.lt⟩
/-- a box that was laid right behind the draw -/
theorem box_on0 {C W' : World} {t : TypeId} {v : Value} (hb : Below (C.drew.alloc (.cells #[v] t)).heap.size (C.drew.alloc (.cells #[v] t)) W') : C.heap.size ≤ C.heap.size ∧ BlockIs W' C.heap.size t [v] := by
  have hx : BlockIs (C.drew.alloc (.cells #[v] t)) C.heap.size t [v] := heap_alloc_new C.drew _
  exact ⟨Nat.le_refl _, hx.on hb hx.lt⟩
theorem BlockIs.more {w : World} {g : Nat} {t : TypeId} {cs : List Value} (h : BlockIs w g t cs) (o : Obj) : BlockIs (w.alloc o) g t cs := h.on (below_more (Below.refl _ _) _) h.lt
theorem box_carry {C W W' : World} {B : Nat} {t : TypeId} {cs : List Value} (h : C.heap.size ≤ B ∧ BlockIs W B t cs) (hb : Below W.heap.size W W') : C.heap.size ≤ B ∧ BlockIs W' B t cs := ⟨h.1, h.2.on hb h.2.lt⟩
theorem box_carry2 {C W W' : World} {B : Nat} {t : TypeId} {cs : List Value} {o : Obj} (h : C.heap.size ≤ B ∧ BlockIs W B t cs) (hb : Below (W.alloc o).heap.size (W.alloc o) W') : C.heap.size ≤ B ∧ BlockIs W' B t cs := box_carry h (below_via (below_more (Below.refl _ _) _) hb)

/-- what a region that draws leaves: the answer's box and its row -/
def BoxRow (C wx : World) (Bx : Nat) (vb : Option Addr) (n vd : Nat) (cs : List Value) : Prop :=
  Below C.heap.size C wx ∧ BlockIs wx Bx 26 [.slice vb n vd] ∧ OwnAt wx 36 cs n vb C.heap.size wx.heap.size

theorem boxRow_last {C wf : World} {vb : Option Addr} {n vd : Nat} {cs : List Value} (hg : Below C.heap.size C wf) (ho : OwnAt wf 36 cs n vb C.heap.size wf.heap.size) : BoxRow C (wf.alloc (.cells #[.slice vb n vd] 26)) wf.heap.size vb n vd cs := by
  have hb := below_more (Below.refl wf.heap.size wf) (.cells #[.slice vb n vd] 26)
  exact ⟨below_via hg hb, heap_alloc_new wf _, (ho.on hb).down (Nat.le_refl _) hb.size⟩
theorem boxRow_ahead {C wf : World} {B : Nat} {vb : Option Addr} {n vd : Nat} {cs : List Value} {u : Value} (hg : Below C.heap.size C wf) (ho : OwnAt wf 36 cs n vb C.heap.size wf.heap.size) (hx : C.heap.size ≤ B ∧ BlockIs wf B 26 [u]) : BoxRow C (wf.setCell ⟨B, 0, none⟩ (.slice vb n vd)) B vb n vd cs := by
  refine ⟨hg.setCell (p := ⟨B, 0, none⟩) hx.1 _, hx.2.set 0 _, ?_⟩
  have hs : (wf.setCell ⟨B, 0, none⟩ (.slice vb n vd)).heap.size = wf.heap.size := World.size_setCell _ _ _
  rw [hs]
  refine ho.imp id fun ⟨g, r, a, b, c, d⟩ => ⟨g, r, a, b, c, d.far ?_ _⟩
  intro e
  subst e
  exact absurd (block_type hx.2 d) (by decide)
end Go.Proofs.Ythkfgiilbkjojaa
