/-
  Rows of the call's own between two sizes of memory, and the helpers of the exact laws in one form.
-/
import Derived.Test.YtihgkocfgjihhaaGreatDoorJoint17
import Derived.Test.YtihgkocfgjihhaaGreatDoorJoint16
import Derived.Test.YtihgkocfgjihhaaGreatDoorJoint1
namespace Go.Proofs.YtihgkocfgjihhaaGreatDoor
open Go.RowKit

set_option maxRecDepth 1000000 in
/-- a disk of the call's own is written over with marks, nil too -/
theorem markDisk_own (base m : Nat) (va : Option Addr) (vc : Nat) (l : List FileD) (hm : m ≤ 10000000) (hl : l.length ≤ 1048576) (w : World) (hw : base ≤ w.heap.size)
    (h : l = [] ∨ ∃ g r, va = some ⟨g, 0, none⟩ ∧ base ≤ g ∧ BlockIs w g 82 (fileCells l ++ r)) :
    Calls Tryz.prog 11 #[.agg #[.slice va l.length vc], .int .i64 m] w fun e w' => e = .returned (.int .i64 ((m + 3 * l.length : Nat) : Int)) ∧ FilesAt w' va (marksF m l.length) ∧ Below base w w' ∧ (∀ j t cs, (∀ g, va = some ⟨g, 0, none⟩ → l ≠ [] → j ≠ g) → BlockIs w j t cs → BlockIs w' j t cs) := by
  rcases h with rfl | ⟨g, r, rfl, hg, hb⟩
  · have HBB := hid (below_more (Below.refl w.heap.size w) (.cells #[.slice va 0 vc] 25))
    have C : Hid (∀ w, Calls Tryz.prog 35 #[.slice va 0 vc, .int .i64 m] w fun e w' => e = .returned (.int .i64 m) ∧ w' = w) := by
      intro w
      go_enter Tryz.func35, Tryz.ntmps35
      go_wp2
      go_loopg [1, 5] 0 (fun _ y i wr => wr = w ∧ i = .int .i64 0 ∧ y = .int .i64 m)
      case atStart => exact ⟨rfl, rfl, rfl⟩
      case round =>
        obtain ⟨rfl, rfl, rfl⟩ := hrel
        go_wp2
        go_ret
        exact ⟨rfl, rfl⟩
    show Calls Tryz.prog 11 #[.agg #[.slice va 0 vc], .int .i64 m] w fun e w' => e = .returned (.int .i64 ((m + 3 * 0 : Nat) : Int)) ∧ _
    go_enter Tryz.func11, Tryz.ntmps11
    go_wp2_with fail
    refine (C.out _).mono ?_
    rintro e w1 ⟨rfl, hw1⟩
    rw [hw1]
    clear hw1 w1
    go_wp2
    go_ret
    exact ⟨rfl, fun h => absurd rfl h, HBB.out.mono hw, fun j t cs _ hb => hb.on HBB.out hb.lt⟩
  · refine (markDisk_any g l vc m r hm hl w hb).mono ?_
    rintro e w' ⟨rfl, hk, hg'⟩
    refine ⟨rfl, filesAt_of hk, ⟨hg'.os, hg'.tape, hg'.output, hg'.size, fun k hk' => hg'.block k (by omega) (fun e => ?_)⟩, fun j t cs hj hbj => ?_⟩
    · have : k = g := by simpa using e
      omega
    · by_cases hne : l = []
      · subst hne
        by_cases e : j = g
        · subst e
          unfold BlockIs at hbj hb
          rw [hbj] at hb
          cases hb
          have h0 : fileCells (marksF m 0) ++ r = fileCells [] ++ r := rfl
          have hk0 : BlockIs w' j 82 (fileCells [] ++ r) := hk
          simpa using hk0
        · unfold BlockIs
          rw [hg'.block j hbj.lt (by simpa using e)]
          exact hbj
      · unfold BlockIs
        rw [hg'.block j hbj.lt (fun e => hj g rfl hne (by simpa using e))]
        exact hbj
theorem OwnAt.files {w : World} {l : List FileD} {va : Option Addr} {lo hi : Nat} (h : OwnAt w 82 (fileCells l) l.length va lo hi) : FilesAt w va l := by
  rcases h with h | ⟨g, r, rfl, _, _, h⟩
  · intro h0
    exact absurd (List.length_eq_zero_iff.1 h) h0
  · exact filesAt_of h
theorem own_of_block {w : World} {base g : Nat} {l : List FileD} (hb : base ≤ g) (hk : BlockIs w g 82 (fileCells l)) : OwnAt w 82 (fileCells l) l.length (some ⟨g, 0, none⟩) base w.heap.size :=
  Or.inr ⟨g, [], rfl, hb, hk.lt, by rw [List.append_nil]; exact hk⟩

theorem toDisk_o (ao : Option Addr) (l : List FileD) (cap : Nat) (hl : l.length ≤ 1048576) (w : World) (ha : FilesAt w ao l) :
    Calls Tryz.prog 43 #[.agg #[.slice ao l.length cap]] w fun e w' => ∃ va vc, e = .returned (.agg #[.slice va l.length vc]) ∧ OwnAt w' 82 (fileCells l) l.length va w.heap.size w'.heap.size ∧ Below w.heap.size w w' := by
  refine (toDisk_any ao l cap hl w ha).mono ?_
  rintro e w' ⟨g, hg, rfl, hk, hb⟩
  exact ⟨_, _, rfl, own_of_block hg hk, hb⟩

theorem eqDisk_o (va vb : Option Addr) (l : List FileD) (c c' : Nat) (hl : l.length ≤ 1048576) (w : World) (ha : FilesAt w va l) (hb : FilesAt w vb l) :
    Calls Tryz.prog 8 #[.agg #[.slice va l.length c], .agg #[.slice vb l.length c']] w fun e w' => e = .returned (.bool true) ∧ Below w.heap.size w w' :=
  eqDisk_same va vb l c c' (by omega) w ha hb

theorem markDisk_o (m : Nat) (va : Option Addr) (vc : Nat) (l : List FileD) (lo hi : Nat) (hm : m ≤ 10000000) (hl : l.length ≤ 1048576) (w : World) (hw : lo ≤ w.heap.size) (h : OwnAt w 82 (fileCells l) l.length va lo hi) :
    Calls Tryz.prog 11 #[.agg #[.slice va l.length vc], .int .i64 m] w fun e w' => e = .returned (.int .i64 ((m + 3 * l.length : Nat) : Int)) ∧ FilesAt w' va (marksF m l.length) ∧ KeptBut lo hi w w' ∧ Below lo w w' := by
  have h' : l = [] ∨ ∃ g r, va = some ⟨g, 0, none⟩ ∧ lo ≤ g ∧ BlockIs w g 82 (fileCells l ++ r) :=
    h.imp (fun e => List.length_eq_zero_iff.1 e) fun ⟨g, r, a, b, _, d⟩ => ⟨g, r, a, b, d⟩
  refine (markDisk_own lo m va vc l hm hl w hw h').mono ?_
  rintro e w' ⟨rfl, hf, hb, hk⟩
  refine ⟨rfl, hf, fun j t cs hj hbl => hk j t cs (fun g hg hne => ?_) hbl, hb⟩
  rcases h with h0 | ⟨g', r, hv, h1, h2, _⟩
  · exact absurd (List.length_eq_zero_iff.1 h0) hne
  · rw [hg] at hv
    cases hv
    intro e
    exact hj ⟨by omega, by omega⟩
end Go.Proofs.YtihgkocfgjihhaaGreatDoor
