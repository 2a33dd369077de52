/-
  A disk that an answer owns: read, written over with marks.
-/
import Derived.Test.YtbbohfagnnobgaaJoint1
import Derived.Test.YtbbohfagnnobgaaJoint21
namespace Go.Proofs.Ytbbohfagnnobgaa
open Go.RowKit

/-- files in a row of the call's own: where they lie -/
theorem own_files {w : World} {base : Nat} {v : Value} {l : List FileD} (h : w.ownsRow base 77 3 v l.length (fileCells l)) :
    ∃ va vc, v = .slice va l.length vc ∧ FilesAt w va l ∧ (l = [] ∨ ∃ g r, va = some ⟨g, 0, none⟩ ∧ base ≤ g ∧ BlockIs w g 77 (fileCells l ++ r)) := by
  obtain ⟨_, (⟨rfl, h0⟩ | ⟨g, cap, cur, rfl, hb, hg, _, _, _, ht⟩)⟩ := h
  · have hl : l = [] := List.length_eq_zero_iff.1 h0
    subst hl
    exact ⟨none, 0, rfl, fun h => absurd rfl h, Or.inl rfl⟩
  · have hcur : cur.toList = fileCells l ++ cur.toList.drop (l.length * 3) := by rw [← ht, List.take_append_drop]
    have hk : BlockIs w g 77 (fileCells l ++ cur.toList.drop (l.length * 3)) := by
      unfold BlockIs
      rw [hg, ← hcur]
    exact ⟨_, _, rfl, filesAt_of hk, Or.inr ⟨g, _, rfl, hb, hk⟩⟩

theorem marksF_nil (m : Nat) : marksF m 0 = [] := rfl

set_option maxRecDepth 1000000 in
/-- a disk of the call's own is written over with marks, nil too -/
theorem markDisk_own (base m : Nat) (va : Option Addr) (vc : Nat) (l : List FileD) (hm : m ≤ 10000000) (hl : l.length ≤ 1048576) (w : World) (hw : base ≤ w.heap.size)
    (h : l = [] ∨ ∃ g r, va = some ⟨g, 0, none⟩ ∧ base ≤ g ∧ BlockIs w g 77 (fileCells l ++ r)) :
    Calls Try.prog 27 #[.agg #[.slice va l.length vc], .int .i64 m] w fun e w' => e = .returned (.int .i64 ((m + 3 * l.length : Nat) : Int)) ∧ FilesAt w' va (marksF m l.length) ∧ Below base w w' ∧ (∀ j t cs, (∀ g, va = some ⟨g, 0, none⟩ → l ≠ [] → j ≠ g) → BlockIs w j t cs → BlockIs w' j t cs) := by
  rcases h with rfl | ⟨g, r, rfl, hg, hb⟩
  · have HBB := hid (below_more (Below.refl w.heap.size w) (.cells #[.slice va 0 vc] 26))
    have C : Hid (∀ w, Calls Try.prog 57 #[.slice va 0 vc, .int .i64 m] w fun e w' => e = .returned (.int .i64 m) ∧ w' = w) := by
      intro w
      go_enter Try.func57, Try.ntmps57
      go_wp2
      go_loopg [1, 5] 0 (fun _ y i wr => wr = w ∧ i = .int .i64 0 ∧ y = .int .i64 m)
      case atStart => exact ⟨rfl, rfl, rfl⟩
      case round =>
        obtain ⟨rfl, rfl, rfl⟩ := hrel
        go_wp2
        go_ret
        exact ⟨rfl, rfl⟩
    show Calls Try.prog 27 #[.agg #[.slice va 0 vc], .int .i64 m] w fun e w' => e = .returned (.int .i64 ((m + 3 * 0 : Nat) : Int)) ∧ _
    go_enter Try.func27, Try.ntmps27
    go_wp2_with fail
    refine (C.out _).mono ?_
    rintro e w1 ⟨rfl, hw1⟩
    rw [hw1]
    clear hw1 w1
    go_wp2
    go_ret
    exact ⟨rfl, fun h => absurd rfl h, HBB.out.mono hw, fun j t cs _ hb => hb.on HBB.out hb.lt⟩
  · refine (markDisk_any g l vc m r hm hl w hb).mono ?_
    rintro e w' ⟨rfl, hk, hg'⟩
    refine ⟨rfl, filesAt_of hk, ⟨hg'.os, hg'.tape, hg'.output, hg'.size, fun k hk' => hg'.block k (by omega) (fun e => ?_)⟩, fun j t cs hj hbj => ?_⟩
    · have : k = g := by simpa using e
      omega
    · by_cases hne : l = []
      · subst hne
        by_cases e : j = g
        · subst e
          unfold BlockIs at hbj hb
          rw [hbj] at hb
          cases hb
          have h0 : fileCells (marksF m 0) ++ r = fileCells [] ++ r := rfl
          have hk0 : BlockIs w' j 77 (fileCells [] ++ r) := hk
          simpa using hk0
        · unfold BlockIs
          rw [hg'.block j hbj.lt (by simpa using e)]
          exact hbj
      · unfold BlockIs
        rw [hg'.block j hbj.lt (fun e => hj g rfl hne (by simpa using e))]
        exact hbj
end Go.Proofs.Ytbbohfagnnobgaa
