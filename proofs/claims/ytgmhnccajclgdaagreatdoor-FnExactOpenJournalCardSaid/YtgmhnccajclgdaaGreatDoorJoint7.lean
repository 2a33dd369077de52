/-
  Rows of the call's own between two sizes of memory, and the helpers of the exact laws in one form.
  The walks of laws.markEntryS, markLog: a log of the call's own is written over with marks.
-/
import Derived.Test.YtgmhnccajclgdaaGreatDoorJoint5
import Derived.Test.YtgmhnccajclgdaaGreatDoorJoint6
import Derived.Test.YtgmhnccajclgdaaGreatDoorJoint1
import Derived.Test.YtgmhnccajclgdaaGreatDoorRows
import Derived.Test.YtgmhnccajclgdaaGreatDoorJoint4
namespace Go.Proofs.YtgmhnccajclgdaaGreatDoor
open Go.RowKit

set_option maxRecDepth 1000000 in
/-- a disk of the call's own is written over with marks, nil too -/
theorem markDisk_own (base m : Nat) (va : Option Addr) (vc : Nat) (l : List FileD) (hm : m ≤ 10000000) (hl : l.length ≤ 1048576) (w : World) (hw : base ≤ w.heap.size)
    (h : l = [] ∨ ∃ g r, va = some ⟨g, 0, none⟩ ∧ base ≤ g ∧ BlockIs w g 49 (fileCells l ++ r)) :
    Calls Tryz.prog 11 #[.agg #[.slice va l.length vc], .int .i64 m] w fun e w' => e = .returned (.int .i64 ((m + 3 * l.length : Nat) : Int)) ∧ FilesAt w' va (marksF m l.length) ∧ Below base w w' ∧ (∀ j t cs, (∀ g, va = some ⟨g, 0, none⟩ → l ≠ [] → j ≠ g) → BlockIs w j t cs → BlockIs w' j t cs) := by
  rcases h with rfl | ⟨g, r, rfl, hg, hb⟩
  · have HBB := hid (below_more (Below.refl w.heap.size w) (.cells #[.slice va 0 vc] 36))
    have C : Hid (∀ w, Calls Tryz.prog 30 #[.slice va 0 vc, .int .i64 m] w fun e w' => e = .returned (.int .i64 m) ∧ w' = w) := by
      intro w
      go_enter Tryz.func30, Tryz.ntmps30
      go_wp2
      go_loopg [1, 5] 0 (fun _ y i wr => wr = w ∧ i = .int .i64 0 ∧ y = .int .i64 m)
      case atStart => exact ⟨rfl, rfl, rfl⟩
      case round =>
        obtain ⟨rfl, rfl, rfl⟩ := hrel
        go_wp2
        go_ret
        exact ⟨rfl, rfl⟩
    show Calls Tryz.prog 11 #[.agg #[.slice va 0 vc], .int .i64 m] w fun e w' => e = .returned (.int .i64 ((m + 3 * 0 : Nat) : Int)) ∧ _
    go_enter Tryz.func11, Tryz.ntmps11
    go_wp2_with fail
    refine (C.out _).mono ?_
    rintro e w1 ⟨rfl, hw1⟩
    rw [hw1]
    clear hw1 w1
    go_wp2
    go_ret
    exact ⟨rfl, fun h => absurd rfl h, HBB.out.mono hw, fun j t cs _ hb => hb.on HBB.out hb.lt⟩
  · refine (markDisk_any g l vc m r hm hl w hb).mono ?_
    rintro e w' ⟨rfl, hk, hg'⟩
    refine ⟨rfl, filesAt_of hk, ⟨hg'.os, hg'.tape, hg'.output, hg'.size, fun k hk' => hg'.block k (by omega) (fun e => ?_)⟩, fun j t cs hj hbj => ?_⟩
    · have : k = g := by simpa using e
      omega
    · by_cases hne : l = []
      · subst hne
        by_cases e : j = g
        · subst e
          unfold BlockIs at hbj hb
          rw [hbj] at hb
          cases hb
          have h0 : fileCells (marksF m 0) ++ r = fileCells [] ++ r := rfl
          have hk0 : BlockIs w' j 49 (fileCells [] ++ r) := hk
          simpa using hk0
        · unfold BlockIs
          rw [hg'.block j hbj.lt (by simpa using e)]
          exact hbj
      · unfold BlockIs
        rw [hg'.block j hbj.lt (fun e => hj g rfl hne (by simpa using e))]
        exact hbj
theorem OwnAt.files {w : World} {l : List FileD} {va : Option Addr} {lo hi : Nat} (h : OwnAt w 49 (fileCells l) l.length va lo hi) : FilesAt w va l := by
  rcases h with h | ⟨g, r, rfl, _, _, h⟩
  · intro h0
    exact absurd (List.length_eq_zero_iff.1 h) h0
  · exact filesAt_of h
theorem own_of_block {w : World} {base g : Nat} {l : List FileD} (hb : base ≤ g) (hk : BlockIs w g 49 (fileCells l)) : OwnAt w 49 (fileCells l) l.length (some ⟨g, 0, none⟩) base w.heap.size :=
  Or.inr ⟨g, [], rfl, hb, hk.lt, by rw [List.append_nil]; exact hk⟩

theorem toDisk_o (ao : Option Addr) (l : List FileD) (cap : Nat) (hl : l.length ≤ 1048576) (w : World) (ha : FilesAt w ao l) :
    Calls Tryz.prog 6 #[.agg #[.slice ao l.length cap]] w fun e w' => ∃ va vc, e = .returned (.agg #[.slice va l.length vc]) ∧ OwnAt w' 49 (fileCells l) l.length va w.heap.size w'.heap.size ∧ Below w.heap.size w w' := by
  refine (toDisk_any ao l cap hl w ha).mono ?_
  rintro e w' ⟨g, hg, rfl, hk, hb⟩
  exact ⟨_, _, rfl, own_of_block hg hk, hb⟩

theorem eqDisk_o (va vb : Option Addr) (l : List FileD) (c c' : Nat) (hl : l.length ≤ 1048576) (w : World) (ha : FilesAt w va l) (hb : FilesAt w vb l) :
    Calls Tryz.prog 10 #[.agg #[.slice va l.length c], .agg #[.slice vb l.length c']] w fun e w' => e = .returned (.bool true) ∧ Below w.heap.size w w' :=
  eqDisk_same va vb l c c' (by omega) w ha hb

theorem markDisk_o (m : Nat) (va : Option Addr) (vc : Nat) (l : List FileD) (lo hi : Nat) (hm : m ≤ 10000000) (hl : l.length ≤ 1048576) (w : World) (hw : lo ≤ w.heap.size) (h : OwnAt w 49 (fileCells l) l.length va lo hi) :
    Calls Tryz.prog 11 #[.agg #[.slice va l.length vc], .int .i64 m] w fun e w' => e = .returned (.int .i64 ((m + 3 * l.length : Nat) : Int)) ∧ FilesAt w' va (marksF m l.length) ∧ KeptBut lo hi w w' ∧ Below lo w w' := by
  have h' : l = [] ∨ ∃ g r, va = some ⟨g, 0, none⟩ ∧ lo ≤ g ∧ BlockIs w g 49 (fileCells l ++ r) :=
    h.imp (fun e => List.length_eq_zero_iff.1 e) fun ⟨g, r, a, b, _, d⟩ => ⟨g, r, a, b, d⟩
  refine (markDisk_own lo m va vc l hm hl w hw h').mono ?_
  rintro e w' ⟨rfl, hf, hb, hk⟩
  refine ⟨rfl, hf, fun j t cs hj hbl => hk j t cs (fun g hg hne => ?_) hbl, hb⟩
  rcases h with h0 | ⟨g', r, hv, h1, h2, _⟩
  · exact absurd (List.length_eq_zero_iff.1 h0) hne
  · rw [hg] at hv
    cases hv
    intro e
    exact hj ⟨by omega, by omega⟩
end Go.Proofs.YtgmhnccajclgdaaGreatDoor

namespace Go.Proofs.YtgmhnccajclgdaaGreatDoor
open Go.RowKit

/-- the k-th mark from m on -/
def markE (m k : Nat) : EntD := ⟨((m + 3 * k : Nat) : Int), ((m + 3 * k + 1 : Nat) : Int), mtx (m + 3 * k + 2)⟩
def marksE (m n : Nat) : List EntD := (List.range n).map (markE m)
theorem marksE_length (m n : Nat) : (marksE m n).length = n := by simp [marksE]
theorem marksE_succ (m n : Nat) : marksE m (n + 1) = marksE m n ++ [markE m n] := by simp [marksE, List.range_succ]

/-- the cells with the first k entries marked -/
def markedEnts (m k : Nat) (l : List EntD) (r : List Value) : List Value := entCells (marksE m k) ++ (entCells (l.drop k) ++ r)
theorem markedEnts_all (m : Nat) (l : List EntD) (r : List Value) : markedEnts m l.length l r = entCells (marksE m l.length) ++ r := by
  simp [markedEnts, entCells]
theorem markedEnts_split (m k : Nat) (l : List EntD) (r : List Value) (hk : k < l.length) :
    markedEnts m k l r = entCells (marksE m k) ++ .int .i64 l[k].term :: .int .i64 l[k].kind :: .string l[k].data :: (entCells (l.drop (k + 1)) ++ r) := by
  rw [markedEnts, List.drop_eq_getElem_cons hk]
  rfl
theorem markedEnts_step (m k : Nat) (l : List EntD) (r : List Value) (hk : k < l.length) :
    (((markedEnts m k l r).set (k * 3) (.int .i64 ((m + 3 * k : Nat) : Int))).set (k * 3 + 1) (.int .i64 ((m + 3 * k + 1 : Nat) : Int))).set (k * 3 + 2) (.string (mtx (m + 3 * k + 2))) = markedEnts m (k + 1) l r := by
  have e3 := set_three (entCells (marksE m k)) (.int .i64 ((m + 3 * k : Nat) : Int)) (.int .i64 ((m + 3 * k + 1 : Nat) : Int)) (.string (mtx (m + 3 * k + 2))) (.int .i64 l[k].term) (.int .i64 l[k].kind) (.string l[k].data) (entCells (l.drop (k + 1)) ++ r)
  rw [entCells_length, marksE_length] at e3
  rw [markedEnts_split m k l r hk, e3, markedEnts, marksE_succ]
  simp [entCells, entEnc, markE]
theorem markedEnts_at (m k : Nat) (l : List EntD) (r : List Value) (hk : k < l.length) :
    (markedEnts m k l r)[k * 3]? = some (.int .i64 l[k].term) ∧ (markedEnts m k l r)[k * 3 + 1]? = some (.int .i64 l[k].kind) ∧ (markedEnts m k l r)[k * 3 + 2]? = some (.string l[k].data) := by
  have hlen : (entCells (marksE m k)).length = k * 3 := by rw [entCells_length, marksE_length]
  rw [markedEnts_split m k l r hk]
  refine ⟨?_, ?_, ?_⟩
  · rw [List.getElem?_append_right (by omega), hlen, Nat.sub_self]; rfl
  · rw [List.getElem?_append_right (by omega), hlen, show k * 3 + 1 - k * 3 = 1 by omega]; rfl
  · rw [List.getElem?_append_right (by omega), hlen, show k * 3 + 2 - k * 3 = 2 by omega]; rfl

theorem set_otherE {cs : List Value} {i j : Nat} {v u : Value} (h : cs[j]? = some u) (hij : i ≠ j) : (cs.set i v)[j]? = some u := by
  rw [List.getElem?_set_ne hij]; exact h

set_option maxRecDepth 1000000 in
set_option maxHeartbeats 1000000 in
theorem markEntryS_any (g : Nat) (l : List EntD) (cap m : Nat) (r : List Value) (hm : m ≤ 10000000) (hl : l.length ≤ 1048576) (w : World) (hb : BlockIs w g 110 (entCells l ++ r)) :
    Calls Tryz.prog 56 #[.slice (some ⟨g, 0, none⟩) l.length cap, .int .i64 m] w fun e w' => e = .returned (.int .i64 ((m + 3 * l.length : Nat) : Int)) ∧ BlockIs w' g 110 (entCells (marksE m l.length) ++ r) ∧ w.grownBy w' (some g) := by
  have HB := (show Hid (BlockIs w g 110 (markedEnts m 0 l r)) from hb)
  clear hb
  go_enter Tryz.func56, Tryz.ntmps56
  go_wp2
  go_loopg [1, 5] l.length (fun q y i wr => ∃ (k : Nat), k + q = l.length ∧ i = .int .i64 k ∧ y = .int .i64 ((m + 3 * k : Nat) : Int) ∧ Hid (BlockIs wr g 110 (markedEnts m k l r)) ∧ Hid (w.grownBy wr (some g)))
  case atStart => exact ⟨0, by omega, rfl, rfl, HB, World.grownBy.refl _ _⟩
  case round =>
    obtain ⟨k, hkg, rfl, rfl, FB, GR⟩ := hrel
    clear HB
    cases gk with
    | zero =>
      have hlt : ¬ (k : Int) < (l.length : Int) := by omega
      obtain rfl : k = l.length := by omega
      rw [markedEnts_all] at FB
      go_wp2
      go_ret
      exact ⟨rfl, FB.out, GR.out⟩
    | succ q =>
      have hlt : k < l.length := by omega
      have hlt' : (k : Int) < (l.length : Int) := by omega
      have hat := hid (markedEnts_at m k l r hlt)
      have hstep := hid (markedEnts_step m k l r hlt)
      have C1 := hid (fun w => markText_any (m + 3 * k + 2) (by omega) w)
      obtain ⟨K, hK⟩ : ∃ K, m + 3 * k = K := ⟨_, rfl⟩
      have hKl : K ≤ 20000000 := by omega
      rw [hK] at C1 hstep ⊢
      have x1 := FB.out.cell hat.out.1
      have f1 := FB.out.thaw (k * 3)
      have x2 : (wr.setCell ⟨g, k * 3, none⟩ (.int .i64 (K : Int))).cell? ⟨g, k * 3 + 1, none⟩ = some (.int .i64 l[k].kind) := (FB.out.set (k * 3) (.int .i64 (K : Int))).cell (set_otherE hat.out.2.1 (by omega))
      have f2 : (wr.setCell ⟨g, k * 3, none⟩ (.int .i64 (K : Int))).frozen? ⟨g, k * 3 + 1, none⟩ = false := (FB.out.set (k * 3) (.int .i64 (K : Int))).thaw _
      have D0 := hid ((FB.out.set (k * 3) (.int .i64 (K : Int))).set (k * 3 + 1) (.int .i64 ((K : Int) + 1)))
      have G0 := hid ((GR.out.trans (grownBy_set _ g (k * 3) (.int .i64 (K : Int)))).trans (grownBy_set _ g (k * 3 + 1) (.int .i64 ((K : Int) + 1))))
      go_wp2_with fail
      refine (C1.out _).mono ?_
      rintro e w1 ⟨rfl, b1⟩
      have D1 := D0.out.on b1 D0.out.lt
      have G1 := hid (G0.out.trans (grown_of_below b1 (some g)))
      have y3 := D1.cell (set_otherE (set_otherE hat.out.2.2 (by omega)) (by omega))
      have f3 := D1.thaw (k * 3 + 2)
      have D2 := hid (D1.set (k * 3 + 2) (.string (mtx (K + 2))))
      rw [show ((K : Int) + 1) = ((K + 1 : Nat) : Int) by omega, hstep.out] at D2
      have G2 := hid (G1.out.trans (grownBy_set _ g (k * 3 + 2) (.string (mtx (K + 2)))))
      clear b1 FB GR D1 D0 G0 G1 x1 f1 x2 f2 C1 hat hstep
      go_wp2
      go_roundg q
      case measure => omega
      case rel => exact ⟨k + 1, by omega, by go_num, by rw [← show K + 3 = m + 3 * (k + 1) by omega]; go_num, D2, G2⟩

set_option maxRecDepth 1000000 in
theorem markLog_any (s t : Int) (g : Nat) (l : List EntD) (cap m : Nat) (r : List Value) (hm : m ≤ 10000000) (hl : l.length ≤ 1048576) (w : World) (hb : BlockIs w g 110 (entCells l ++ r)) :
    Calls Tryz.prog 31 #[.agg #[.int .i64 s, .int .i64 t, .slice (some ⟨g, 0, none⟩) l.length cap], .int .i64 m] w fun e w' => e = .returned (.int .i64 ((m + 3 * l.length : Nat) : Int)) ∧ BlockIs w' g 110 (entCells (marksE m l.length) ++ r) ∧ w.grownBy w' (some g) := by
  have C := hid (fun w hb => markEntryS_any g l cap m r hm hl w hb)
  have HD := hid (World.grownBy_alloc w (.cells #[.int .i64 s, .int .i64 t, .slice (some ⟨g, 0, none⟩) l.length cap] 28) (some g))
  have HD2 := hid (hb.on (below_more (Below.refl w.heap.size w) (.cells #[.int .i64 s, .int .i64 t, .slice (some ⟨g, 0, none⟩) l.length cap] 28)) hb.lt)
  clear hb
  go_enter Tryz.func31, Tryz.ntmps31
  go_wp2_with fail
  refine (C.out _ HD2.out).mono ?_
  rintro e w1 ⟨rfl, k1, g1⟩
  have K1 := hid k1
  have G1 := hid (HD.out.trans g1)
  clear k1 g1 C HD HD2
  go_wp2
  go_ret
  exact ⟨rfl, K1.out, G1.out⟩
end Go.Proofs.YtgmhnccajclgdaaGreatDoor
