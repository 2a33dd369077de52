/-
  The walk of laws.markEntryS: entries of the call's own are written over with marks.
  The walk of laws.heldEntryS: entries that hold marks are found to hold them.
-/
import Derived.Test.YtglibbpigmpanaaJoint1
import Derived.Test.YtglibbpigmpanaaRows
import Derived.Test.YtglibbpigmpanaaJoint24
import Derived.Lib.QuietBelow
namespace Go.Proofs.Ytglibbpigmpanaa
open Go.RowKit

/-- the k-th mark from m on -/
def markE (m k : Nat) : EntD := ⟨((m + 3 * k : Nat) : Int), ((m + 3 * k + 1 : Nat) : Int), mtx (m + 3 * k + 2)⟩
def marksE (m n : Nat) : List EntD := (List.range n).map (markE m)
theorem marksE_length (m n : Nat) : (marksE m n).length = n := by simp [marksE]
theorem marksE_succ (m n : Nat) : marksE m (n + 1) = marksE m n ++ [markE m n] := by simp [marksE, List.range_succ]

/-- the cells with the first k entries marked -/
def markedEnts (m k : Nat) (l : List EntD) (r : List Value) : List Value := entCells (marksE m k) ++ (entCells (l.drop k) ++ r)
theorem markedEnts_all (m : Nat) (l : List EntD) (r : List Value) : markedEnts m l.length l r = entCells (marksE m l.length) ++ r := by
  simp [markedEnts, entCells]
theorem markedEnts_split (m k : Nat) (l : List EntD) (r : List Value) (hk : k < l.length) :
    markedEnts m k l r = entCells (marksE m k) ++ .int .i64 l[k].term :: .int .i64 l[k].kind :: .string l[k].data :: (entCells (l.drop (k + 1)) ++ r) := by
  rw [markedEnts, List.drop_eq_getElem_cons hk]
  rfl
theorem markedEnts_step (m k : Nat) (l : List EntD) (r : List Value) (hk : k < l.length) :
    (((markedEnts m k l r).set (k * 3) (.int .i64 ((m + 3 * k : Nat) : Int))).set (k * 3 + 1) (.int .i64 ((m + 3 * k + 1 : Nat) : Int))).set (k * 3 + 2) (.string (mtx (m + 3 * k + 2))) = markedEnts m (k + 1) l r := by
  have e3 := set_three (entCells (marksE m k)) (.int .i64 ((m + 3 * k : Nat) : Int)) (.int .i64 ((m + 3 * k + 1 : Nat) : Int)) (.string (mtx (m + 3 * k + 2))) (.int .i64 l[k].term) (.int .i64 l[k].kind) (.string l[k].data) (entCells (l.drop (k + 1)) ++ r)
  rw [entCells_length, marksE_length] at e3
  rw [markedEnts_split m k l r hk, e3, markedEnts, marksE_succ]
  simp [entCells, entEnc, markE]
theorem markedEnts_at (m k : Nat) (l : List EntD) (r : List Value) (hk : k < l.length) :
    (markedEnts m k l r)[k * 3]? = some (.int .i64 l[k].term) ∧ (markedEnts m k l r)[k * 3 + 1]? = some (.int .i64 l[k].kind) ∧ (markedEnts m k l r)[k * 3 + 2]? = some (.string l[k].data) := by
  have hlen : (entCells (marksE m k)).length = k * 3 := by rw [entCells_length, marksE_length]
  rw [markedEnts_split m k l r hk]
  refine ⟨?_, ?_, ?_⟩
  · rw [List.getElem?_append_right (by omega), hlen, Nat.sub_self]; rfl
  · rw [List.getElem?_append_right (by omega), hlen, show k * 3 + 1 - k * 3 = 1 by omega]; rfl
  · rw [List.getElem?_append_right (by omega), hlen, show k * 3 + 2 - k * 3 = 2 by omega]; rfl

theorem set_otherE {cs : List Value} {i j : Nat} {v u : Value} (h : cs[j]? = some u) (hij : i ≠ j) : (cs.set i v)[j]? = some u := by
  rw [List.getElem?_set_ne hij]; exact h

set_option maxRecDepth 1000000 in
set_option maxHeartbeats 1000000 in
theorem markEntryS_any (g : Nat) (l : List EntD) (cap m : Nat) (r : List Value) (hm : m ≤ 10000000) (hl : l.length ≤ 1048576) (w : World) (hb : BlockIs w g 69 (entCells l ++ r)) :
    Calls Try.prog 63 #[.slice (some ⟨g, 0, none⟩) l.length cap, .int .i64 m] w fun e w' => e = .returned (.int .i64 ((m + 3 * l.length : Nat) : Int)) ∧ BlockIs w' g 69 (entCells (marksE m l.length) ++ r) ∧ w.grownBy w' (some g) := by
  have HB := (show Hid (BlockIs w g 69 (markedEnts m 0 l r)) from hb)
  clear hb
  go_enter Try.func63, Try.ntmps63
  go_wp2
  go_loopg [1, 5] l.length (fun q y i wr => ∃ (k : Nat), k + q = l.length ∧ i = .int .i64 k ∧ y = .int .i64 ((m + 3 * k : Nat) : Int) ∧ Hid (BlockIs wr g 69 (markedEnts m k l r)) ∧ Hid (w.grownBy wr (some g)))
  case atStart => exact ⟨0, by omega, rfl, rfl, HB, World.grownBy.refl _ _⟩
  case round =>
    obtain ⟨k, hkg, rfl, rfl, FB, GR⟩ := hrel
    clear HB
    cases gk with
    | zero =>
      have hlt : ¬ (k : Int) < (l.length : Int) := by omega
      obtain rfl : k = l.length := by omega
      rw [markedEnts_all] at FB
      go_wp2
      go_ret
      exact ⟨rfl, FB.out, GR.out⟩
    | succ q =>
      have hlt : k < l.length := by omega
      have hlt' : (k : Int) < (l.length : Int) := by omega
      have hat := hid (markedEnts_at m k l r hlt)
      have hstep := hid (markedEnts_step m k l r hlt)
      have C1 := hid (fun w => markText_any (m + 3 * k + 2) (by omega) w)
      obtain ⟨K, hK⟩ : ∃ K, m + 3 * k = K := ⟨_, rfl⟩
      have hKl : K ≤ 20000000 := by omega
      rw [hK] at C1 hstep ⊢
      have x1 := FB.out.cell hat.out.1
      have f1 := FB.out.thaw (k * 3)
      have x2 : (wr.setCell ⟨g, k * 3, none⟩ (.int .i64 (K : Int))).cell? ⟨g, k * 3 + 1, none⟩ = some (.int .i64 l[k].kind) := (FB.out.set (k * 3) (.int .i64 (K : Int))).cell (set_otherE hat.out.2.1 (by omega))
      have f2 : (wr.setCell ⟨g, k * 3, none⟩ (.int .i64 (K : Int))).frozen? ⟨g, k * 3 + 1, none⟩ = false := (FB.out.set (k * 3) (.int .i64 (K : Int))).thaw _
      have D0 := hid ((FB.out.set (k * 3) (.int .i64 (K : Int))).set (k * 3 + 1) (.int .i64 ((K : Int) + 1)))
      have G0 := hid ((GR.out.trans (grownBy_set _ g (k * 3) (.int .i64 (K : Int)))).trans (grownBy_set _ g (k * 3 + 1) (.int .i64 ((K : Int) + 1))))
      go_wp2_with fail
      refine (C1.out _).mono ?_
      rintro e w1 ⟨rfl, b1⟩
      have D1 := D0.out.on b1 D0.out.lt
      have G1 := hid (G0.out.trans (grown_of_below b1 (some g)))
      have y3 := D1.cell (set_otherE (set_otherE hat.out.2.2 (by omega)) (by omega))
      have f3 := D1.thaw (k * 3 + 2)
      have D2 := hid (D1.set (k * 3 + 2) (.string (mtx (K + 2))))
      rw [show ((K : Int) + 1) = ((K + 1 : Nat) : Int) by omega, hstep.out] at D2
      have G2 := hid (G1.out.trans (grownBy_set _ g (k * 3 + 2) (.string (mtx (K + 2)))))
      clear b1 FB GR D1 D0 G0 G1 x1 f1 x2 f2 C1 hat hstep
      go_wp2
      go_roundg q
      case measure => omega
      case rel => exact ⟨k + 1, by omega, by go_num, by rw [← show K + 3 = m + 3 * (k + 1) by omega]; go_num, D2, G2⟩

end Go.Proofs.Ytglibbpigmpanaa

namespace Go.Proofs.Ytglibbpigmpanaa
open Go.RowKit Go.Sort

set_option maxRecDepth 1000000 in
set_option maxHeartbeats 1000000 in
theorem heldEntryS_any (ao : Option Addr) (n cap m : Nat) (hm : m ≤ 10000000) (hl : n ≤ 1048576) (w : World) (ha : EntsAt w ao (marksE m n)) :
    Calls Try.prog 64 #[.slice ao n cap, .int .i64 m] w fun e w' => e = .returned (.int .i64 ((m + 3 * n : Nat) : Int)) ∧ Below w.heap.size w w' := by
  have HA := hid ha
  clear ha
  go_enter Try.func64, Try.ntmps64
  go_wp2
  go_loopg [1, 5] n (fun q y i wr => ∃ (k : Nat), k + q = n ∧ i = .int .i64 k ∧ y = .int .i64 ((m + 3 * k : Nat) : Int) ∧ Hid (Below w.heap.size w wr))
  case atStart => exact ⟨0, by omega, rfl, rfl, (show Below _ _ _ from Below.refl _ _)⟩
  case round =>
    obtain ⟨k, hkg, rfl, rfl, BR⟩ := hrel
    cases gk with
    | zero =>
      have hlt : ¬ (k : Int) < (n : Int) := by omega
      obtain rfl : k = n := by omega
      go_wp2
      go_ret
      exact ⟨rfl, BR.out⟩
    | succ q =>
      have hlt : k < n := by omega
      have hlt' : (k : Int) < (n : Int) := by omega
      have hkm : k < (marksE m n).length := by rw [marksE_length]; exact hlt
      have hne : marksE m n ≠ [] := by intro e; rw [e] at hkm; simp at hkm
      have hmk : (marksE m n)[k] = markE m k := by simp [marksE]
      obtain ⟨b, off, rfl, hc⟩ := HA.out.on BR.out hne
      obtain ⟨x0, x1, x2⟩ := hc k hkm
      rw [hmk] at x0 x1 x2
      simp only [markE] at x0 x1 x2
      clear hmk hne hkm hc
      obtain ⟨K, hK⟩ : ∃ K, m + 3 * k = K := ⟨_, rfl⟩
      have hKl : K ≤ 20000000 := by omega
      rw [hK] at x0 x1 x2 ⊢
      rw [show ((K + 1 : Nat) : Int) = (K : Int) + 1 by omega] at x1
      go_wp2
      have X2 := cell_regrown x2
      have C1 := hid (fun d os => Calls.regrown_of (w := wr) (d := d) (os := os) (markText_any (K + 2) (by omega) _))
      clear x0 x1 x2
      refine wp_region_quiet_below (by kernel_rfl) (by kernel_rfl) ?_
      repeat (first | go_big_quiet_step (first | (go_at_call 75; exact C1.out _ _) | fail) | quiet_step (first | (go_at_call 75; exact C1.out _ _) | fail))
      refine wpQuiet_nil ?_
      intro _ hw'
      obtain ⟨⟨dq, osq⟩, hw''⟩ := hw'
      subst hw''
      have b1 := below_regrown wr dq osq
      generalize grow (redrawn wr dq) osq = w1 at b1 ⊢
      have B1 := hid (below_via BR.out b1)
      clear X2 C1 b1 BR
      go_wp2
      go_roundg q
      case measure => omega
      case rel => exact ⟨k + 1, by omega, by go_num, by rw [← show K + 3 = m + 3 * (k + 1) by omega]; go_num, B1⟩

end Go.Proofs.Ytglibbpigmpanaa
