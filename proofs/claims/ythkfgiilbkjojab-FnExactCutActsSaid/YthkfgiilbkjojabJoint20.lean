/-
  The walk of laws.markActS: acts are written over with marks.
-/
import Derived.Test.YthkfgiilbkjojabJoint13
import Derived.Test.YthkfgiilbkjojabJoint15
import Derived.Test.YthkfgiilbkjojabJoint19
namespace Go.Proofs.Ythkfgiilbkjojab
open Go.RowKit

def markA (m k : Nat) : ActD := ⟨((m + 4 * k : Nat) : Int), mtx (m + 4 * k + 1), mtx (m + 4 * k + 2), mtx (m + 4 * k + 3)⟩
def marksA (m n : Nat) : List ActD := (List.range n).map (markA m)
theorem marksA_length (m n : Nat) : (marksA m n).length = n := by simp [marksA]
theorem marksA_succ (m n : Nat) : marksA m (n + 1) = marksA m n ++ [markA m n] := by simp [marksA, List.range_succ]
def markedActs (m k : Nat) (acts : List ActD) : List Value := actCells (marksA m k) ++ actCells (acts.drop k)
theorem markedActs_split (m k : Nat) (acts : List ActD) (hk : k < acts.length) :
    markedActs m k acts = actCells (marksA m k) ++ .int .i64 acts[k].kind :: .string acts[k].name :: .string acts[k].text :: .string acts[k].to :: actCells (acts.drop (k + 1)) := by
  rw [markedActs, List.drop_eq_getElem_cons hk]
  rfl
theorem markedActs_step (m k : Nat) (acts : List ActD) (hk : k < acts.length) :
    ((((markedActs m k acts).set (k * 4) (.int .i64 ((m + 4 * k : Nat) : Int))).set (k * 4 + 1) (.string (mtx (m + 4 * k + 1)))).set (k * 4 + 2) (.string (mtx (m + 4 * k + 2)))).set (k * 4 + 3) (.string (mtx (m + 4 * k + 3))) = markedActs m (k + 1) acts := by
  have e4 := set_four (actCells (marksA m k)) (.int .i64 ((m + 4 * k : Nat) : Int)) (.string (mtx (m + 4 * k + 1))) (.string (mtx (m + 4 * k + 2))) (.string (mtx (m + 4 * k + 3))) (.int .i64 acts[k].kind) (.string acts[k].name) (.string acts[k].text) (.string acts[k].to) (actCells (acts.drop (k + 1)))
  rw [actCells_length, marksA_length] at e4
  rw [markedActs_split m k acts hk, e4, markedActs, marksA_succ]
  simp [actCells, actEnc, markA]
theorem markedActs_at (m k : Nat) (acts : List ActD) (hk : k < acts.length) :
    (markedActs m k acts)[k * 4]? = some (.int .i64 acts[k].kind) ∧ (markedActs m k acts)[k * 4 + 1]? = some (.string acts[k].name) ∧ (markedActs m k acts)[k * 4 + 2]? = some (.string acts[k].text) ∧ (markedActs m k acts)[k * 4 + 3]? = some (.string acts[k].to) := by
  have hlen : (actCells (marksA m k)).length = k * 4 := by rw [actCells_length, marksA_length]
  rw [markedActs_split m k acts hk]
  refine ⟨?_, ?_, ?_, ?_⟩
  · rw [List.getElem?_append_right (by omega), hlen, Nat.sub_self]; rfl
  · rw [List.getElem?_append_right (by omega), hlen, show k * 4 + 1 - k * 4 = 1 by omega]; rfl
  · rw [List.getElem?_append_right (by omega), hlen, show k * 4 + 2 - k * 4 = 2 by omega]; rfl
  · rw [List.getElem?_append_right (by omega), hlen, show k * 4 + 3 - k * 4 = 3 by omega]; rfl

set_option maxRecDepth 1000000 in
set_option maxHeartbeats 1000000 in
theorem markActS_any (g : Nat) (acts : List ActD) (cap m : Nat) (hm : m ≤ 10000000) (hl : acts.length ≤ 1048576) (w : World) (hb : BlockIs w g 56 (actCells acts)) :
    Calls Try.prog 16 #[.slice (some ⟨g, 0, none⟩) acts.length cap, .int .i64 m] w fun e w' => e = .returned (.int .i64 ((m + 4 * acts.length : Nat) : Int)) ∧ w.grownBy w' (some g) := by
  have HB := (show Hid (BlockIs w g 56 (markedActs m 0 acts)) from hb)
  clear hb
  go_enter Try.func16, Try.ntmps16
  go_wp2
  go_loopg [1, 5] acts.length (fun q y i wr => ∃ (k : Nat), k + q = acts.length ∧ i = .int .i64 k ∧ y = .int .i64 ((m + 4 * k : Nat) : Int) ∧ Hid (BlockIs wr g 56 (markedActs m k acts)) ∧ Hid (w.grownBy wr (some g)))
  case atStart => exact ⟨0, by omega, rfl, rfl, HB, World.grownBy.refl _ _⟩
  case round =>
    obtain ⟨k, hkg, rfl, rfl, FB, GR⟩ := hrel
    clear HB
    cases gk with
    | zero =>
      have hlt : ¬ (k : Int) < (acts.length : Int) := by omega
      obtain rfl : k = acts.length := by omega
      go_wp2
      go_ret
      exact ⟨rfl, GR.out⟩
    | succ q =>
      have hlt : k < acts.length := by omega
      have hlt' : (k : Int) < (acts.length : Int) := by omega
      have hat := hid (markedActs_at m k acts hlt)
      have hstep := hid (markedActs_step m k acts hlt)
      have C1 := hid (fun w => markText_any (m + 4 * k + 1) (by omega) w)
      have C2 := hid (fun w => markText_any (m + 4 * k + 2) (by omega) w)
      have C3 := hid (fun w => markText_any (m + 4 * k + 3) (by omega) w)
      obtain ⟨K, hK⟩ : ∃ K, m + 4 * k = K := ⟨_, rfl⟩
      have hKl : K ≤ 20000000 := by omega
      rw [hK] at C1 C2 C3 hstep ⊢
      have x0 := FB.out.cell hat.out.1
      have f0 := FB.out.thaw (k * 4)
      have E0 := hid (FB.out.set (k * 4) (.int .i64 ((K : Nat) : Int)))
      have G0 := hid (GR.out.trans (grownBy_set _ g (k * 4) (.int .i64 ((K : Nat) : Int))))
      go_wp2_with fail
      refine (C1.out _).mono ?_
      rintro e w1 ⟨rfl, b1⟩
      have D1 := E0.out.on b1 E0.out.lt
      have G1 := hid (G0.out.trans (grown_of_below b1 (some g)))
      have x1 := D1.cell (set_other (v := .int .i64 ((K : Nat) : Int)) hat.out.2.1 (by omega))
      have f1 := D1.thaw (k * 4 + 1)
      have E1 := hid (D1.set (k * 4 + 1) (.string (mtx (K + 1))))
      clear b1 FB GR D1 E0 G0 x0 f0
      go_wp2_with fail
      refine (C2.out _).mono ?_
      rintro e w2 ⟨rfl, b2⟩
      have D2 := E1.out.on b2 E1.out.lt
      have G2 := hid ((G1.out.trans (grownBy_set _ g (k * 4 + 1) _)).trans (grown_of_below b2 (some g)))
      have x2 := D2.cell (set_other (v := .string (mtx (K + 1))) (set_other (v := .int .i64 ((K : Nat) : Int)) hat.out.2.2.1 (by omega)) (by omega))
      have f2 := D2.thaw (k * 4 + 2)
      have E2 := hid (D2.set (k * 4 + 2) (.string (mtx (K + 2))))
      clear b2 E1 D2 G1 x1 f1
      go_wp2_with fail
      refine (C3.out _).mono ?_
      rintro e w3 ⟨rfl, b3⟩
      have D3 := E2.out.on b3 E2.out.lt
      have G3 := hid (((G2.out.trans (grownBy_set _ g (k * 4 + 2) _)).trans (grown_of_below b3 (some g))).trans (grownBy_set _ g (k * 4 + 3) (.string (mtx (K + 3)))))
      have x3 := D3.cell (set_other (v := .string (mtx (K + 2))) (set_other (v := .string (mtx (K + 1))) (set_other (v := .int .i64 ((K : Nat) : Int)) hat.out.2.2.2 (by omega)) (by omega)) (by omega))
      have f3 := D3.thaw (k * 4 + 3)
      have E3 := hid (D3.set (k * 4 + 3) (.string (mtx (K + 3))))
      rw [hstep.out] at E3
      clear b3 E2 D3 G2 x2 f2 hat hstep C1 C2 C3
      go_wp2
      go_roundg q
      case measure => omega
      case rel => exact ⟨k + 1, by omega, by go_num, by rw [← show K + 4 = m + 4 * (k + 1) by omega]; go_num, E3, G3⟩
theorem markActS_o (g : Nat) (acts : List ActD) (cap m : Nat) (hm : m ≤ 10000000) (hl : acts.length ≤ 1048576) (w : World) (hb : BlockIs w g 56 (actCells acts)) :
    Calls Try.prog 16 #[.slice (some ⟨g, 0, none⟩) acts.length cap, .int .i64 m] w fun e w' => e = .returned (.int .i64 ((m + 4 * acts.length : Nat) : Int)) ∧ KeptBut g (g + 1) w w' ∧ Below g w w' := by
  refine (markActS_any g acts cap m hm hl w hb).mono ?_
  rintro e w' ⟨rfl, hg⟩
  refine ⟨rfl, fun j t cs hj hbl => ?_, ⟨hg.os, hg.tape, hg.output, hg.size, fun k hk => hg.block k (Nat.lt_trans hk hb.lt) (fun e => ?_)⟩⟩
  · unfold BlockIs
    rw [hg.block j hbl.lt (fun e => hj (by simp at e; omega))]
    exact hbl
  · simp at e; omega
theorem toActS_o (ao : Option Addr) (acts : List ActD) (cap : Nat) (hl : acts.length ≤ 1048576) (w : World) (ha : ActsAt w ao acts) :
    Calls Try.prog 9 #[.slice ao acts.length cap] w fun e w' => ∃ g, e = .returned (.slice (some ⟨g, 0, none⟩) acts.length acts.length) ∧ w.heap.size ≤ g ∧ g < w'.heap.size ∧ BlockIs w' g 56 (actCells acts) ∧ Below w.heap.size w w' := by
  refine (toActS_any ao acts cap hl w ha).mono ?_
  rintro e w' ⟨rfl, hk, hb⟩
  exact ⟨_, rfl, Nat.le_refl _, hk.lt, hk, hb⟩
end Go.Proofs.Ythkfgiilbkjojab
