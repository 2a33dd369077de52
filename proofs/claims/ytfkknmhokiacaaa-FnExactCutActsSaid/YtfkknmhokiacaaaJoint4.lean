/-
  The walk of laws.markActS: acts are written over with marks.
  Lists of acts in the exact laws: all helpers.
  The walks of laws.toIntS, eqIntS, markIntS: a list of numbers laid anew, compared, written over.
  Lists of numbers in the exact laws, in one form.
  What acts leave, one by one, as one answer.
  The walks of spec.l01In, spec.l03Name, spec.DiskOk: what they answer.
-/
import Derived.Test.YtfkknmhokiacaaaJoint3
import Derived.Test.YtfkknmhokiacaaaRows
import Derived.Test.YtfkknmhokiacaaaJoint2
import Derived.BigQuiet
import Derived.OwnWalk
import Derived.Deep.LoopGhost
import Derived.WalkSmall
import Derived.WalkKit
import Derived.Test.YtfkknmhokiacaaaJoint1
import Derived.Deep.QuietTactic
import Derived.Laws.Cover1
namespace Go.Proofs.Ytfkknmhokiacaaa
open Go.RowKit

def markA (m k : Nat) : ActD := ⟨((m + 4 * k : Nat) : Int), mtx (m + 4 * k + 1), mtx (m + 4 * k + 2), mtx (m + 4 * k + 3)⟩
def marksA (m n : Nat) : List ActD := (List.range n).map (markA m)
theorem marksA_length (m n : Nat) : (marksA m n).length = n := by simp [marksA]
theorem marksA_succ (m n : Nat) : marksA m (n + 1) = marksA m n ++ [markA m n] := by simp [marksA, List.range_succ]
def markedActs (m k : Nat) (acts : List ActD) : List Value := actCells (marksA m k) ++ actCells (acts.drop k)
theorem markedActs_split (m k : Nat) (acts : List ActD) (hk : k < acts.length) :
    markedActs m k acts = actCells (marksA m k) ++ .int .i64 acts[k].kind :: .string acts[k].name :: .string acts[k].text :: .string acts[k].to :: actCells (acts.drop (k + 1)) := by
  rw [markedActs, List.drop_eq_getElem_cons hk]
  rfl
theorem markedActs_step (m k : Nat) (acts : List ActD) (hk : k < acts.length) :
    ((((markedActs m k acts).set (k * 4) (.int .i64 ((m + 4 * k : Nat) : Int))).set (k * 4 + 1) (.string (mtx (m + 4 * k + 1)))).set (k * 4 + 2) (.string (mtx (m + 4 * k + 2)))).set (k * 4 + 3) (.string (mtx (m + 4 * k + 3))) = markedActs m (k + 1) acts := by
  have e4 := set_four (actCells (marksA m k)) (.int .i64 ((m + 4 * k : Nat) : Int)) (.string (mtx (m + 4 * k + 1))) (.string (mtx (m + 4 * k + 2))) (.string (mtx (m + 4 * k + 3))) (.int .i64 acts[k].kind) (.string acts[k].name) (.string acts[k].text) (.string acts[k].to) (actCells (acts.drop (k + 1)))
  rw [actCells_length, marksA_length] at e4
  rw [markedActs_split m k acts hk, e4, markedActs, marksA_succ]
  simp [actCells, actEnc, markA]
theorem markedActs_at (m k : Nat) (acts : List ActD) (hk : k < acts.length) :
    (markedActs m k acts)[k * 4]? = some (.int .i64 acts[k].kind) ∧ (markedActs m k acts)[k * 4 + 1]? = some (.string acts[k].name) ∧ (markedActs m k acts)[k * 4 + 2]? = some (.string acts[k].text) ∧ (markedActs m k acts)[k * 4 + 3]? = some (.string acts[k].to) := by
  have hlen : (actCells (marksA m k)).length = k * 4 := by rw [actCells_length, marksA_length]
  rw [markedActs_split m k acts hk]
  refine ⟨?_, ?_, ?_, ?_⟩
  · rw [List.getElem?_append_right (by omega), hlen, Nat.sub_self]; rfl
  · rw [List.getElem?_append_right (by omega), hlen, show k * 4 + 1 - k * 4 = 1 by omega]; rfl
  · rw [List.getElem?_append_right (by omega), hlen, show k * 4 + 2 - k * 4 = 2 by omega]; rfl
  · rw [List.getElem?_append_right (by omega), hlen, show k * 4 + 3 - k * 4 = 3 by omega]; rfl

set_option maxRecDepth 1000000 in
set_option maxHeartbeats 1000000 in
theorem markActS_any (g : Nat) (acts : List ActD) (cap m : Nat) (hm : m ≤ 10000000) (hl : acts.length ≤ 1048576) (w : World) (hb : BlockIs w g 45 (actCells acts)) :
    Calls Try.prog 36 #[.slice (some ⟨g, 0, none⟩) acts.length cap, .int .i64 m] w fun e w' => e = .returned (.int .i64 ((m + 4 * acts.length : Nat) : Int)) ∧ w.grownBy w' (some g) := by
  have HB := (show Hid (BlockIs w g 45 (markedActs m 0 acts)) from hb)
  clear hb
  go_enter Try.func36, Try.ntmps36
  go_wp2
  go_loopg [1, 5] acts.length (fun q y i wr => ∃ (k : Nat), k + q = acts.length ∧ i = .int .i64 k ∧ y = .int .i64 ((m + 4 * k : Nat) : Int) ∧ Hid (BlockIs wr g 45 (markedActs m k acts)) ∧ Hid (w.grownBy wr (some g)))
  case atStart => exact ⟨0, by omega, rfl, rfl, HB, World.grownBy.refl _ _⟩
  case round =>
    obtain ⟨k, hkg, rfl, rfl, FB, GR⟩ := hrel
    clear HB
    cases gk with
    | zero =>
      have hlt : ¬ (k : Int) < (acts.length : Int) := by omega
      obtain rfl : k = acts.length := by omega
      go_wp2
      go_ret
      exact ⟨rfl, GR.out⟩
    | succ q =>
      have hlt : k < acts.length := by omega
      have hlt' : (k : Int) < (acts.length : Int) := by omega
      have hat := hid (markedActs_at m k acts hlt)
      have hstep := hid (markedActs_step m k acts hlt)
      have C1 := hid (fun w => markText_any (m + 4 * k + 1) (by omega) w)
      have C2 := hid (fun w => markText_any (m + 4 * k + 2) (by omega) w)
      have C3 := hid (fun w => markText_any (m + 4 * k + 3) (by omega) w)
      obtain ⟨K, hK⟩ : ∃ K, m + 4 * k = K := ⟨_, rfl⟩
      have hKl : K ≤ 20000000 := by omega
      rw [hK] at C1 C2 C3 hstep ⊢
      have x0 := FB.out.cell hat.out.1
      have f0 := FB.out.thaw (k * 4)
      have E0 := hid (FB.out.set (k * 4) (.int .i64 ((K : Nat) : Int)))
      have G0 := hid (GR.out.trans (grownBy_set _ g (k * 4) (.int .i64 ((K : Nat) : Int))))
      go_wp2_with fail
      refine (C1.out _).mono ?_
      rintro e w1 ⟨rfl, b1⟩
      have D1 := E0.out.on b1 E0.out.lt
      have G1 := hid (G0.out.trans (grown_of_below b1 (some g)))
      have x1 := D1.cell (set_other (v := .int .i64 ((K : Nat) : Int)) hat.out.2.1 (by omega))
      have f1 := D1.thaw (k * 4 + 1)
      have E1 := hid (D1.set (k * 4 + 1) (.string (mtx (K + 1))))
      clear b1 FB GR D1 E0 G0 x0 f0
      go_wp2_with fail
      refine (C2.out _).mono ?_
      rintro e w2 ⟨rfl, b2⟩
      have D2 := E1.out.on b2 E1.out.lt
      have G2 := hid ((G1.out.trans (grownBy_set _ g (k * 4 + 1) _)).trans (grown_of_below b2 (some g)))
      have x2 := D2.cell (set_other (v := .string (mtx (K + 1))) (set_other (v := .int .i64 ((K : Nat) : Int)) hat.out.2.2.1 (by omega)) (by omega))
      have f2 := D2.thaw (k * 4 + 2)
      have E2 := hid (D2.set (k * 4 + 2) (.string (mtx (K + 2))))
      clear b2 E1 D2 G1 x1 f1
      go_wp2_with fail
      refine (C3.out _).mono ?_
      rintro e w3 ⟨rfl, b3⟩
      have D3 := E2.out.on b3 E2.out.lt
      have G3 := hid (((G2.out.trans (grownBy_set _ g (k * 4 + 2) _)).trans (grown_of_below b3 (some g))).trans (grownBy_set _ g (k * 4 + 3) (.string (mtx (K + 3)))))
      have x3 := D3.cell (set_other (v := .string (mtx (K + 2))) (set_other (v := .string (mtx (K + 1))) (set_other (v := .int .i64 ((K : Nat) : Int)) hat.out.2.2.2 (by omega)) (by omega)) (by omega))
      have f3 := D3.thaw (k * 4 + 3)
      have E3 := hid (D3.set (k * 4 + 3) (.string (mtx (K + 3))))
      rw [hstep.out] at E3
      clear b3 E2 D3 G2 x2 f2 hat hstep C1 C2 C3
      go_wp2
      go_roundg q
      case measure => omega
      case rel => exact ⟨k + 1, by omega, by go_num, by rw [← show K + 4 = m + 4 * (k + 1) by omega]; go_num, E3, G3⟩
theorem markActS_o (g : Nat) (acts : List ActD) (cap m : Nat) (hm : m ≤ 10000000) (hl : acts.length ≤ 1048576) (w : World) (hb : BlockIs w g 45 (actCells acts)) :
    Calls Try.prog 36 #[.slice (some ⟨g, 0, none⟩) acts.length cap, .int .i64 m] w fun e w' => e = .returned (.int .i64 ((m + 4 * acts.length : Nat) : Int)) ∧ KeptBut g (g + 1) w w' ∧ Below g w w' := by
  refine (markActS_any g acts cap m hm hl w hb).mono ?_
  rintro e w' ⟨rfl, hg⟩
  refine ⟨rfl, fun j t cs hj hbl => ?_, ⟨hg.os, hg.tape, hg.output, hg.size, fun k hk => hg.block k (Nat.lt_trans hk hb.lt) (fun e => ?_)⟩⟩
  · unfold BlockIs
    rw [hg.block j hbl.lt (fun e => hj (by simp at e; omega))]
    exact hbl
  · simp at e; omega
theorem toActS_o (ao : Option Addr) (acts : List ActD) (cap : Nat) (hl : acts.length ≤ 1048576) (w : World) (ha : ActsAt w ao acts) :
    Calls Try.prog 32 #[.slice ao acts.length cap] w fun e w' => ∃ g, e = .returned (.slice (some ⟨g, 0, none⟩) acts.length acts.length) ∧ w.heap.size ≤ g ∧ g < w'.heap.size ∧ BlockIs w' g 45 (actCells acts) ∧ Below w.heap.size w w' := by
  refine (toActS_any ao acts cap hl w ha).mono ?_
  rintro e w' ⟨rfl, hk, hb⟩
  exact ⟨_, rfl, Nat.le_refl _, hk.lt, hk, hb⟩
end Go.Proofs.Ytfkknmhokiacaaa

namespace Go.Proofs.Ytfkknmhokiacaaa
end Go.Proofs.Ytfkknmhokiacaaa

namespace Go.Proofs.Ytfkknmhokiacaaa
open Go.RowKit

theorem int_info : (Try.prog.info? 3).map (fun i => (i.zero, i.size, i.bytes)) = some (some (.int .i64 0), 1, 8) := by kernel_rfl
theorem made_ints (n : Nat) : (madeCells #[Value.int .i64 0] n).toList.length = n := by simp [madeCells]

/-- a number's cell is written -/
theorem put_int {w : World} {g k : Nat} {t : TypeId} {zs : List Int} {r : List Value} (z : Int) (h : BlockIs w g t (intCells zs ++ r)) (hk : zs.length = k) (hr : 0 < r.length) :
    (∃ x, w.cell? ⟨g, k, none⟩ = some x) ∧ w.frozen? ⟨g, k, none⟩ = false ∧ BlockIs (w.setCell ⟨g, k, none⟩ (.int .i64 z)) g t (intCells (zs ++ [z]) ++ r.drop 1) := by
  have hlen : (intCells zs).length = k := by simp [intCells, hk]
  match r, hr with
  | x :: r', _ =>
    have hs := h.set k (.int .i64 z)
    have e1 := set_one (intCells zs) (.int .i64 z) x r'
    rw [hlen] at e1
    rw [e1] at hs
    refine ⟨⟨x, h.cell ?_⟩, h.thaw k, ?_⟩
    · rw [List.getElem?_append_right (by omega), hlen, Nat.sub_self]; rfl
    · simpa [intCells] using hs

set_option maxRecDepth 1000000 in
set_option maxHeartbeats 1000000 in
theorem toIntS_any (ao : Option Addr) (zs : List Int) (cap : Nat) (hl : zs.length ≤ 1048576) (w : World) (ha : IntsAt w ao zs) :
    Calls Try.prog 33 #[.slice ao zs.length cap] w fun e w' => e = .returned (.slice (some ⟨w.heap.size, 0, none⟩) zs.length zs.length) ∧ BlockIs w' w.heap.size 3 (intCells zs) ∧ Below w.heap.size w w' := by
  obtain ⟨i0, hi, hz0, hz1, hz2⟩ := info_parts int_info
  have HA := hid ha
  clear ha
  go_enter Try.func33, Try.ntmps33
  go_wp2_with (at_make; refine wpList_make_full _ rfl (.tmp 6) (.tmp 6) 28 rfl w.heap.size 3 i0 (.int .i64 0) 1 Try.underlying28 hi hz0 hz1 _ _ _ _ zs.length rfl rfl rfl rfl ?b2 ?b3 ?b4 ?_)
  case b2 => rw [hz2]; omega
  case b3 => unfold maxLen; omega
  case b4 => exact Nat.le_refl _
  intro w1 hown hgrow
  have HM := hid (BlockIs.made hown)
  have B1 := hid ((Below.refl w.heap.size w).grown hgrow (Nat.le_refl _) (fun k h => by cases h))
  clear hown hgrow
  go_wp2
  go_loopg [4] zs.length (fun q i wr => ∃ (k : Nat), k + q = zs.length ∧ i = .int .i64 k ∧ Hid (Below w.heap.size w wr) ∧ ∃ rest, Hid (rest.length = zs.length - k) ∧ Hid (BlockIs wr w.heap.size 3 (intCells (zs.take k) ++ rest)))
  case atStart => exact ⟨0, by omega, rfl, B1, (madeCells #[Value.int .i64 0] zs.length).toList, made_ints zs.length, HM⟩
  case round =>
    obtain ⟨k, hkg, rfl, BR, rest, hrl, FP⟩ := hrel
    clear HM B1
    cases gk with
    | zero =>
      have hlt : ¬ (k : Int) < (zs.length : Int) := by omega
      have HP : Hid (BlockIs wr w.heap.size 3 (intCells zs)) := by
        have h0 : rest = [] := List.length_eq_zero_iff.1 (by rw [hrl.out]; omega)
        have := FP.out
        rw [h0, List.append_nil, List.take_of_length_le (by omega)] at this
        exact this
      clear FP hrl
      go_wp2
      go_ret
      exact ⟨rfl, HP.out, BR.out⟩
    | succ q =>
      have hlt : k < zs.length := by omega
      have hlt' : (k : Int) < (zs.length : Int) := by omega
      have hne : zs ≠ [] := by intro e; rw [e] at hlt; simp at hlt
      obtain ⟨b, off, rfl, hc⟩ := HA.out.on BR.out hne
      have x0 := hc k hlt
      obtain ⟨⟨y, y0⟩, f0, hnew⟩ := put_int (k := k) zs[k] FP.out (by rw [List.length_take]; omega) (by rw [hrl.out]; omega)
      rw [← List.take_succ_eq_append_getElem hlt] at hnew
      have HN := hid hnew
      have HR : Hid ((rest.drop 1).length = zs.length - (k + 1)) := by show _ = _; rw [List.length_drop, hrl.out]; omega
      clear hc hnew FP hrl
      go_wp2
      go_roundg q
      case measure => omega
      case rel => exact ⟨k + 1, by omega, by go_num, BR.out.setCell (Nat.le_refl _) _, _, HR, HN⟩

set_option maxRecDepth 1000000 in
theorem eqIntS_same (ao bo : Option Addr) (zs : List Int) (cap cap' : Nat) (hl : zs.length ≤ 140737488355328) (w : World) (ha : IntsAt w ao zs) (hb : IntsAt w bo zs) :
    Calls Try.prog 35 #[.slice ao zs.length cap, .slice bo zs.length cap'] w fun e w' => e = .returned (.bool true) ∧ Below w.heap.size w w' := by
  have HA := hid ha
  have HB := hid hb
  clear ha hb
  go_enter Try.func35, Try.ntmps35
  go_wp2
  go_loopg [5] zs.length (fun q i wr => ∃ (k nq : Nat), wr = w.drewN nq ∧ k + q = zs.length ∧ i = .int .i64 k)
  case atStart => exact ⟨0, 0, rfl, by omega, rfl⟩
  case round =>
    obtain ⟨k, nq, rfl, hkg, rfl⟩ := hrel
    cases gk with
    | zero =>
      have hlt : ¬ (k : Int) < (zs.length : Int) := by omega
      go_wp2
      go_ret
      exact ⟨rfl, below_drewN (Below.refl _ _) _⟩
    | succ q =>
      have hlt : k < zs.length := by omega
      have hlt' : (k : Int) < (zs.length : Int) := by omega
      have hne : zs ≠ [] := by intro e; rw [e] at hlt; simp at hlt
      obtain ⟨b, off, rfl, hc⟩ := HA.out hne
      obtain ⟨b', off', rfl, hc'⟩ := HB.out hne
      have x0 := hc k hlt
      have y0 := hc' k hlt
      clear hc hc'
      go_wp2
      go_quiet (fail)
      go_wp2
      go_roundg q
      case measure => omega
      case rel => exact ⟨k + 1, _, rfl, by omega, by go_num⟩

/-- numbers from m on -/
def countFrom (m n : Nat) : List Int := (List.range n).map fun i => ((m + i : Nat) : Int)
theorem countFrom_length (m n : Nat) : (countFrom m n).length = n := by simp [countFrom]
theorem countFrom_succ (m n : Nat) : countFrom m (n + 1) = countFrom m n ++ [((m + n : Nat) : Int)] := by simp [countFrom, List.range_succ]

set_option maxRecDepth 1000000 in
set_option maxHeartbeats 1000000 in
theorem markIntS_any (g : Nat) (zs : List Int) (cap m : Nat) (hm : m ≤ 10000000) (hl : zs.length ≤ 1048576) (w : World) (hb : BlockIs w g 3 (intCells zs)) :
    Calls Try.prog 37 #[.slice (some ⟨g, 0, none⟩) zs.length cap, .int .i64 m] w fun e w' => e = .returned (.int .i64 ((m + zs.length : Nat) : Int)) ∧ BlockIs w' g 3 (intCells (countFrom m zs.length)) ∧ w.grownBy w' (some g) := by
  have HB := hid hb
  clear hb
  go_enter Try.func37, Try.ntmps37
  go_wp2
  go_loopg [1, 5] zs.length (fun q y i wr => ∃ (k : Nat), k + q = zs.length ∧ i = .int .i64 k ∧ y = .int .i64 ((m + k : Nat) : Int) ∧ ∃ rest, Hid (rest.length = zs.length - k) ∧ Hid (BlockIs wr g 3 (intCells (countFrom m k) ++ rest)) ∧ Hid (w.grownBy wr (some g)))
  case atStart => exact ⟨0, by omega, rfl, rfl, intCells zs, by simp [Hid, intCells], HB, World.grownBy.refl _ _⟩
  case round =>
    obtain ⟨k, hkg, rfl, rfl, rest, hrl, FB, GR⟩ := hrel
    clear HB
    cases gk with
    | zero =>
      have hlt : ¬ (k : Int) < (zs.length : Int) := by omega
      obtain rfl : k = zs.length := by omega
      have HP : Hid (BlockIs wr g 3 (intCells (countFrom m zs.length))) := by
        have h0 : rest = [] := List.length_eq_zero_iff.1 (by rw [hrl.out]; omega)
        have := FB.out
        rw [h0, List.append_nil] at this
        exact this
      clear FB hrl
      go_wp2
      go_ret
      exact ⟨rfl, HP.out, GR.out⟩
    | succ q =>
      have hlt : k < zs.length := by omega
      have hlt' : (k : Int) < (zs.length : Int) := by omega
      obtain ⟨⟨y, y0⟩, f0, hnew⟩ := put_int (k := k) ((m + k : Nat) : Int) FB.out (countFrom_length m k) (by rw [hrl.out]; omega)
      rw [← countFrom_succ] at hnew
      have HN := hid hnew
      have HG := hid (GR.out.trans (grownBy_set wr g k (.int .i64 ((m + k : Nat) : Int))))
      have HR : Hid ((rest.drop 1).length = zs.length - (k + 1)) := by show _ = _; rw [List.length_drop, hrl.out]; omega
      obtain ⟨K, hK⟩ : ∃ K, m + k = K := ⟨_, rfl⟩
      have hKl : K ≤ 20000000 := by omega
      rw [hK] at HN HG ⊢
      clear hnew FB GR hrl
      go_wp2
      go_roundg q
      case measure => omega
      case rel => exact ⟨k + 1, by omega, by go_num, by rw [← show K + 1 = m + (k + 1) by omega]; go_num, _, HR, HN, HG⟩
end Go.Proofs.Ytfkknmhokiacaaa

namespace Go.Proofs.Ytfkknmhokiacaaa
open Go.RowKit

theorem toIntS_o (ao : Option Addr) (zs : List Int) (cap : Nat) (hl : zs.length ≤ 1048576) (w : World) (ha : IntsAt w ao zs) :
    Calls Try.prog 33 #[.slice ao zs.length cap] w fun e w' => ∃ g, e = .returned (.slice (some ⟨g, 0, none⟩) zs.length zs.length) ∧ w.heap.size ≤ g ∧ g < w'.heap.size ∧ BlockIs w' g 3 (intCells zs) ∧ Below w.heap.size w w' := by
  refine (toIntS_any ao zs cap hl w ha).mono ?_
  rintro e w' ⟨rfl, hk, hb⟩
  exact ⟨_, rfl, Nat.le_refl _, hk.lt, hk, hb⟩
theorem ints_of {w : World} {g : Nat} {t : TypeId} {zs : List Int} (h : BlockIs w g t (intCells zs)) : IntsAt w (some ⟨g, 0, none⟩) zs := intsAt_of (r := []) (by rw [List.append_nil]; exact h)
theorem markIntS_o (g : Nat) (zs : List Int) (cap m : Nat) (hm : m ≤ 10000000) (hl : zs.length ≤ 1048576) (w : World) (hb : BlockIs w g 3 (intCells zs)) :
    Calls Try.prog 37 #[.slice (some ⟨g, 0, none⟩) zs.length cap, .int .i64 m] w fun e w' => e = .returned (.int .i64 ((m + zs.length : Nat) : Int)) ∧ KeptBut g (g + 1) w w' ∧ Below g w w' := by
  refine (markIntS_any g zs cap m hm hl w hb).mono ?_
  rintro e w' ⟨rfl, _, hg⟩
  refine ⟨rfl, fun j t cs hj hbl => ?_, ⟨hg.os, hg.tape, hg.output, hg.size, fun k hk => hg.block k (Nat.lt_trans hk hb.lt) (fun e => ?_)⟩⟩
  · unfold BlockIs
    rw [hg.block j hbl.lt (fun e => hj (by simp at e; omega))]
    exact hbl
  · simp at e; omega
end Go.Proofs.Ytfkknmhokiacaaa

namespace Go.Proofs.Ytfkknmhokiacaaa
open Go.RowKit

def doAll (l : List FileD) : List ActD → List FileD × Nat
  | [] => (l, 0)
  | a :: r => match doAct l a with
    | none => (l, 0)
    | some o => ((doAll o r).1, (doAll o r).2 + 1)
theorem doTo_cons (l : List FileD) (a : ActD) (r : List ActD) : ∀ k, doTo l (a :: r) (k + 1) = (doAct l a).bind fun o => doTo o r k
  | 0 => by
    rw [doTo, doTo, Option.bind_some]
    simp [doTo]
  | k + 1 => by
    rw [doTo, doTo_cons l a r k, Option.bind_assoc]
    rfl
theorem doAll_eq {acts : List ActD} : ∀ {l o : List FileD} {i : Nat}, doTo l acts i = some o → i ≤ acts.length → (i = acts.length ∨ doTo l acts (i + 1) = none) → doAll l acts = (o, i) := by
  induction acts with
  | nil =>
    intro l o i h hi _
    obtain rfl : i = 0 := by simpa using hi
    cases h
    rfl
  | cons a r ih =>
    intro l o i h hi hor
    cases i with
    | zero =>
      cases h
      have h1 : doTo l (a :: r) 1 = none := hor.resolve_left (by simp)
      rw [doTo_cons] at h1
      cases hd : doAct l a with
      | none => simp [doAll, hd]
      | some o' => rw [hd] at h1; simp [doTo] at h1
    | succ i =>
      rw [doTo_cons] at h
      cases hd : doAct l a with
      | none => rw [hd] at h; cases h
      | some o' =>
        rw [hd, Option.bind_some] at h
        have := ih h (by simpa using hi) (by
          rcases hor with q | q
          · exact Or.inl (by simpa using q)
          · rw [doTo_cons, hd, Option.bind_some] at q; exact Or.inr q)
        simp [doAll, hd, this]
theorem doTo_small {l o : List FileD} {acts : List ActD} (hl : l.length ≤ 1048576) : ∀ {k : Nat}, doTo l acts k = some o → o.length ≤ 1048576
  | 0, h => by cases h; exact hl
  | k + 1, h => by
    rw [doTo] at h
    obtain ⟨o', _, h2⟩ := Option.bind_eq_some_iff.1 h
    split at h2
    · cases h2
    · have := (diskOk_iff.1 (doAct_right h2)).1; omega
theorem doAll_small {l : List FileD} {acts : List ActD} (hl : l.length ≤ 1048576) : (doAll l acts).1.length ≤ 1048576 := by
  induction acts generalizing l with
  | nil => exact hl
  | cons a r ih =>
    rw [doAll]
    cases hd : doAct l a with
    | none => exact hl
    | some o => have := (diskOk_iff.1 (doAct_right hd)).1; exact ih (by omega)
end Go.Proofs.Ytfkknmhokiacaaa

namespace Go.Proofs.Ytfkknmhokiacaaa
open Go.RowKit

set_option maxRecDepth 1000000 in
theorem l01In_any (x a b : Int) (w : World) :
    Calls Try.prog 54 #[.int .i64 x, .int .i64 a, .int .i64 b] w fun e w' => e = .returned (.bool (within x a b)) ∧ w' = w := by
  unfold within
  by_cases h1 : a ≤ x
  · by_cases h2 : x ≤ b
    · go_enter Try.func54, Try.ntmps54
      go_wp2
      go_ret
      exact ⟨by simp [h1, h2], rfl⟩
    · go_enter Try.func54, Try.ntmps54
      go_wp2
      go_ret
      exact ⟨by simp; omega, rfl⟩
  · go_enter Try.func54, Try.ntmps54
    go_wp2
    go_ret
    exact ⟨by simp; omega, rfl⟩

theorem l03Name_any (s : ByteArray) (w : World) :
    Calls Try.prog 58 #[.string s] w fun e w' => e = .returned (.bool (nameOk s)) ∧ w' = w := by
  have C := (show Hid _ from l01In_any s.size 1 8 w)
  go_enter Try.func58, Try.ntmps58
  go_wp2_with fail
  refine Calls.mono C.out ?_
  rintro e w1 ⟨rfl, hw⟩
  rw [hw]
  go_wp2
  go_ret
  exact ⟨rfl, rfl⟩

set_option maxRecDepth 1000000 in
set_option maxHeartbeats 1000000 in
theorem specDiskOk_any (ao : Option Addr) (l : List FileD) (cap : Nat) (hl : l.length ≤ 16777216) (w : World) (ha : FilesAt w ao l) :
    Calls Try.prog 57 #[.agg #[.slice ao l.length cap]] w fun e w' => e = .returned (.bool (diskOk l)) ∧ Below w.heap.size w w' := by
  have HA := (show Hid (FilesAt w ao l) from ha)
  clear ha
  by_cases h30 : (30 : Int) < (l.length : Int)
  · have hr : Hid (diskOk l = false) := by show _ = _; unfold diskOk; simp; omega
    go_enter Try.func57, Try.ntmps57
    go_wp2
    go_ret
    exact ⟨by rw [hr.out]; rfl, below_more (Below.refl _ w) _⟩
  · have HB := (show Hid _ from below_more (Below.refl w.heap.size w) (.cells #[.slice ao l.length cap] 26))
    have HX := (show Hid (BlockIs (w.alloc (.cells #[.slice ao l.length cap] 26)) w.heap.size 26 [.slice ao l.length cap]) from heap_alloc_new w _)
    go_enter Try.func57, Try.ntmps57
    go_wp2
    go_loopg [3, 4] l.length (fun g i _ wr => ∃ (k : Nat), k + g = l.length ∧ i = .int .i64 k ∧ Hid (Below w.heap.size w wr) ∧ Hid (BlockIs wr w.heap.size 26 [.slice ao l.length cap]) ∧ Hid (rightTo l k = true))
    case atStart => exact ⟨0, by omega, rfl, HB, HX, rfl⟩
    case round =>
      obtain ⟨k, hkg, rfl, BR, XR, RT⟩ := hrel
      clear HB HX
      have c0 := XR.out.cell (j := 0) rfl
      cases gk with
      | zero =>
        have hlt : ¬ (k : Int) < (l.length : Int) := by omega
        have hr : Hid (diskOk l = true) := by show _ = _; exact diskOk_of (by omega) (by rw [← RT.out, show k = l.length by omega])
        go_wp2
        go_ret
        exact ⟨by rw [hr.out]; rfl, BR.out⟩
      | succ g =>
        have hlt : k < l.length := by omega
        have hlt' : (k : Int) < (l.length : Int) := by omega
        have hne : l ≠ [] := by intro e; rw [e] at hlt; simp at hlt
        obtain ⟨b, off, rfl, hc⟩ := HA.out.on BR.out hne
        obtain ⟨x0, x1, x2⟩ := hc k hlt
        have hcc := hc
        clear hc
        have HC := (show Hid _ from hcc)
        clear hcc
        go_wp2
        generalize hW2 : wr.alloc (.cells #[.string l[k].name, .string l[k].text, .int .i64 l[k].kept] 36) = W2
        have hb2 : Below wr.heap.size wr W2 := by rw [← hW2]; exact below_more (Below.refl _ wr) _
        have hx2 : BlockIs W2 wr.heap.size 36 [.string l[k].name, .string l[k].text, .int .i64 l[k].kept] := by rw [← hW2]; exact heap_alloc_new wr _
        have n0 := hx2.cell (j := 0) rfl
        have n1 := hx2.cell (j := 1) rfl
        have n2 := hx2.cell (j := 2) rfl
        have XW := XR.out.on hb2 XR.out.lt
        have d0 := XW.cell (j := 0) rfl
        have B2 := (show Hid (Below w.heap.size w W2) from below_via BR.out hb2)
        have X2 := (show Hid _ from XW)
        have cN' := fun w => l03Name_any l[k].name w
        have cK' := fun w => l01In_any l[k].kept 0 l[k].text.size w
        clear hW2 hx2 c0 x0 x1 x2 XW
        cases hA : nameOk l[k].name with
        | false =>
          have hr : Hid (diskOk l = false) := not_diskOk hlt (by simp [fileOk, hA])
          rw [hA] at cN'
          have cN := (show Hid _ from cN')
          clear cN' cK' hA
          go_quiet (first | (go_at_call 58; refine Calls.quiet_of_same (cN.out _)) | fail)
          go_wp2
          go_ret
          exact ⟨by rw [hr.out]; rfl, below_drewN B2.out _⟩
        | true =>
          rw [hA] at cN'
          have cN := (show Hid _ from cN')
          clear cN'
          by_cases hB : (20000 : Int) < (l[k].text.size : Int)
          · have hF : ¬ l[k].text.size ≤ 20000 := by omega
            have hr : Hid (diskOk l = false) := not_diskOk hlt (by simp [fileOk, hF])
            clear hA cK'
            go_quiet (first | (go_at_call 58; refine Calls.quiet_of_same (cN.out _)) | fail)
            go_wp2
            go_ret
            exact ⟨by rw [hr.out]; rfl, below_drewN B2.out _⟩
          · have hB' : decide ((20000 : Int) < (l[k].text.size : Int)) = false := by simpa using hB
            cases hK : within l[k].kept 0 l[k].text.size with
            | false =>
              have hr : Hid (diskOk l = false) := not_diskOk hlt (by simp [fileOk, hK])
              rw [hK] at cK'
              have cK := (show Hid _ from cK')
              clear cK' hK hA
              go_quiet (first | (go_at_call 58; refine Calls.quiet_of_same (cN.out _)) | (go_at_call 54; refine Calls.quiet_of_same (cK.out _)) | fail)
              go_wp2
              go_ret
              exact ⟨by rw [hr.out]; rfl, below_drewN B2.out _⟩
            | true =>
              rw [hK] at cK'
              have cK := (show Hid _ from cK')
              clear cK'
              cases k with
              | zero =>
                have hF : l[0].text.size ≤ 20000 := by omega
                have HR : Hid (rightTo l 1 = true) := by show _ = _; rw [rightTo_step hlt]; simp [rightTo, fileOk, behind, hA, hK, hF]
                clear hK hA
                go_quiet (first | (go_at_call 58; refine Calls.quiet_of_same (cN.out _)) | (go_at_call 54; refine Calls.quiet_of_same (cK.out _)) | fail)
                go_wp2
                go_roundg g
                case measure => omega
                case rel => exact ⟨1, by omega, by go_num, below_drewN B2.out _, X2, HR⟩
              | succ j =>
                have hj : j < l.length := by omega
                have p0 : W2.cell? ⟨b, off + j * 3, none⟩ = some (.string l[j].name) := (hb2.cell (p := ⟨b, off + j * 3, none⟩) (World.block_lt_of_cell? wr _ (HC.out j hj).1)).trans (HC.out j hj).1
                have hpos : (0 : Int) < (((j + 1 : Nat)) : Int) := by omega
                have hsub : (((j + 1 : Nat)) : Int) - 1 = (j : Int) := by omega
                have hjl : (j : Int) < (l.length : Int) := by omega
                have hwj : IntKind.i64.wrap (j : Int) = (j : Int) := by rw [IntKind.wrap_i64]; omega
                cases hL : textLt l[j].name l[j + 1].name with
                | false =>
                  have hr : Hid (diskOk l = false) := not_diskOk hlt (by rw [behind_step hlt, hL]; simp)
                  have hL' : Op.bytesLess l[j].name.toList l[j + 1].name.toList = false := hL
                  clear hK hA hL
                  go_quiet (first | (go_at_call 58; refine Calls.quiet_of_same (cN.out _)) | (go_at_call 54; refine Calls.quiet_of_same (cK.out _)) | fail)
                  go_wp2
                  go_ret
                  exact ⟨by rw [hr.out]; rfl, below_drewN B2.out _⟩
                | true =>
                  have hF : l[j + 1].text.size ≤ 20000 := by omega
                  have HR : Hid (rightTo l (j + 1 + 1) = true) := by show _ = _; rw [rightTo_step hlt, RT.out, behind_step hlt, hL]; simp [fileOk, hA, hK, hF]
                  have hL' : Op.bytesLess l[j].name.toList l[j + 1].name.toList = true := hL
                  clear hK hA hL
                  go_quiet (first | (go_at_call 58; refine Calls.quiet_of_same (cN.out _)) | (go_at_call 54; refine Calls.quiet_of_same (cK.out _)) | fail)
                  go_wp2
                  go_roundg g
                  case measure => omega
                  case rel => exact ⟨j + 1 + 1, by omega, by go_num, below_drewN B2.out _, X2, HR⟩
end Go.Proofs.Ytfkknmhokiacaaa
