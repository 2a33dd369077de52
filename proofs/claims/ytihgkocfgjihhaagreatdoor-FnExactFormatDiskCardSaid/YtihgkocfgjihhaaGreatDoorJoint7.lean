/-
  Rows of the call's own between two sizes of memory, and the helpers of the exact laws in one form.
  The walk of laws.markIntS: a list of numbers written over.
-/
import Derived.Test.YtihgkocfgjihhaaGreatDoorJoint5
import Derived.Test.YtihgkocfgjihhaaGreatDoorJoint6
import Derived.Test.YtihgkocfgjihhaaGreatDoorJoint1
namespace Go.Proofs.YtihgkocfgjihhaaGreatDoor
open Go.RowKit

/-- a row of the call's own, made between two sizes of memory -/
def OwnAt (w : World) (t : TypeId) (cs : List Value) (n : Nat) (va : Option Addr) (lo hi : Nat) : Prop :=
  n = 0 ∨ ∃ g r, va = some ⟨g, 0, none⟩ ∧ lo ≤ g ∧ g < hi ∧ BlockIs w g t (cs ++ r)
theorem OwnAt.on {w w' : World} {t : TypeId} {cs : List Value} {n : Nat} {va : Option Addr} {lo hi : Nat} (h : OwnAt w t cs n va lo hi) (hb : Below w.heap.size w w') : OwnAt w' t cs n va lo hi :=
  h.imp id fun ⟨g, r, a, b, c, d⟩ => ⟨g, r, a, b, c, d.on hb d.lt⟩
theorem OwnAt.down {w : World} {t : TypeId} {cs : List Value} {n : Nat} {va : Option Addr} {lo hi lo' hi' : Nat} (h : OwnAt w t cs n va lo hi) (h1 : lo' ≤ lo) (h2 : hi ≤ hi') : OwnAt w t cs n va lo' hi' :=
  h.imp id fun ⟨g, r, a, b, c, d⟩ => ⟨g, r, a, Nat.le_trans h1 b, Nat.lt_of_lt_of_le c h2, d⟩
/-- nothing but blocks between two sizes has turned -/
def KeptBut (lo hi : Nat) (w w' : World) : Prop := ∀ j t cs, ¬ (lo ≤ j ∧ j < hi) → BlockIs w j t cs → BlockIs w' j t cs
theorem OwnAt.kept {w w' : World} {t : TypeId} {cs : List Value} {n : Nat} {va : Option Addr} {lo hi lo2 hi2 : Nat} (h : OwnAt w t cs n va lo hi) (hk : KeptBut lo2 hi2 w w') (ho : hi ≤ lo2 ∨ hi2 ≤ lo) : OwnAt w' t cs n va lo hi :=
  h.imp id fun ⟨g, r, a, b, c, d⟩ => ⟨g, r, a, b, c, hk _ _ _ (by omega) d⟩
theorem BlockIs.kept {w w' : World} {g lo hi : Nat} {t : TypeId} {cs : List Value} (h : BlockIs w g t cs) (hk : KeptBut lo hi w w') (ho : g < lo ∨ hi ≤ g) : BlockIs w' g t cs := hk _ _ _ (by omega) h
theorem OwnAt.files {w : World} {l : List FileD} {va : Option Addr} {lo hi : Nat} (h : OwnAt w 82 (fileCells l) l.length va lo hi) : FilesAt w va l := by
  rcases h with h | ⟨g, r, rfl, _, _, h⟩
  · intro h0
    exact absurd (List.length_eq_zero_iff.1 h) h0
  · exact filesAt_of h
theorem own_of_row {w : World} {base : Nat} {v : Value} {l : List FileD} (h : w.ownsRow base 82 3 v l.length (fileCells l)) : ∃ va vc, v = .slice va l.length vc ∧ OwnAt w 82 (fileCells l) l.length va base w.heap.size := by
  obtain ⟨va, vc, rfl, _, (h0 | ⟨g, r, rfl, hb, hk⟩)⟩ := own_files h
  · exact ⟨va, vc, rfl, Or.inl (by rw [h0]; rfl)⟩
  · exact ⟨_, vc, rfl, Or.inr ⟨g, r, rfl, hb, hk.lt, hk⟩⟩
theorem own_of_block {w : World} {base g : Nat} {l : List FileD} (hb : base ≤ g) (hk : BlockIs w g 82 (fileCells l)) : OwnAt w 82 (fileCells l) l.length (some ⟨g, 0, none⟩) base w.heap.size :=
  Or.inr ⟨g, [], rfl, hb, hk.lt, by rw [List.append_nil]; exact hk⟩

theorem toDisk_o (ao : Option Addr) (l : List FileD) (cap : Nat) (hl : l.length ≤ 1048576) (w : World) (ha : FilesAt w ao l) :
    Calls Tryz.prog 43 #[.agg #[.slice ao l.length cap]] w fun e w' => ∃ va vc, e = .returned (.agg #[.slice va l.length vc]) ∧ OwnAt w' 82 (fileCells l) l.length va w.heap.size w'.heap.size ∧ Below w.heap.size w w' := by
  refine (toDisk_any ao l cap hl w ha).mono ?_
  rintro e w' ⟨g, hg, rfl, hk, hb⟩
  exact ⟨_, _, rfl, own_of_block hg hk, hb⟩

theorem eqDisk_o (va vb : Option Addr) (l : List FileD) (c c' : Nat) (hl : l.length ≤ 1048576) (w : World) (ha : FilesAt w va l) (hb : FilesAt w vb l) :
    Calls Tryz.prog 8 #[.agg #[.slice va l.length c], .agg #[.slice vb l.length c']] w fun e w' => e = .returned (.bool true) ∧ Below w.heap.size w w' :=
  eqDisk_same va vb l c c' (by omega) w ha hb

theorem markDisk_o (m : Nat) (va : Option Addr) (vc : Nat) (l : List FileD) (lo hi : Nat) (hm : m ≤ 10000000) (hl : l.length ≤ 1048576) (w : World) (hw : lo ≤ w.heap.size) (h : OwnAt w 82 (fileCells l) l.length va lo hi) :
    Calls Tryz.prog 11 #[.agg #[.slice va l.length vc], .int .i64 m] w fun e w' => e = .returned (.int .i64 ((m + 3 * l.length : Nat) : Int)) ∧ FilesAt w' va (marksF m l.length) ∧ KeptBut lo hi w w' ∧ Below lo w w' := by
  have h' : l = [] ∨ ∃ g r, va = some ⟨g, 0, none⟩ ∧ lo ≤ g ∧ BlockIs w g 82 (fileCells l ++ r) :=
    h.imp (fun e => List.length_eq_zero_iff.1 e) fun ⟨g, r, a, b, _, d⟩ => ⟨g, r, a, b, d⟩
  refine (markDisk_own lo m va vc l hm hl w hw h').mono ?_
  rintro e w' ⟨rfl, hf, hb, hk⟩
  refine ⟨rfl, hf, fun j t cs hj hbl => hk j t cs (fun g hg hne => ?_) hbl, hb⟩
  rcases h with h0 | ⟨g', r, hv, h1, h2, _⟩
  · exact absurd (List.length_eq_zero_iff.1 h0) hne
  · rw [hg] at hv
    cases hv
    intro e
    exact hj ⟨by omega, by omega⟩
end Go.Proofs.YtihgkocfgjihhaaGreatDoor

namespace Go.Proofs.YtihgkocfgjihhaaGreatDoor
open Go.RowKit

/-- numbers from m on -/
def countFrom (m n : Nat) : List Int := (List.range n).map fun i => ((m + i : Nat) : Int)
theorem countFrom_length (m n : Nat) : (countFrom m n).length = n := by simp [countFrom]
theorem countFrom_succ (m n : Nat) : countFrom m (n + 1) = countFrom m n ++ [((m + n : Nat) : Int)] := by simp [countFrom, List.range_succ]

set_option maxRecDepth 1000000 in
set_option maxHeartbeats 1000000 in
theorem markIntS_any (g : Nat) (zs : List Int) (cap m : Nat) (hm : m ≤ 10000000) (hl : zs.length ≤ 1048576) (w : World) (hb : BlockIs w g 3 (intCells zs)) :
    Calls Tryz.prog 10 #[.slice (some ⟨g, 0, none⟩) zs.length cap, .int .i64 m] w fun e w' => e = .returned (.int .i64 ((m + zs.length : Nat) : Int)) ∧ BlockIs w' g 3 (intCells (countFrom m zs.length)) ∧ w.grownBy w' (some g) := by
  have HB := hid hb
  clear hb
  go_enter Tryz.func10, Tryz.ntmps10
  go_wp2
  go_loopg [1, 5] zs.length (fun q y i wr => ∃ (k : Nat), k + q = zs.length ∧ i = .int .i64 k ∧ y = .int .i64 ((m + k : Nat) : Int) ∧ ∃ rest, Hid (rest.length = zs.length - k) ∧ Hid (BlockIs wr g 3 (intCells (countFrom m k) ++ rest)) ∧ Hid (w.grownBy wr (some g)))
  case atStart => exact ⟨0, by omega, rfl, rfl, intCells zs, by simp [Hid, intCells], HB, World.grownBy.refl _ _⟩
  case round =>
    obtain ⟨k, hkg, rfl, rfl, rest, hrl, FB, GR⟩ := hrel
    clear HB
    cases gk with
    | zero =>
      have hlt : ¬ (k : Int) < (zs.length : Int) := by omega
      obtain rfl : k = zs.length := by omega
      have HP : Hid (BlockIs wr g 3 (intCells (countFrom m zs.length))) := by
        have h0 : rest = [] := List.length_eq_zero_iff.1 (by rw [hrl.out]; omega)
        have := FB.out
        rw [h0, List.append_nil] at this
        exact this
      clear FB hrl
      go_wp2
      go_ret
      exact ⟨rfl, HP.out, GR.out⟩
    | succ q =>
      have hlt : k < zs.length := by omega
      have hlt' : (k : Int) < (zs.length : Int) := by omega
      obtain ⟨⟨y, y0⟩, f0, hnew⟩ := put_int (k := k) ((m + k : Nat) : Int) FB.out (countFrom_length m k) (by rw [hrl.out]; omega)
      rw [← countFrom_succ] at hnew
      have HN := hid hnew
      have HG := hid (GR.out.trans (grownBy_set wr g k (.int .i64 ((m + k : Nat) : Int))))
      have HR : Hid ((rest.drop 1).length = zs.length - (k + 1)) := by show _ = _; rw [List.length_drop, hrl.out]; omega
      obtain ⟨K, hK⟩ : ∃ K, m + k = K := ⟨_, rfl⟩
      have hKl : K ≤ 20000000 := by omega
      rw [hK] at HN HG ⊢
      clear hnew FB GR hrl
      go_wp2
      go_roundg q
      case measure => omega
      case rel => exact ⟨k + 1, by omega, by go_num, by rw [← show K + 1 = m + (k + 1) by omega]; go_num, _, HR, HN, HG⟩
end Go.Proofs.YtihgkocfgjihhaaGreatDoor
