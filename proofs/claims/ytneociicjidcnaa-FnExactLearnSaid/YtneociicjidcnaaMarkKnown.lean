/-
  The walk of laws.markKnownS: a row of the call's own is written over with marks.
-/
import Derived.Test.YtneociicjidcnaaDataKnown
import Derived.Test.YtneociicjidcnaaPlainRows
import Derived.Test.YtneociicjidcnaaRows
namespace Go.Proofs.Ytneociicjidcnaa
open Go.RowKit

/-- the k-th mark from m on -/
def markKnownD (m k : Nat) : KnownD := ⟨((m + 2 * k : Nat) : Int), ((m + 2 * k + 1 : Nat) : Int)⟩
def marksKnown (m n : Nat) : List KnownD := (List.range n).map (markKnownD m)
theorem marksKnown_length (m n : Nat) : (marksKnown m n).length = n := by simp [marksKnown]
theorem marksKnown_succ (m n : Nat) : marksKnown m (n + 1) = marksKnown m n ++ [markKnownD m n] := by simp [marksKnown, List.range_succ]
/-- the cells with the first k marked -/
def markedKnown (p : List Value) (m k : Nat) (l : List KnownD) (r : List Value) : List Value := p ++ (knownCells (marksKnown m k) ++ (knownCells (l.drop k) ++ r))
theorem markedKnown_all (p : List Value) (m : Nat) (l : List KnownD) (r : List Value) : markedKnown p m l.length l r = p ++ (knownCells (marksKnown m l.length) ++ r) := by
  simp [markedKnown, knownCells]
theorem markedKnown_split (p : List Value) (m k : Nat) (l : List KnownD) (r : List Value) (hk : k < l.length) :
    markedKnown p m k l r = (p ++ knownCells (marksKnown m k)) ++ .int .i64 l[k].addr :: .int .i64 l[k].card :: (knownCells (l.drop (k + 1)) ++ r) := by
  rw [markedKnown, List.drop_eq_getElem_cons hk, List.append_assoc]
  rfl
theorem markedKnown_step (p : List Value) (m k : Nat) (l : List KnownD) (r : List Value) (hk : k < l.length) :
    ((markedKnown p m k l r).set (p.length + k * 2) (.int .i64 ((m + 2 * k : Nat) : Int))).set (p.length + k * 2 + 1) (.int .i64 ((m + 2 * k + 1 : Nat) : Int)) = markedKnown p m (k + 1) l r := by
  have e3 := known_sets (p ++ knownCells (marksKnown m k)) (.int .i64 ((m + 2 * k : Nat) : Int)) (.int .i64 ((m + 2 * k + 1 : Nat) : Int)) (.int .i64 l[k].addr) (.int .i64 l[k].card) (knownCells (l.drop (k + 1)) ++ r)
  rw [List.length_append, knownCells_length, marksKnown_length] at e3
  rw [markedKnown_split p m k l r hk, e3, markedKnown, marksKnown_succ]
  simp [knownCells, knownEnc, markKnownD]
theorem markedKnown_at (p : List Value) (m k : Nat) (l : List KnownD) (r : List Value) (hk : k < l.length) :
    (markedKnown p m k l r)[p.length + k * 2]? = some (.int .i64 l[k].addr) ∧ (markedKnown p m k l r)[p.length + k * 2 + 1]? = some (.int .i64 l[k].card) := by
  have hlen : (p ++ knownCells (marksKnown m k)).length = p.length + k * 2 := by rw [List.length_append, knownCells_length, marksKnown_length]
  rw [markedKnown_split p m k l r hk]
  refine ⟨?_, ?_⟩
  · rw [List.getElem?_append_right (by omega), hlen, Nat.sub_self]; rfl
  · rw [List.getElem?_append_right (by omega), hlen, show p.length + k * 2 + 1 - (p.length + k * 2) = 1 by omega]; rfl

set_option maxRecDepth 1000000 in
set_option maxHeartbeats 1000000 in
theorem markKnownS_off (g : Nat) (p : List Value) (l : List KnownD) (cap m : Nat) (r : List Value) (hm : m ≤ 10000000) (hl : l.length ≤ 1048576) (w : World) (hb : BlockIs w g 30 (p ++ (knownCells l ++ r))) :
    Calls Try.prog 18 #[.slice (some ⟨g, p.length, none⟩) l.length cap, .int .i64 m] w fun e w' => e = .returned (.int .i64 ((m + 2 * l.length : Nat) : Int)) ∧ BlockIs w' g 30 (p ++ (knownCells (marksKnown m l.length) ++ r)) ∧ w.grownBy w' (some g) := by
  have HB : Hid (BlockIs w g 30 (markedKnown p m 0 l r)) := hb
  clear hb
  go_enter Try.func18, Try.ntmps18
  go_wp2
  go_loopg [1, 5] l.length (fun q y i wr => ∃ (k : Nat), k + q = l.length ∧ i = .int .i64 k ∧ y = .int .i64 ((m + 2 * k : Nat) : Int) ∧ Hid (BlockIs wr g 30 (markedKnown p m k l r)) ∧ Hid (w.grownBy wr (some g)))
  case atStart => exact ⟨0, by omega, rfl, rfl, HB, World.grownBy.refl _ _⟩
  case round =>
    obtain ⟨k, hkg, rfl, rfl, FB, GR⟩ := hrel
    clear HB
    cases gk with
    | zero =>
      have hlt : ¬ (k : Int) < (l.length : Int) := by omega
      obtain rfl : k = l.length := by omega
      rw [markedKnown_all] at FB
      go_wp2
      go_ret
      exact ⟨rfl, FB.out, GR.out⟩
    | succ q =>
      have hlt : k < l.length := by omega
      have hlt' : (k : Int) < (l.length : Int) := by omega
      have hat := hid (markedKnown_at p m k l r hlt)
      have hstep := hid (markedKnown_step p m k l r hlt)
      obtain ⟨K, hK⟩ : ∃ K, m + 2 * k = K := ⟨_, rfl⟩
      have hKl : K ≤ 20000000 := by omega
      rw [hK] at hstep ⊢
      have x0 : (wr).cell? ⟨g, p.length + k * 2, none⟩ = some (.int .i64 l[k].addr) := (FB.out).cell (hat.out.1)
      have f0 : (wr).frozen? ⟨g, p.length + k * 2, none⟩ = false := (FB.out).thaw _
      have x1 : ((wr).setCell ⟨g, p.length + k * 2, none⟩ (.int .i64 ((K : Int)))).cell? ⟨g, p.length + k * 2 + 1, none⟩ = some (.int .i64 l[k].card) := ((FB.out).set (p.length + k * 2) (.int .i64 ((K : Int)))).cell (known_set_other (hat.out.2) (by omega))
      have f1 : ((wr).setCell ⟨g, p.length + k * 2, none⟩ (.int .i64 ((K : Int)))).frozen? ⟨g, p.length + k * 2 + 1, none⟩ = false := ((FB.out).set (p.length + k * 2) (.int .i64 ((K : Int)))).thaw _
      have DL := hid (((FB.out).set (p.length + k * 2) (.int .i64 ((K : Int)))).set (p.length + k * 2 + 1) (.int .i64 ((K : Int) + 1)))
      have GL := hid (((GR.out).trans (grownBy_set _ g (p.length + k * 2) (.int .i64 ((K : Int))))).trans (grownBy_set _ g (p.length + k * 2 + 1) (.int .i64 ((K : Int) + 1))))
      rw [show ((K : Int) + 1) = ((K + 1 : Nat) : Int) by omega] at DL
      rw [hstep.out] at DL
      clear hat hstep FB GR
      go_wp2
      go_roundg q
      case measure => omega
      case rel => exact ⟨k + 1, by omega, by go_num, by rw [← show K + 2 = m + 2 * (k + 1) by omega]; go_num, DL, GL⟩
end Go.Proofs.Ytneociicjidcnaa
