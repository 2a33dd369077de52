/-
  The walk of laws.markLateS: a row of the call's own is written over with marks.
-/
import Derived.Test.YtngcldjkpcmidaaJoint1
import Derived.Test.YtngcldjkpcmidaaJoint8
namespace Go.Proofs.Ytngcldjkpcmidaa
open Go.RowKit

/-- the k-th mark from m on -/
def markLateD (m k : Nat) : LateD := ⟨((m + 2 * k : Nat) : Int), mtx (m + 2 * k + 1)⟩
def marksLate (m n : Nat) : List LateD := (List.range n).map (markLateD m)
theorem marksLate_length (m n : Nat) : (marksLate m n).length = n := by simp [marksLate]
theorem marksLate_succ (m n : Nat) : marksLate m (n + 1) = marksLate m n ++ [markLateD m n] := by simp [marksLate, List.range_succ]
/-- the cells with the first k marked -/
def markedLate (m k : Nat) (l : List LateD) (r : List Value) : List Value := lateCells (marksLate m k) ++ (lateCells (l.drop k) ++ r)
theorem markedLate_all (m : Nat) (l : List LateD) (r : List Value) : markedLate m l.length l r = lateCells (marksLate m l.length) ++ r := by
  simp [markedLate, lateCells]
theorem markedLate_split (m k : Nat) (l : List LateD) (r : List Value) (hk : k < l.length) :
    markedLate m k l r = lateCells (marksLate m k) ++ .int .i64 l[k].num :: .string l[k].text :: (lateCells (l.drop (k + 1)) ++ r) := by
  rw [markedLate, List.drop_eq_getElem_cons hk]
  rfl
theorem markedLate_step (m k : Nat) (l : List LateD) (r : List Value) (hk : k < l.length) :
    ((markedLate m k l r).set (k * 2) (.int .i64 ((m + 2 * k : Nat) : Int))).set (k * 2 + 1) (.string (mtx (m + 2 * k + 1))) = markedLate m (k + 1) l r := by
  have e3 := late_sets (lateCells (marksLate m k)) (.int .i64 ((m + 2 * k : Nat) : Int)) (.string (mtx (m + 2 * k + 1))) (.int .i64 l[k].num) (.string l[k].text) (lateCells (l.drop (k + 1)) ++ r)
  rw [lateCells_length, marksLate_length] at e3
  rw [markedLate_split m k l r hk, e3, markedLate, marksLate_succ]
  simp [lateCells, lateEnc, markLateD]
theorem markedLate_at (m k : Nat) (l : List LateD) (r : List Value) (hk : k < l.length) :
    (markedLate m k l r)[k * 2]? = some (.int .i64 l[k].num) ∧ (markedLate m k l r)[k * 2 + 1]? = some (.string l[k].text) := by
  have hlen : (lateCells (marksLate m k)).length = k * 2 := by rw [lateCells_length, marksLate_length]
  rw [markedLate_split m k l r hk]
  refine ⟨?_, ?_⟩
  · rw [List.getElem?_append_right (by omega), hlen, Nat.sub_self]; rfl
  · rw [List.getElem?_append_right (by omega), hlen, show k * 2 + 1 - k * 2 = 1 by omega]; rfl

set_option maxRecDepth 1000000 in
set_option maxHeartbeats 1000000 in
theorem markLateS_any (g : Nat) (l : List LateD) (cap m : Nat) (r : List Value) (hm : m ≤ 10000000) (hl : l.length ≤ 1048576) (w : World) (hb : BlockIs w g 61 (lateCells l ++ r)) :
    Calls Try.prog 30 #[.slice (some ⟨g, 0, none⟩) l.length cap, .int .i64 m] w fun e w' => e = .returned (.int .i64 ((m + 2 * l.length : Nat) : Int)) ∧ BlockIs w' g 61 (lateCells (marksLate m l.length) ++ r) ∧ w.grownBy w' (some g) := by
  have HB : Hid (BlockIs w g 61 (markedLate m 0 l r)) := hb
  clear hb
  go_enter Try.func30, Try.ntmps30
  go_wp2
  go_loopg [1, 5] l.length (fun q y i wr => ∃ (k : Nat), k + q = l.length ∧ i = .int .i64 k ∧ y = .int .i64 ((m + 2 * k : Nat) : Int) ∧ Hid (BlockIs wr g 61 (markedLate m k l r)) ∧ Hid (w.grownBy wr (some g)))
  case atStart => exact ⟨0, by omega, rfl, rfl, HB, World.grownBy.refl _ _⟩
  case round =>
    obtain ⟨k, hkg, rfl, rfl, FB, GR⟩ := hrel
    clear HB
    cases gk with
    | zero =>
      have hlt : ¬ (k : Int) < (l.length : Int) := by omega
      obtain rfl : k = l.length := by omega
      rw [markedLate_all] at FB
      go_wp2
      go_ret
      exact ⟨rfl, FB.out, GR.out⟩
    | succ q =>
      have hlt : k < l.length := by omega
      have hlt' : (k : Int) < (l.length : Int) := by omega
      have hat := hid (markedLate_at m k l r hlt)
      have hstep := hid (markedLate_step m k l r hlt)
      obtain ⟨K, hK⟩ : ∃ K, m + 2 * k = K := ⟨_, rfl⟩
      have hKl : K ≤ 20000000 := by omega
      rw [hK] at hstep ⊢
      have x0 : (wr).cell? ⟨g, k * 2, none⟩ = some (.int .i64 l[k].num) := (FB.out).cell (hat.out.1)
      have f0 : (wr).frozen? ⟨g, k * 2, none⟩ = false := (FB.out).thaw _
      have D1 := hid ((FB.out).set (k * 2) (.int .i64 ((K : Int))))
      have G1 := hid ((GR.out).trans (grownBy_set _ g (k * 2) (.int .i64 ((K : Int)))))
      have C1 := hid (fun w => markText_any (K + 1) (by omega) w)
      go_wp2_with fail
      refine (C1.out _).mono ?_
      rintro e w1 ⟨rfl, b1⟩
      have E1 := D1.out.on b1 D1.out.lt
      have x1 : w1.cell? ⟨g, k * 2 + 1, none⟩ = some (.string l[k].text) := E1.cell (late_set_other (hat.out.2) (by omega))
      have f1 := E1.thaw (k * 2 + 1)
      have H1 := hid (G1.out.trans (grown_of_below b1 (some g)))
      have E1h := hid E1
      clear b1 E1 D1 G1 C1
      have DL := hid (E1h.out.set (k * 2 + 1) (.string (mtx (K + 1))))
      have GL := hid (H1.out.trans (grownBy_set _ g (k * 2 + 1) (.string (mtx (K + 1)))))
      rw [hstep.out] at DL
      clear hat hstep FB GR
      go_wp2
      go_roundg q
      case measure => omega
      case rel => exact ⟨k + 1, by omega, by go_num, by rw [← show K + 2 = m + 2 * (k + 1) by omega]; go_num, DL, GL⟩
end Go.Proofs.Ytngcldjkpcmidaa
