/-
  The walk of laws.markSegS: a row of the call's own is written over with marks.
-/
import Derived.Test.YtcmcmhiodkjflaaJoint1
import Derived.Test.YtcmcmhiodkjflaaJoint8
namespace Go.Proofs.Ytcmcmhiodkjflaa
open Go.RowKit

/-- the k-th mark from m on -/
def markSegD (m k : Nat) : SegD := ⟨((m + 4 * k : Nat) : Int), ((m + 4 * k + 1 : Nat) : Int), ((m + 4 * k + 2 : Nat) : Int), mtx (m + 4 * k + 3)⟩
def marksSeg (m n : Nat) : List SegD := (List.range n).map (markSegD m)
theorem marksSeg_length (m n : Nat) : (marksSeg m n).length = n := by simp [marksSeg]
theorem marksSeg_succ (m n : Nat) : marksSeg m (n + 1) = marksSeg m n ++ [markSegD m n] := by simp [marksSeg, List.range_succ]
/-- the cells with the first k marked -/
def markedSeg (m k : Nat) (l : List SegD) (r : List Value) : List Value := segCells (marksSeg m k) ++ (segCells (l.drop k) ++ r)
theorem markedSeg_all (m : Nat) (l : List SegD) (r : List Value) : markedSeg m l.length l r = segCells (marksSeg m l.length) ++ r := by
  simp [markedSeg, segCells]
theorem markedSeg_split (m k : Nat) (l : List SegD) (r : List Value) (hk : k < l.length) :
    markedSeg m k l r = segCells (marksSeg m k) ++ .int .i64 l[k].num :: .int .i64 l[k].ack :: .int .i64 l[k].flags :: .string l[k].body :: (segCells (l.drop (k + 1)) ++ r) := by
  rw [markedSeg, List.drop_eq_getElem_cons hk]
  rfl
theorem markedSeg_step (m k : Nat) (l : List SegD) (r : List Value) (hk : k < l.length) :
    ((((markedSeg m k l r).set (k * 4) (.int .i64 ((m + 4 * k : Nat) : Int))).set (k * 4 + 1) (.int .i64 ((m + 4 * k + 1 : Nat) : Int))).set (k * 4 + 2) (.int .i64 ((m + 4 * k + 2 : Nat) : Int))).set (k * 4 + 3) (.string (mtx (m + 4 * k + 3))) = markedSeg m (k + 1) l r := by
  have e3 := seg_sets (segCells (marksSeg m k)) (.int .i64 ((m + 4 * k : Nat) : Int)) (.int .i64 ((m + 4 * k + 1 : Nat) : Int)) (.int .i64 ((m + 4 * k + 2 : Nat) : Int)) (.string (mtx (m + 4 * k + 3))) (.int .i64 l[k].num) (.int .i64 l[k].ack) (.int .i64 l[k].flags) (.string l[k].body) (segCells (l.drop (k + 1)) ++ r)
  rw [segCells_length, marksSeg_length] at e3
  rw [markedSeg_split m k l r hk, e3, markedSeg, marksSeg_succ]
  simp [segCells, segEnc, markSegD]
theorem markedSeg_at (m k : Nat) (l : List SegD) (r : List Value) (hk : k < l.length) :
    (markedSeg m k l r)[k * 4]? = some (.int .i64 l[k].num) ∧ (markedSeg m k l r)[k * 4 + 1]? = some (.int .i64 l[k].ack) ∧ (markedSeg m k l r)[k * 4 + 2]? = some (.int .i64 l[k].flags) ∧ (markedSeg m k l r)[k * 4 + 3]? = some (.string l[k].body) := by
  have hlen : (segCells (marksSeg m k)).length = k * 4 := by rw [segCells_length, marksSeg_length]
  rw [markedSeg_split m k l r hk]
  refine ⟨?_, ?_, ?_, ?_⟩
  · rw [List.getElem?_append_right (by omega), hlen, Nat.sub_self]; rfl
  · rw [List.getElem?_append_right (by omega), hlen, show k * 4 + 1 - k * 4 = 1 by omega]; rfl
  · rw [List.getElem?_append_right (by omega), hlen, show k * 4 + 2 - k * 4 = 2 by omega]; rfl
  · rw [List.getElem?_append_right (by omega), hlen, show k * 4 + 3 - k * 4 = 3 by omega]; rfl

set_option maxRecDepth 1000000 in
set_option maxHeartbeats 1000000 in
theorem markSegS_any (g : Nat) (l : List SegD) (cap m : Nat) (r : List Value) (hm : m ≤ 10000000) (hl : l.length ≤ 1048576) (w : World) (hb : BlockIs w g 42 (segCells l ++ r)) :
    Calls Try.prog 12 #[.slice (some ⟨g, 0, none⟩) l.length cap, .int .i64 m] w fun e w' => e = .returned (.int .i64 ((m + 4 * l.length : Nat) : Int)) ∧ BlockIs w' g 42 (segCells (marksSeg m l.length) ++ r) ∧ w.grownBy w' (some g) := by
  have HB : Hid (BlockIs w g 42 (markedSeg m 0 l r)) := hb
  clear hb
  go_enter Try.func12, Try.ntmps12
  go_wp2
  go_loopg [1, 5] l.length (fun q y i wr => ∃ (k : Nat), k + q = l.length ∧ i = .int .i64 k ∧ y = .int .i64 ((m + 4 * k : Nat) : Int) ∧ Hid (BlockIs wr g 42 (markedSeg m k l r)) ∧ Hid (w.grownBy wr (some g)))
  case atStart => exact ⟨0, by omega, rfl, rfl, HB, World.grownBy.refl _ _⟩
  case round =>
    obtain ⟨k, hkg, rfl, rfl, FB, GR⟩ := hrel
    clear HB
    cases gk with
    | zero =>
      have hlt : ¬ (k : Int) < (l.length : Int) := by omega
      obtain rfl : k = l.length := by omega
      rw [markedSeg_all] at FB
      go_wp2
      go_ret
      exact ⟨rfl, FB.out, GR.out⟩
    | succ q =>
      have hlt : k < l.length := by omega
      have hlt' : (k : Int) < (l.length : Int) := by omega
      have hat := hid (markedSeg_at m k l r hlt)
      have hstep := hid (markedSeg_step m k l r hlt)
      obtain ⟨K, hK⟩ : ∃ K, m + 4 * k = K := ⟨_, rfl⟩
      have hKl : K ≤ 20000000 := by omega
      rw [hK] at hstep ⊢
      have x0 : (wr).cell? ⟨g, k * 4, none⟩ = some (.int .i64 l[k].num) := (FB.out).cell (hat.out.1)
      have f0 : (wr).frozen? ⟨g, k * 4, none⟩ = false := (FB.out).thaw _
      have x1 : ((wr).setCell ⟨g, k * 4, none⟩ (.int .i64 ((K : Int)))).cell? ⟨g, k * 4 + 1, none⟩ = some (.int .i64 l[k].ack) := ((FB.out).set (k * 4) (.int .i64 ((K : Int)))).cell (seg_set_other (hat.out.2.1) (by omega))
      have f1 : ((wr).setCell ⟨g, k * 4, none⟩ (.int .i64 ((K : Int)))).frozen? ⟨g, k * 4 + 1, none⟩ = false := ((FB.out).set (k * 4) (.int .i64 ((K : Int)))).thaw _
      have x2 : (((wr).setCell ⟨g, k * 4, none⟩ (.int .i64 ((K : Int)))).setCell ⟨g, k * 4 + 1, none⟩ (.int .i64 ((K : Int) + 1))).cell? ⟨g, k * 4 + 2, none⟩ = some (.int .i64 l[k].flags) := (((FB.out).set (k * 4) (.int .i64 ((K : Int)))).set (k * 4 + 1) (.int .i64 ((K : Int) + 1))).cell (seg_set_other (seg_set_other (hat.out.2.2.1) (by omega)) (by omega))
      have f2 : (((wr).setCell ⟨g, k * 4, none⟩ (.int .i64 ((K : Int)))).setCell ⟨g, k * 4 + 1, none⟩ (.int .i64 ((K : Int) + 1))).frozen? ⟨g, k * 4 + 2, none⟩ = false := (((FB.out).set (k * 4) (.int .i64 ((K : Int)))).set (k * 4 + 1) (.int .i64 ((K : Int) + 1))).thaw _
      have D3 := hid ((((FB.out).set (k * 4) (.int .i64 ((K : Int)))).set (k * 4 + 1) (.int .i64 ((K : Int) + 1))).set (k * 4 + 2) (.int .i64 ((K : Int) + 2)))
      have G3 := hid ((((GR.out).trans (grownBy_set _ g (k * 4) (.int .i64 ((K : Int))))).trans (grownBy_set _ g (k * 4 + 1) (.int .i64 ((K : Int) + 1)))).trans (grownBy_set _ g (k * 4 + 2) (.int .i64 ((K : Int) + 2))))
      have C3 := hid (fun w => markText_any (K + 3) (by omega) w)
      go_wp2_with fail
      refine (C3.out _).mono ?_
      rintro e w3 ⟨rfl, b3⟩
      have E3 := D3.out.on b3 D3.out.lt
      have x3 : w3.cell? ⟨g, k * 4 + 3, none⟩ = some (.string l[k].body) := E3.cell (seg_set_other (seg_set_other (seg_set_other (hat.out.2.2.2) (by omega)) (by omega)) (by omega))
      have f3 := E3.thaw (k * 4 + 3)
      have H3 := hid (G3.out.trans (grown_of_below b3 (some g)))
      have E3h := hid E3
      clear b3 E3 D3 G3 C3
      have DL := hid (E3h.out.set (k * 4 + 3) (.string (mtx (K + 3))))
      have GL := hid (H3.out.trans (grownBy_set _ g (k * 4 + 3) (.string (mtx (K + 3)))))
      rw [show ((K : Int) + 2) = ((K + 2 : Nat) : Int) by omega] at DL
      rw [show ((K : Int) + 1) = ((K + 1 : Nat) : Int) by omega] at DL
      rw [hstep.out] at DL
      clear hat hstep FB GR
      go_wp2
      go_roundg q
      case measure => omega
      case rel => exact ⟨k + 1, by omega, by go_num, by rw [← show K + 4 = m + 4 * (k + 1) by omega]; go_num, DL, GL⟩
end Go.Proofs.Ytcmcmhiodkjflaa
