/-
  The walk of laws.markDgramS: a row of the call's own is written over with marks.
-/
import Derived.Test.YtpknpodmoeaggabDataDgram
import Derived.Test.YtpknpodmoeaggabMarkText
namespace Go.Proofs.Ytpknpodmoeaggab
open Go.RowKit

/-- a flag's mark -/
def m3 (n : Nat) : Bool := decide (n % 3 = 0)
theorem m3_of (K c : Nat) : (((K : Int) + c) % 3 == 0) = m3 (K + c) := by
  by_cases h : (K + c) % 3 = 0
  · have h2 : ((K : Int) + c) % 3 = 0 := by omega
    simp [m3, h, h2]
  · have h2 : ¬ ((K : Int) + c) % 3 = 0 := by omega
    simp [m3, h, h2]
/-- the k-th mark from m on -/
def markDgramD (m k : Nat) : DgramD := ⟨((m + 6 * k : Nat) : Int), ((m + 6 * k + 1 : Nat) : Int), ((m + 6 * k + 2 : Nat) : Int), ((m + 6 * k + 3 : Nat) : Int), m3 (m + 6 * k + 4), mtx (m + 6 * k + 5)⟩
def marksDgram (m n : Nat) : List DgramD := (List.range n).map (markDgramD m)
theorem marksDgram_length (m n : Nat) : (marksDgram m n).length = n := by simp [marksDgram]
theorem marksDgram_succ (m n : Nat) : marksDgram m (n + 1) = marksDgram m n ++ [markDgramD m n] := by simp [marksDgram, List.range_succ]
/-- the cells with the first k marked -/
def markedDgram (m k : Nat) (l : List DgramD) (r : List Value) : List Value := dgramCells (marksDgram m k) ++ (dgramCells (l.drop k) ++ r)
theorem markedDgram_all (m : Nat) (l : List DgramD) (r : List Value) : markedDgram m l.length l r = dgramCells (marksDgram m l.length) ++ r := by
  simp [markedDgram, dgramCells]
theorem markedDgram_split (m k : Nat) (l : List DgramD) (r : List Value) (hk : k < l.length) :
    markedDgram m k l r = dgramCells (marksDgram m k) ++ .int .i64 l[k].src :: .int .i64 l[k].dst :: .int .i64 l[k].ident :: .int .i64 l[k].place :: .bool l[k].more :: .string l[k].body :: (dgramCells (l.drop (k + 1)) ++ r) := by
  rw [markedDgram, List.drop_eq_getElem_cons hk]
  rfl
theorem markedDgram_step (m k : Nat) (l : List DgramD) (r : List Value) (hk : k < l.length) :
    ((((((markedDgram m k l r).set (k * 6) (.int .i64 ((m + 6 * k : Nat) : Int))).set (k * 6 + 1) (.int .i64 ((m + 6 * k + 1 : Nat) : Int))).set (k * 6 + 2) (.int .i64 ((m + 6 * k + 2 : Nat) : Int))).set (k * 6 + 3) (.int .i64 ((m + 6 * k + 3 : Nat) : Int))).set (k * 6 + 4) (.bool (m3 (m + 6 * k + 4)))).set (k * 6 + 5) (.string (mtx (m + 6 * k + 5))) = markedDgram m (k + 1) l r := by
  have e3 := dgram_sets (dgramCells (marksDgram m k)) (.int .i64 ((m + 6 * k : Nat) : Int)) (.int .i64 ((m + 6 * k + 1 : Nat) : Int)) (.int .i64 ((m + 6 * k + 2 : Nat) : Int)) (.int .i64 ((m + 6 * k + 3 : Nat) : Int)) (.bool (m3 (m + 6 * k + 4))) (.string (mtx (m + 6 * k + 5))) (.int .i64 l[k].src) (.int .i64 l[k].dst) (.int .i64 l[k].ident) (.int .i64 l[k].place) (.bool l[k].more) (.string l[k].body) (dgramCells (l.drop (k + 1)) ++ r)
  rw [dgramCells_length, marksDgram_length] at e3
  rw [markedDgram_split m k l r hk, e3, markedDgram, marksDgram_succ]
  simp [dgramCells, dgramEnc, markDgramD]
theorem markedDgram_at (m k : Nat) (l : List DgramD) (r : List Value) (hk : k < l.length) :
    (markedDgram m k l r)[k * 6]? = some (.int .i64 l[k].src) ∧ (markedDgram m k l r)[k * 6 + 1]? = some (.int .i64 l[k].dst) ∧ (markedDgram m k l r)[k * 6 + 2]? = some (.int .i64 l[k].ident) ∧ (markedDgram m k l r)[k * 6 + 3]? = some (.int .i64 l[k].place) ∧ (markedDgram m k l r)[k * 6 + 4]? = some (.bool l[k].more) ∧ (markedDgram m k l r)[k * 6 + 5]? = some (.string l[k].body) := by
  have hlen : (dgramCells (marksDgram m k)).length = k * 6 := by rw [dgramCells_length, marksDgram_length]
  rw [markedDgram_split m k l r hk]
  refine ⟨?_, ?_, ?_, ?_, ?_, ?_⟩
  · rw [List.getElem?_append_right (by omega), hlen, Nat.sub_self]; rfl
  · rw [List.getElem?_append_right (by omega), hlen, show k * 6 + 1 - k * 6 = 1 by omega]; rfl
  · rw [List.getElem?_append_right (by omega), hlen, show k * 6 + 2 - k * 6 = 2 by omega]; rfl
  · rw [List.getElem?_append_right (by omega), hlen, show k * 6 + 3 - k * 6 = 3 by omega]; rfl
  · rw [List.getElem?_append_right (by omega), hlen, show k * 6 + 4 - k * 6 = 4 by omega]; rfl
  · rw [List.getElem?_append_right (by omega), hlen, show k * 6 + 5 - k * 6 = 5 by omega]; rfl

set_option maxRecDepth 1000000 in
set_option maxHeartbeats 1000000 in
theorem markDgramS_any (g : Nat) (l : List DgramD) (cap m : Nat) (r : List Value) (hm : m ≤ 10000000) (hl : l.length ≤ 1048576) (w : World) (hb : BlockIs w g 23 (dgramCells l ++ r)) :
    Calls Try.prog 15 #[.slice (some ⟨g, 0, none⟩) l.length cap, .int .i64 m] w fun e w' => e = .returned (.int .i64 ((m + 6 * l.length : Nat) : Int)) ∧ BlockIs w' g 23 (dgramCells (marksDgram m l.length) ++ r) ∧ w.grownBy w' (some g) := by
  have HB : Hid (BlockIs w g 23 (markedDgram m 0 l r)) := hb
  clear hb
  go_enter Try.func15, Try.ntmps15
  go_wp2
  go_loopg [1, 5] l.length (fun q y i wr => ∃ (k : Nat), k + q = l.length ∧ i = .int .i64 k ∧ y = .int .i64 ((m + 6 * k : Nat) : Int) ∧ Hid (BlockIs wr g 23 (markedDgram m k l r)) ∧ Hid (w.grownBy wr (some g)))
  case atStart => exact ⟨0, by omega, rfl, rfl, HB, World.grownBy.refl _ _⟩
  case round =>
    obtain ⟨k, hkg, rfl, rfl, FB, GR⟩ := hrel
    clear HB
    cases gk with
    | zero =>
      have hlt : ¬ (k : Int) < (l.length : Int) := by omega
      obtain rfl : k = l.length := by omega
      rw [markedDgram_all] at FB
      go_wp2
      go_ret
      exact ⟨rfl, FB.out, GR.out⟩
    | succ q =>
      have hlt : k < l.length := by omega
      have hlt' : (k : Int) < (l.length : Int) := by omega
      have hat := hid (markedDgram_at m k l r hlt)
      have hstep := hid (markedDgram_step m k l r hlt)
      obtain ⟨K, hK⟩ : ∃ K, m + 6 * k = K := ⟨_, rfl⟩
      have hKl : K ≤ 20000000 := by omega
      rw [hK] at hstep ⊢
      have hm3a4 : ((K : Int) + 1 + 1 + 1 + 1).tmod 3 = ((K : Int) + 1 + 1 + 1 + 1) % 3 := Int.tmod_eq_emod_of_nonneg (by omega)
      have hm3b4 : (((K : Int) + 1 + 1 + 1 + 1) % 3 == 0) = m3 (K + 4) := by have := m3_of K 4; rw [← this]; congr 2 <;> omega
      obtain ⟨b4, hb4⟩ : ∃ b, m3 (K + 4) = b := ⟨_, rfl⟩
      rw [hb4] at hm3b4 hstep
      clear hb4
      have x0 : (wr).cell? ⟨g, k * 6, none⟩ = some (.int .i64 l[k].src) := (FB.out).cell (hat.out.1)
      have f0 : (wr).frozen? ⟨g, k * 6, none⟩ = false := (FB.out).thaw _
      have DN0 := hid ((FB.out).set (k * 6) (.int .i64 ((K : Int))))
      have GN0 := hid ((GR.out).trans (grownBy_set _ g (k * 6) (.int .i64 ((K : Int)))))
      obtain ⟨V0, hV0⟩ : ∃ W, (wr).setCell ⟨g, k * 6, none⟩ (.int .i64 ((K : Int))) = W := ⟨_, rfl⟩
      rw [hV0] at DN0 GN0
      have x1 : (V0).cell? ⟨g, k * 6 + 1, none⟩ = some (.int .i64 l[k].dst) := (DN0.out).cell (dgram_set_other (hat.out.2.1) (by omega))
      have f1 : (V0).frozen? ⟨g, k * 6 + 1, none⟩ = false := (DN0.out).thaw _
      have DN1 := hid ((DN0.out).set (k * 6 + 1) (.int .i64 ((K : Int) + 1)))
      have GN1 := hid ((GN0.out).trans (grownBy_set _ g (k * 6 + 1) (.int .i64 ((K : Int) + 1))))
      obtain ⟨V1, hV1⟩ : ∃ W, (V0).setCell ⟨g, k * 6 + 1, none⟩ (.int .i64 ((K : Int) + 1)) = W := ⟨_, rfl⟩
      rw [hV1] at DN1 GN1
      have x2 : (V1).cell? ⟨g, k * 6 + 2, none⟩ = some (.int .i64 l[k].ident) := (DN1.out).cell (dgram_set_other (dgram_set_other (hat.out.2.2.1) (by omega)) (by omega))
      have f2 : (V1).frozen? ⟨g, k * 6 + 2, none⟩ = false := (DN1.out).thaw _
      have DN2 := hid ((DN1.out).set (k * 6 + 2) (.int .i64 ((K : Int) + 1 + 1)))
      have GN2 := hid ((GN1.out).trans (grownBy_set _ g (k * 6 + 2) (.int .i64 ((K : Int) + 1 + 1))))
      obtain ⟨V2, hV2⟩ : ∃ W, (V1).setCell ⟨g, k * 6 + 2, none⟩ (.int .i64 ((K : Int) + 1 + 1)) = W := ⟨_, rfl⟩
      rw [hV2] at DN2 GN2
      have x3 : (V2).cell? ⟨g, k * 6 + 3, none⟩ = some (.int .i64 l[k].place) := (DN2.out).cell (dgram_set_other (dgram_set_other (dgram_set_other (hat.out.2.2.2.1) (by omega)) (by omega)) (by omega))
      have f3 : (V2).frozen? ⟨g, k * 6 + 3, none⟩ = false := (DN2.out).thaw _
      have DN3 := hid ((DN2.out).set (k * 6 + 3) (.int .i64 ((K : Int) + 1 + 1 + 1)))
      have GN3 := hid ((GN2.out).trans (grownBy_set _ g (k * 6 + 3) (.int .i64 ((K : Int) + 1 + 1 + 1))))
      obtain ⟨V3, hV3⟩ : ∃ W, (V2).setCell ⟨g, k * 6 + 3, none⟩ (.int .i64 ((K : Int) + 1 + 1 + 1)) = W := ⟨_, rfl⟩
      rw [hV3] at DN3 GN3
      have x4 : (V3).cell? ⟨g, k * 6 + 4, none⟩ = some (.bool l[k].more) := (DN3.out).cell (dgram_set_other (dgram_set_other (dgram_set_other (dgram_set_other (hat.out.2.2.2.2.1) (by omega)) (by omega)) (by omega)) (by omega))
      have f4 : (V3).frozen? ⟨g, k * 6 + 4, none⟩ = false := (DN3.out).thaw _
      have DN4 := hid ((DN3.out).set (k * 6 + 4) (.bool b4))
      have GN4 := hid ((GN3.out).trans (grownBy_set _ g (k * 6 + 4) (.bool b4)))
      obtain ⟨V4, hV4⟩ : ∃ W, (V3).setCell ⟨g, k * 6 + 4, none⟩ (.bool b4) = W := ⟨_, rfl⟩
      rw [hV4] at DN4 GN4
      have D5 := hid (DN4.out)
      have G5 := hid (GN4.out)
      have C5 := hid (fun w => markText_any (K + 5) (by omega) w)
      rw [show ((K + 5 : Nat) : Int) = (K : Int) + 1 + 1 + 1 + 1 + 1 by omega] at C5
      go_wp2_with fail
      refine (C5.out _).mono ?_
      rintro e w5 ⟨rfl, b5⟩
      have E5 := D5.out.on b5 D5.out.lt
      have x5 : w5.cell? ⟨g, k * 6 + 5, none⟩ = some (.string l[k].body) := E5.cell (dgram_set_other (dgram_set_other (dgram_set_other (dgram_set_other (dgram_set_other (hat.out.2.2.2.2.2) (by omega)) (by omega)) (by omega)) (by omega)) (by omega))
      have f5 := E5.thaw (k * 6 + 5)
      have H5 := hid (G5.out.trans (grown_of_below b5 (some g)))
      have E5h := hid E5
      clear b5 E5 D5 G5 C5
      have DL := hid (E5h.out.set (k * 6 + 5) (.string (mtx (K + 5))))
      have GL := hid (H5.out.trans (grownBy_set _ g (k * 6 + 5) (.string (mtx (K + 5)))))
      rw [show ((K : Int) + 1 + 1 + 1) = ((K + 3 : Nat) : Int) by omega] at DL
      rw [show ((K : Int) + 1 + 1) = ((K + 2 : Nat) : Int) by omega] at DL
      rw [show ((K : Int) + 1) = ((K + 1 : Nat) : Int) by omega] at DL
      rw [hstep.out] at DL
      clear hat hstep FB GR
      go_wp2
      go_roundg q
      case measure => omega
      case rel => exact ⟨k + 1, by omega, by go_num, by rw [← show K + 6 = m + 6 * (k + 1) by omega]; go_num, DL, GL⟩
end Go.Proofs.Ytpknpodmoeaggab
