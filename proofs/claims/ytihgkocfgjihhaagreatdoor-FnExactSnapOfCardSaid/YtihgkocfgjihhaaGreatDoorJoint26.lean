/-
  The walk of laws.markSessionS: a row of the call's own is written over with marks.
  The walk of laws.markItemS: a row of the call's own is written over with marks.
-/
import Derived.Test.YtihgkocfgjihhaaGreatDoorJoint1
import Derived.Test.YtihgkocfgjihhaaGreatDoorJoint15
namespace Go.Proofs.YtihgkocfgjihhaaGreatDoor
open Go.RowKit

/-- the k-th mark from m on -/
def markSessionD (m k : Nat) : SessionD := ⟨((m + 3 * k : Nat) : Int), ((m + 3 * k + 1 : Nat) : Int), mtx (m + 3 * k + 2)⟩
def marksSession (m n : Nat) : List SessionD := (List.range n).map (markSessionD m)
theorem marksSession_length (m n : Nat) : (marksSession m n).length = n := by simp [marksSession]
theorem marksSession_succ (m n : Nat) : marksSession m (n + 1) = marksSession m n ++ [markSessionD m n] := by simp [marksSession, List.range_succ]
/-- the cells with the first k marked -/
def markedSession (m k : Nat) (l : List SessionD) (r : List Value) : List Value := sessionCells (marksSession m k) ++ (sessionCells (l.drop k) ++ r)
theorem markedSession_all (m : Nat) (l : List SessionD) (r : List Value) : markedSession m l.length l r = sessionCells (marksSession m l.length) ++ r := by
  simp [markedSession, sessionCells]
theorem markedSession_split (m k : Nat) (l : List SessionD) (r : List Value) (hk : k < l.length) :
    markedSession m k l r = sessionCells (marksSession m k) ++ .int .i64 l[k].token :: .int .i64 l[k].last :: .string l[k].reply :: (sessionCells (l.drop (k + 1)) ++ r) := by
  rw [markedSession, List.drop_eq_getElem_cons hk]
  rfl
theorem markedSession_step (m k : Nat) (l : List SessionD) (r : List Value) (hk : k < l.length) :
    (((markedSession m k l r).set (k * 3) (.int .i64 ((m + 3 * k : Nat) : Int))).set (k * 3 + 1) (.int .i64 ((m + 3 * k + 1 : Nat) : Int))).set (k * 3 + 2) (.string (mtx (m + 3 * k + 2))) = markedSession m (k + 1) l r := by
  have e3 := session_sets (sessionCells (marksSession m k)) (.int .i64 ((m + 3 * k : Nat) : Int)) (.int .i64 ((m + 3 * k + 1 : Nat) : Int)) (.string (mtx (m + 3 * k + 2))) (.int .i64 l[k].token) (.int .i64 l[k].last) (.string l[k].reply) (sessionCells (l.drop (k + 1)) ++ r)
  rw [sessionCells_length, marksSession_length] at e3
  rw [markedSession_split m k l r hk, e3, markedSession, marksSession_succ]
  simp [sessionCells, sessionEnc, markSessionD]
theorem markedSession_at (m k : Nat) (l : List SessionD) (r : List Value) (hk : k < l.length) :
    (markedSession m k l r)[k * 3]? = some (.int .i64 l[k].token) ∧ (markedSession m k l r)[k * 3 + 1]? = some (.int .i64 l[k].last) ∧ (markedSession m k l r)[k * 3 + 2]? = some (.string l[k].reply) := by
  have hlen : (sessionCells (marksSession m k)).length = k * 3 := by rw [sessionCells_length, marksSession_length]
  rw [markedSession_split m k l r hk]
  refine ⟨?_, ?_, ?_⟩
  · rw [List.getElem?_append_right (by omega), hlen, Nat.sub_self]; rfl
  · rw [List.getElem?_append_right (by omega), hlen, show k * 3 + 1 - k * 3 = 1 by omega]; rfl
  · rw [List.getElem?_append_right (by omega), hlen, show k * 3 + 2 - k * 3 = 2 by omega]; rfl

set_option maxRecDepth 1000000 in
set_option maxHeartbeats 1000000 in
theorem markSessionS_any (g : Nat) (l : List SessionD) (cap m : Nat) (r : List Value) (hm : m ≤ 10000000) (hl : l.length ≤ 1048576) (w : World) (hb : BlockIs w g 121 (sessionCells l ++ r)) :
    Calls Tryz.prog 107 #[.slice (some ⟨g, 0, none⟩) l.length cap, .int .i64 m] w fun e w' => e = .returned (.int .i64 ((m + 3 * l.length : Nat) : Int)) ∧ BlockIs w' g 121 (sessionCells (marksSession m l.length) ++ r) ∧ w.grownBy w' (some g) := by
  have HB : Hid (BlockIs w g 121 (markedSession m 0 l r)) := hb
  clear hb
  go_enter Tryz.func107, Tryz.ntmps107
  go_wp2
  go_loopg [1, 5] l.length (fun q y i wr => ∃ (k : Nat), k + q = l.length ∧ i = .int .i64 k ∧ y = .int .i64 ((m + 3 * k : Nat) : Int) ∧ Hid (BlockIs wr g 121 (markedSession m k l r)) ∧ Hid (w.grownBy wr (some g)))
  case atStart => exact ⟨0, by omega, rfl, rfl, HB, World.grownBy.refl _ _⟩
  case round =>
    obtain ⟨k, hkg, rfl, rfl, FB, GR⟩ := hrel
    clear HB
    cases gk with
    | zero =>
      have hlt : ¬ (k : Int) < (l.length : Int) := by omega
      obtain rfl : k = l.length := by omega
      rw [markedSession_all] at FB
      go_wp2
      go_ret
      exact ⟨rfl, FB.out, GR.out⟩
    | succ q =>
      have hlt : k < l.length := by omega
      have hlt' : (k : Int) < (l.length : Int) := by omega
      have hat := hid (markedSession_at m k l r hlt)
      have hstep := hid (markedSession_step m k l r hlt)
      obtain ⟨K, hK⟩ : ∃ K, m + 3 * k = K := ⟨_, rfl⟩
      have hKl : K ≤ 20000000 := by omega
      rw [hK] at hstep ⊢
      have x0 : (wr).cell? ⟨g, k * 3, none⟩ = some (.int .i64 l[k].token) := (FB.out).cell (hat.out.1)
      have f0 : (wr).frozen? ⟨g, k * 3, none⟩ = false := (FB.out).thaw _
      have x1 : ((wr).setCell ⟨g, k * 3, none⟩ (.int .i64 ((K : Int)))).cell? ⟨g, k * 3 + 1, none⟩ = some (.int .i64 l[k].last) := ((FB.out).set (k * 3) (.int .i64 ((K : Int)))).cell (session_set_other (hat.out.2.1) (by omega))
      have f1 : ((wr).setCell ⟨g, k * 3, none⟩ (.int .i64 ((K : Int)))).frozen? ⟨g, k * 3 + 1, none⟩ = false := ((FB.out).set (k * 3) (.int .i64 ((K : Int)))).thaw _
      have D2 := hid (((FB.out).set (k * 3) (.int .i64 ((K : Int)))).set (k * 3 + 1) (.int .i64 ((K : Int) + 1)))
      have G2 := hid (((GR.out).trans (grownBy_set _ g (k * 3) (.int .i64 ((K : Int))))).trans (grownBy_set _ g (k * 3 + 1) (.int .i64 ((K : Int) + 1))))
      have C2 := hid (fun w => markText_any (K + 2) (by omega) w)
      go_wp2_with fail
      refine (C2.out _).mono ?_
      rintro e w2 ⟨rfl, b2⟩
      have E2 := D2.out.on b2 D2.out.lt
      have x2 : w2.cell? ⟨g, k * 3 + 2, none⟩ = some (.string l[k].reply) := E2.cell (session_set_other (session_set_other (hat.out.2.2) (by omega)) (by omega))
      have f2 := E2.thaw (k * 3 + 2)
      have H2 := hid (G2.out.trans (grown_of_below b2 (some g)))
      have E2h := hid E2
      clear b2 E2 D2 G2 C2
      have DL := hid (E2h.out.set (k * 3 + 2) (.string (mtx (K + 2))))
      have GL := hid (H2.out.trans (grownBy_set _ g (k * 3 + 2) (.string (mtx (K + 2)))))
      rw [show ((K : Int) + 1) = ((K + 1 : Nat) : Int) by omega] at DL
      rw [hstep.out] at DL
      clear hat hstep FB GR
      go_wp2
      go_roundg q
      case measure => omega
      case rel => exact ⟨k + 1, by omega, by go_num, by rw [← show K + 3 = m + 3 * (k + 1) by omega]; go_num, DL, GL⟩
end Go.Proofs.YtihgkocfgjihhaaGreatDoor

namespace Go.Proofs.YtihgkocfgjihhaaGreatDoor
open Go.RowKit

/-- the k-th mark from m on -/
def markItemD (m k : Nat) : ItemD := ⟨mtx (m + 3 * k), mtx (m + 3 * k + 1), ((m + 3 * k + 2 : Nat) : Int)⟩
def marksItem (m n : Nat) : List ItemD := (List.range n).map (markItemD m)
theorem marksItem_length (m n : Nat) : (marksItem m n).length = n := by simp [marksItem]
theorem marksItem_succ (m n : Nat) : marksItem m (n + 1) = marksItem m n ++ [markItemD m n] := by simp [marksItem, List.range_succ]
/-- the cells with the first k marked -/
def markedItem (m k : Nat) (l : List ItemD) (r : List Value) : List Value := itemCells (marksItem m k) ++ (itemCells (l.drop k) ++ r)
theorem markedItem_all (m : Nat) (l : List ItemD) (r : List Value) : markedItem m l.length l r = itemCells (marksItem m l.length) ++ r := by
  simp [markedItem, itemCells]
theorem markedItem_split (m k : Nat) (l : List ItemD) (r : List Value) (hk : k < l.length) :
    markedItem m k l r = itemCells (marksItem m k) ++ .string l[k].key :: .string l[k].val :: .int .i64 l[k].ver :: (itemCells (l.drop (k + 1)) ++ r) := by
  rw [markedItem, List.drop_eq_getElem_cons hk]
  rfl
theorem markedItem_step (m k : Nat) (l : List ItemD) (r : List Value) (hk : k < l.length) :
    (((markedItem m k l r).set (k * 3) (.string (mtx (m + 3 * k)))).set (k * 3 + 1) (.string (mtx (m + 3 * k + 1)))).set (k * 3 + 2) (.int .i64 ((m + 3 * k + 2 : Nat) : Int)) = markedItem m (k + 1) l r := by
  have e3 := item_sets (itemCells (marksItem m k)) (.string (mtx (m + 3 * k))) (.string (mtx (m + 3 * k + 1))) (.int .i64 ((m + 3 * k + 2 : Nat) : Int)) (.string l[k].key) (.string l[k].val) (.int .i64 l[k].ver) (itemCells (l.drop (k + 1)) ++ r)
  rw [itemCells_length, marksItem_length] at e3
  rw [markedItem_split m k l r hk, e3, markedItem, marksItem_succ]
  simp [itemCells, itemEnc, markItemD]
theorem markedItem_at (m k : Nat) (l : List ItemD) (r : List Value) (hk : k < l.length) :
    (markedItem m k l r)[k * 3]? = some (.string l[k].key) ∧ (markedItem m k l r)[k * 3 + 1]? = some (.string l[k].val) ∧ (markedItem m k l r)[k * 3 + 2]? = some (.int .i64 l[k].ver) := by
  have hlen : (itemCells (marksItem m k)).length = k * 3 := by rw [itemCells_length, marksItem_length]
  rw [markedItem_split m k l r hk]
  refine ⟨?_, ?_, ?_⟩
  · rw [List.getElem?_append_right (by omega), hlen, Nat.sub_self]; rfl
  · rw [List.getElem?_append_right (by omega), hlen, show k * 3 + 1 - k * 3 = 1 by omega]; rfl
  · rw [List.getElem?_append_right (by omega), hlen, show k * 3 + 2 - k * 3 = 2 by omega]; rfl

set_option maxRecDepth 1000000 in
set_option maxHeartbeats 1000000 in
theorem markItemS_any (g : Nat) (l : List ItemD) (cap m : Nat) (r : List Value) (hm : m ≤ 10000000) (hl : l.length ≤ 1048576) (w : World) (hb : BlockIs w g 124 (itemCells l ++ r)) :
    Calls Tryz.prog 108 #[.slice (some ⟨g, 0, none⟩) l.length cap, .int .i64 m] w fun e w' => e = .returned (.int .i64 ((m + 3 * l.length : Nat) : Int)) ∧ BlockIs w' g 124 (itemCells (marksItem m l.length) ++ r) ∧ w.grownBy w' (some g) := by
  have HB : Hid (BlockIs w g 124 (markedItem m 0 l r)) := hb
  clear hb
  go_enter Tryz.func108, Tryz.ntmps108
  go_wp2
  go_loopg [1, 5] l.length (fun q y i wr => ∃ (k : Nat), k + q = l.length ∧ i = .int .i64 k ∧ y = .int .i64 ((m + 3 * k : Nat) : Int) ∧ Hid (BlockIs wr g 124 (markedItem m k l r)) ∧ Hid (w.grownBy wr (some g)))
  case atStart => exact ⟨0, by omega, rfl, rfl, HB, World.grownBy.refl _ _⟩
  case round =>
    obtain ⟨k, hkg, rfl, rfl, FB, GR⟩ := hrel
    clear HB
    cases gk with
    | zero =>
      have hlt : ¬ (k : Int) < (l.length : Int) := by omega
      obtain rfl : k = l.length := by omega
      rw [markedItem_all] at FB
      go_wp2
      go_ret
      exact ⟨rfl, FB.out, GR.out⟩
    | succ q =>
      have hlt : k < l.length := by omega
      have hlt' : (k : Int) < (l.length : Int) := by omega
      have hat := hid (markedItem_at m k l r hlt)
      have hstep := hid (markedItem_step m k l r hlt)
      obtain ⟨K, hK⟩ : ∃ K, m + 3 * k = K := ⟨_, rfl⟩
      have hKl : K ≤ 20000000 := by omega
      rw [hK] at hstep ⊢
      have D0 := hid (FB.out)
      have G0 := hid (GR.out)
      have C0 := hid (fun w => markText_any (K) (by omega) w)
      go_wp2_with fail
      refine (C0.out _).mono ?_
      rintro e w0 ⟨rfl, b0⟩
      have E0 := D0.out.on b0 D0.out.lt
      have x0 : w0.cell? ⟨g, k * 3, none⟩ = some (.string l[k].key) := E0.cell (hat.out.1)
      have f0 := E0.thaw (k * 3)
      have H0 := hid (G0.out.trans (grown_of_below b0 (some g)))
      have E0h := hid E0
      clear b0 E0 D0 G0 C0
      have D1 := hid (E0h.out.set (k * 3) (.string (mtx (K))))
      have G1 := hid (H0.out.trans (grownBy_set _ g (k * 3) (.string (mtx (K)))))
      have C1 := hid (fun w => markText_any (K + 1) (by omega) w)
      go_wp2_with fail
      refine (C1.out _).mono ?_
      rintro e w1 ⟨rfl, b1⟩
      have E1 := D1.out.on b1 D1.out.lt
      have x1 : w1.cell? ⟨g, k * 3 + 1, none⟩ = some (.string l[k].val) := E1.cell (item_set_other (hat.out.2.1) (by omega))
      have f1 := E1.thaw (k * 3 + 1)
      have H1 := hid (G1.out.trans (grown_of_below b1 (some g)))
      have E1h := hid E1
      clear b1 E1 D1 G1 C1
      have x2 : (w1.setCell ⟨g, k * 3 + 1, none⟩ (.string (mtx (K + 1)))).cell? ⟨g, k * 3 + 2, none⟩ = some (.int .i64 l[k].ver) := (E1h.out.set (k * 3 + 1) (.string (mtx (K + 1)))).cell (item_set_other (item_set_other (hat.out.2.2) (by omega)) (by omega))
      have f2 : (w1.setCell ⟨g, k * 3 + 1, none⟩ (.string (mtx (K + 1)))).frozen? ⟨g, k * 3 + 2, none⟩ = false := (E1h.out.set (k * 3 + 1) (.string (mtx (K + 1)))).thaw _
      have DL := hid ((E1h.out.set (k * 3 + 1) (.string (mtx (K + 1)))).set (k * 3 + 2) (.int .i64 ((K : Int) + 2)))
      have GL := hid ((H1.out.trans (grownBy_set _ g (k * 3 + 1) (.string (mtx (K + 1))))).trans (grownBy_set _ g (k * 3 + 2) (.int .i64 ((K : Int) + 2))))
      rw [show ((K : Int) + 2) = ((K + 2 : Nat) : Int) by omega] at DL
      rw [hstep.out] at DL
      clear hat hstep FB GR
      go_wp2
      go_roundg q
      case measure => omega
      case rel => exact ⟨k + 1, by omega, by go_num, by rw [← show K + 3 = m + 3 * (k + 1) by omega]; go_num, DL, GL⟩
end Go.Proofs.YtihgkocfgjihhaaGreatDoor
