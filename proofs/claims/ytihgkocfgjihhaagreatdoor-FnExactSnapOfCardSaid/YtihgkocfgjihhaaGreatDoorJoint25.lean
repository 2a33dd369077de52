/-
  The walk of laws.markEntryS: entries of the call's own are written over with marks.
  The walk of laws.markPeerS: a row of the call's own is written over with marks.
-/
import Derived.Test.YtihgkocfgjihhaaGreatDoorJoint1
import Derived.Test.YtihgkocfgjihhaaGreatDoorRows
import Derived.Test.YtihgkocfgjihhaaGreatDoorJoint15
namespace Go.Proofs.YtihgkocfgjihhaaGreatDoor
open Go.RowKit

/-- the k-th mark from m on -/
def markE (m k : Nat) : EntD := ⟨((m + 3 * k : Nat) : Int), ((m + 3 * k + 1 : Nat) : Int), mtx (m + 3 * k + 2)⟩
def marksE (m n : Nat) : List EntD := (List.range n).map (markE m)
theorem marksE_length (m n : Nat) : (marksE m n).length = n := by simp [marksE]
theorem marksE_succ (m n : Nat) : marksE m (n + 1) = marksE m n ++ [markE m n] := by simp [marksE, List.range_succ]

/-- the cells with the first k entries marked -/
def markedEnts (m k : Nat) (l : List EntD) (r : List Value) : List Value := entCells (marksE m k) ++ (entCells (l.drop k) ++ r)
theorem markedEnts_all (m : Nat) (l : List EntD) (r : List Value) : markedEnts m l.length l r = entCells (marksE m l.length) ++ r := by
  simp [markedEnts, entCells]
theorem markedEnts_split (m k : Nat) (l : List EntD) (r : List Value) (hk : k < l.length) :
    markedEnts m k l r = entCells (marksE m k) ++ .int .i64 l[k].term :: .int .i64 l[k].kind :: .string l[k].data :: (entCells (l.drop (k + 1)) ++ r) := by
  rw [markedEnts, List.drop_eq_getElem_cons hk]
  rfl
theorem markedEnts_step (m k : Nat) (l : List EntD) (r : List Value) (hk : k < l.length) :
    (((markedEnts m k l r).set (k * 3) (.int .i64 ((m + 3 * k : Nat) : Int))).set (k * 3 + 1) (.int .i64 ((m + 3 * k + 1 : Nat) : Int))).set (k * 3 + 2) (.string (mtx (m + 3 * k + 2))) = markedEnts m (k + 1) l r := by
  have e3 := set_three (entCells (marksE m k)) (.int .i64 ((m + 3 * k : Nat) : Int)) (.int .i64 ((m + 3 * k + 1 : Nat) : Int)) (.string (mtx (m + 3 * k + 2))) (.int .i64 l[k].term) (.int .i64 l[k].kind) (.string l[k].data) (entCells (l.drop (k + 1)) ++ r)
  rw [entCells_length, marksE_length] at e3
  rw [markedEnts_split m k l r hk, e3, markedEnts, marksE_succ]
  simp [entCells, entEnc, markE]
theorem markedEnts_at (m k : Nat) (l : List EntD) (r : List Value) (hk : k < l.length) :
    (markedEnts m k l r)[k * 3]? = some (.int .i64 l[k].term) ∧ (markedEnts m k l r)[k * 3 + 1]? = some (.int .i64 l[k].kind) ∧ (markedEnts m k l r)[k * 3 + 2]? = some (.string l[k].data) := by
  have hlen : (entCells (marksE m k)).length = k * 3 := by rw [entCells_length, marksE_length]
  rw [markedEnts_split m k l r hk]
  refine ⟨?_, ?_, ?_⟩
  · rw [List.getElem?_append_right (by omega), hlen, Nat.sub_self]; rfl
  · rw [List.getElem?_append_right (by omega), hlen, show k * 3 + 1 - k * 3 = 1 by omega]; rfl
  · rw [List.getElem?_append_right (by omega), hlen, show k * 3 + 2 - k * 3 = 2 by omega]; rfl

theorem set_otherE {cs : List Value} {i j : Nat} {v u : Value} (h : cs[j]? = some u) (hij : i ≠ j) : (cs.set i v)[j]? = some u := by
  rw [List.getElem?_set_ne hij]; exact h

set_option maxRecDepth 1000000 in
set_option maxHeartbeats 1000000 in
theorem markEntryS_any (g : Nat) (l : List EntD) (cap m : Nat) (r : List Value) (hm : m ≤ 10000000) (hl : l.length ≤ 1048576) (w : World) (hb : BlockIs w g 160 (entCells l ++ r)) :
    Calls Tryz.prog 155 #[.slice (some ⟨g, 0, none⟩) l.length cap, .int .i64 m] w fun e w' => e = .returned (.int .i64 ((m + 3 * l.length : Nat) : Int)) ∧ BlockIs w' g 160 (entCells (marksE m l.length) ++ r) ∧ w.grownBy w' (some g) := by
  have HB := (show Hid (BlockIs w g 160 (markedEnts m 0 l r)) from hb)
  clear hb
  go_enter Tryz.func155, Tryz.ntmps155
  go_wp2
  go_loopg [1, 5] l.length (fun q y i wr => ∃ (k : Nat), k + q = l.length ∧ i = .int .i64 k ∧ y = .int .i64 ((m + 3 * k : Nat) : Int) ∧ Hid (BlockIs wr g 160 (markedEnts m k l r)) ∧ Hid (w.grownBy wr (some g)))
  case atStart => exact ⟨0, by omega, rfl, rfl, HB, World.grownBy.refl _ _⟩
  case round =>
    obtain ⟨k, hkg, rfl, rfl, FB, GR⟩ := hrel
    clear HB
    cases gk with
    | zero =>
      have hlt : ¬ (k : Int) < (l.length : Int) := by omega
      obtain rfl : k = l.length := by omega
      rw [markedEnts_all] at FB
      go_wp2
      go_ret
      exact ⟨rfl, FB.out, GR.out⟩
    | succ q =>
      have hlt : k < l.length := by omega
      have hlt' : (k : Int) < (l.length : Int) := by omega
      have hat := hid (markedEnts_at m k l r hlt)
      have hstep := hid (markedEnts_step m k l r hlt)
      have C1 := hid (fun w => markText_any (m + 3 * k + 2) (by omega) w)
      obtain ⟨K, hK⟩ : ∃ K, m + 3 * k = K := ⟨_, rfl⟩
      have hKl : K ≤ 20000000 := by omega
      rw [hK] at C1 hstep ⊢
      have x1 := FB.out.cell hat.out.1
      have f1 := FB.out.thaw (k * 3)
      have x2 : (wr.setCell ⟨g, k * 3, none⟩ (.int .i64 (K : Int))).cell? ⟨g, k * 3 + 1, none⟩ = some (.int .i64 l[k].kind) := (FB.out.set (k * 3) (.int .i64 (K : Int))).cell (set_otherE hat.out.2.1 (by omega))
      have f2 : (wr.setCell ⟨g, k * 3, none⟩ (.int .i64 (K : Int))).frozen? ⟨g, k * 3 + 1, none⟩ = false := (FB.out.set (k * 3) (.int .i64 (K : Int))).thaw _
      have D0 := hid ((FB.out.set (k * 3) (.int .i64 (K : Int))).set (k * 3 + 1) (.int .i64 ((K : Int) + 1)))
      have G0 := hid ((GR.out.trans (grownBy_set _ g (k * 3) (.int .i64 (K : Int)))).trans (grownBy_set _ g (k * 3 + 1) (.int .i64 ((K : Int) + 1))))
      go_wp2_with fail
      refine (C1.out _).mono ?_
      rintro e w1 ⟨rfl, b1⟩
      have D1 := D0.out.on b1 D0.out.lt
      have G1 := hid (G0.out.trans (grown_of_below b1 (some g)))
      have y3 := D1.cell (set_otherE (set_otherE hat.out.2.2 (by omega)) (by omega))
      have f3 := D1.thaw (k * 3 + 2)
      have D2 := hid (D1.set (k * 3 + 2) (.string (mtx (K + 2))))
      rw [show ((K : Int) + 1) = ((K + 1 : Nat) : Int) by omega, hstep.out] at D2
      have G2 := hid (G1.out.trans (grownBy_set _ g (k * 3 + 2) (.string (mtx (K + 2)))))
      clear b1 FB GR D1 D0 G0 G1 x1 f1 x2 f2 C1 hat hstep
      go_wp2
      go_roundg q
      case measure => omega
      case rel => exact ⟨k + 1, by omega, by go_num, by rw [← show K + 3 = m + 3 * (k + 1) by omega]; go_num, D2, G2⟩

end Go.Proofs.YtihgkocfgjihhaaGreatDoor

namespace Go.Proofs.YtihgkocfgjihhaaGreatDoor
open Go.RowKit

/-- the k-th mark from m on -/
def markPeerD (m k : Nat) : PeerD := ⟨((m + 4 * k : Nat) : Int), ((m + 4 * k + 1 : Nat) : Int), ((m + 4 * k + 2 : Nat) : Int), ((m + 4 * k + 3 : Nat) : Int)⟩
def marksPeer (m n : Nat) : List PeerD := (List.range n).map (markPeerD m)
theorem marksPeer_length (m n : Nat) : (marksPeer m n).length = n := by simp [marksPeer]
theorem marksPeer_succ (m n : Nat) : marksPeer m (n + 1) = marksPeer m n ++ [markPeerD m n] := by simp [marksPeer, List.range_succ]
/-- the cells with the first k marked -/
def markedPeer (m k : Nat) (l : List PeerD) (r : List Value) : List Value := peerCells (marksPeer m k) ++ (peerCells (l.drop k) ++ r)
theorem markedPeer_all (m : Nat) (l : List PeerD) (r : List Value) : markedPeer m l.length l r = peerCells (marksPeer m l.length) ++ r := by
  simp [markedPeer, peerCells]
theorem markedPeer_split (m k : Nat) (l : List PeerD) (r : List Value) (hk : k < l.length) :
    markedPeer m k l r = peerCells (marksPeer m k) ++ .int .i64 l[k].pid :: .int .i64 l[k].next :: .int .i64 l[k].upto :: .int .i64 l[k].sent :: (peerCells (l.drop (k + 1)) ++ r) := by
  rw [markedPeer, List.drop_eq_getElem_cons hk]
  rfl
theorem markedPeer_step (m k : Nat) (l : List PeerD) (r : List Value) (hk : k < l.length) :
    ((((markedPeer m k l r).set (k * 4) (.int .i64 ((m + 4 * k : Nat) : Int))).set (k * 4 + 1) (.int .i64 ((m + 4 * k + 1 : Nat) : Int))).set (k * 4 + 2) (.int .i64 ((m + 4 * k + 2 : Nat) : Int))).set (k * 4 + 3) (.int .i64 ((m + 4 * k + 3 : Nat) : Int)) = markedPeer m (k + 1) l r := by
  have e3 := peer_sets (peerCells (marksPeer m k)) (.int .i64 ((m + 4 * k : Nat) : Int)) (.int .i64 ((m + 4 * k + 1 : Nat) : Int)) (.int .i64 ((m + 4 * k + 2 : Nat) : Int)) (.int .i64 ((m + 4 * k + 3 : Nat) : Int)) (.int .i64 l[k].pid) (.int .i64 l[k].next) (.int .i64 l[k].upto) (.int .i64 l[k].sent) (peerCells (l.drop (k + 1)) ++ r)
  rw [peerCells_length, marksPeer_length] at e3
  rw [markedPeer_split m k l r hk, e3, markedPeer, marksPeer_succ]
  simp [peerCells, peerEnc, markPeerD]
theorem markedPeer_at (m k : Nat) (l : List PeerD) (r : List Value) (hk : k < l.length) :
    (markedPeer m k l r)[k * 4]? = some (.int .i64 l[k].pid) ∧ (markedPeer m k l r)[k * 4 + 1]? = some (.int .i64 l[k].next) ∧ (markedPeer m k l r)[k * 4 + 2]? = some (.int .i64 l[k].upto) ∧ (markedPeer m k l r)[k * 4 + 3]? = some (.int .i64 l[k].sent) := by
  have hlen : (peerCells (marksPeer m k)).length = k * 4 := by rw [peerCells_length, marksPeer_length]
  rw [markedPeer_split m k l r hk]
  refine ⟨?_, ?_, ?_, ?_⟩
  · rw [List.getElem?_append_right (by omega), hlen, Nat.sub_self]; rfl
  · rw [List.getElem?_append_right (by omega), hlen, show k * 4 + 1 - k * 4 = 1 by omega]; rfl
  · rw [List.getElem?_append_right (by omega), hlen, show k * 4 + 2 - k * 4 = 2 by omega]; rfl
  · rw [List.getElem?_append_right (by omega), hlen, show k * 4 + 3 - k * 4 = 3 by omega]; rfl

set_option maxRecDepth 1000000 in
set_option maxHeartbeats 1000000 in
theorem markPeerS_any (g : Nat) (l : List PeerD) (cap m : Nat) (r : List Value) (hm : m ≤ 10000000) (hl : l.length ≤ 1048576) (w : World) (hb : BlockIs w g 195 (peerCells l ++ r)) :
    Calls Tryz.prog 106 #[.slice (some ⟨g, 0, none⟩) l.length cap, .int .i64 m] w fun e w' => e = .returned (.int .i64 ((m + 4 * l.length : Nat) : Int)) ∧ BlockIs w' g 195 (peerCells (marksPeer m l.length) ++ r) ∧ w.grownBy w' (some g) := by
  have HB : Hid (BlockIs w g 195 (markedPeer m 0 l r)) := hb
  clear hb
  go_enter Tryz.func106, Tryz.ntmps106
  go_wp2
  go_loopg [1, 5] l.length (fun q y i wr => ∃ (k : Nat), k + q = l.length ∧ i = .int .i64 k ∧ y = .int .i64 ((m + 4 * k : Nat) : Int) ∧ Hid (BlockIs wr g 195 (markedPeer m k l r)) ∧ Hid (w.grownBy wr (some g)))
  case atStart => exact ⟨0, by omega, rfl, rfl, HB, World.grownBy.refl _ _⟩
  case round =>
    obtain ⟨k, hkg, rfl, rfl, FB, GR⟩ := hrel
    clear HB
    cases gk with
    | zero =>
      have hlt : ¬ (k : Int) < (l.length : Int) := by omega
      obtain rfl : k = l.length := by omega
      rw [markedPeer_all] at FB
      go_wp2
      go_ret
      exact ⟨rfl, FB.out, GR.out⟩
    | succ q =>
      have hlt : k < l.length := by omega
      have hlt' : (k : Int) < (l.length : Int) := by omega
      have hat := hid (markedPeer_at m k l r hlt)
      have hstep := hid (markedPeer_step m k l r hlt)
      obtain ⟨K, hK⟩ : ∃ K, m + 4 * k = K := ⟨_, rfl⟩
      have hKl : K ≤ 20000000 := by omega
      rw [hK] at hstep ⊢
      have x0 : (wr).cell? ⟨g, k * 4, none⟩ = some (.int .i64 l[k].pid) := (FB.out).cell (hat.out.1)
      have f0 : (wr).frozen? ⟨g, k * 4, none⟩ = false := (FB.out).thaw _
      have x1 : ((wr).setCell ⟨g, k * 4, none⟩ (.int .i64 ((K : Int)))).cell? ⟨g, k * 4 + 1, none⟩ = some (.int .i64 l[k].next) := ((FB.out).set (k * 4) (.int .i64 ((K : Int)))).cell (peer_set_other (hat.out.2.1) (by omega))
      have f1 : ((wr).setCell ⟨g, k * 4, none⟩ (.int .i64 ((K : Int)))).frozen? ⟨g, k * 4 + 1, none⟩ = false := ((FB.out).set (k * 4) (.int .i64 ((K : Int)))).thaw _
      have x2 : (((wr).setCell ⟨g, k * 4, none⟩ (.int .i64 ((K : Int)))).setCell ⟨g, k * 4 + 1, none⟩ (.int .i64 ((K : Int) + 1))).cell? ⟨g, k * 4 + 2, none⟩ = some (.int .i64 l[k].upto) := (((FB.out).set (k * 4) (.int .i64 ((K : Int)))).set (k * 4 + 1) (.int .i64 ((K : Int) + 1))).cell (peer_set_other (peer_set_other (hat.out.2.2.1) (by omega)) (by omega))
      have f2 : (((wr).setCell ⟨g, k * 4, none⟩ (.int .i64 ((K : Int)))).setCell ⟨g, k * 4 + 1, none⟩ (.int .i64 ((K : Int) + 1))).frozen? ⟨g, k * 4 + 2, none⟩ = false := (((FB.out).set (k * 4) (.int .i64 ((K : Int)))).set (k * 4 + 1) (.int .i64 ((K : Int) + 1))).thaw _
      have x3 : ((((wr).setCell ⟨g, k * 4, none⟩ (.int .i64 ((K : Int)))).setCell ⟨g, k * 4 + 1, none⟩ (.int .i64 ((K : Int) + 1))).setCell ⟨g, k * 4 + 2, none⟩ (.int .i64 ((K : Int) + 1 + 1))).cell? ⟨g, k * 4 + 3, none⟩ = some (.int .i64 l[k].sent) := ((((FB.out).set (k * 4) (.int .i64 ((K : Int)))).set (k * 4 + 1) (.int .i64 ((K : Int) + 1))).set (k * 4 + 2) (.int .i64 ((K : Int) + 1 + 1))).cell (peer_set_other (peer_set_other (peer_set_other (hat.out.2.2.2) (by omega)) (by omega)) (by omega))
      have f3 : ((((wr).setCell ⟨g, k * 4, none⟩ (.int .i64 ((K : Int)))).setCell ⟨g, k * 4 + 1, none⟩ (.int .i64 ((K : Int) + 1))).setCell ⟨g, k * 4 + 2, none⟩ (.int .i64 ((K : Int) + 1 + 1))).frozen? ⟨g, k * 4 + 3, none⟩ = false := ((((FB.out).set (k * 4) (.int .i64 ((K : Int)))).set (k * 4 + 1) (.int .i64 ((K : Int) + 1))).set (k * 4 + 2) (.int .i64 ((K : Int) + 1 + 1))).thaw _
      have DL := hid (((((FB.out).set (k * 4) (.int .i64 ((K : Int)))).set (k * 4 + 1) (.int .i64 ((K : Int) + 1))).set (k * 4 + 2) (.int .i64 ((K : Int) + 1 + 1))).set (k * 4 + 3) (.int .i64 ((K : Int) + 1 + 1 + 1)))
      have GL := hid (((((GR.out).trans (grownBy_set _ g (k * 4) (.int .i64 ((K : Int))))).trans (grownBy_set _ g (k * 4 + 1) (.int .i64 ((K : Int) + 1)))).trans (grownBy_set _ g (k * 4 + 2) (.int .i64 ((K : Int) + 1 + 1)))).trans (grownBy_set _ g (k * 4 + 3) (.int .i64 ((K : Int) + 1 + 1 + 1))))
      rw [show ((K : Int) + 1 + 1 + 1) = ((K + 3 : Nat) : Int) by omega] at DL
      rw [show ((K : Int) + 1 + 1) = ((K + 2 : Nat) : Int) by omega] at DL
      rw [show ((K : Int) + 1) = ((K + 1 : Nat) : Int) by omega] at DL
      rw [hstep.out] at DL
      clear hat hstep FB GR
      go_wp2
      go_roundg q
      case measure => omega
      case rel => exact ⟨k + 1, by omega, by go_num, by rw [← show K + 4 = m + 4 * (k + 1) by omega]; go_num, DL, GL⟩
end Go.Proofs.YtihgkocfgjihhaaGreatDoor
