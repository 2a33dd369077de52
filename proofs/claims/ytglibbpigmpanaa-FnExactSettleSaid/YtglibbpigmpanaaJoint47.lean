/-
  Rows of the call's own that are written over with marks: entries, ints.
  The walk of laws.markPeerS: a row of the call's own is written over with marks.
  The walk of laws.heldPeerS: a row that holds marks is found to hold them.
-/
import Derived.Test.YtglibbpigmpanaaJoint32
import Derived.Test.YtglibbpigmpanaaJoint46
import Derived.Test.YtglibbpigmpanaaJoint1
import Derived.Deep.LoopGhost
import Derived.Sort.Statements
import Derived.Test.YtglibbpigmpanaaRows
import Derived.Lib.QuietBelow
namespace Go.Proofs.Ytglibbpigmpanaa
open Go.RowKit Go.Sort

theorem row_blockM {w : World} {base size n : Nat} {t : TypeId} {va : Option Addr} {vc : Nat} {cs : List Value} (hn : 0 < n) (h : w.ownsRow base t size (.slice va n vc) n cs) : ∃ g r, va = some ⟨g, 0, none⟩ ∧ base ≤ g ∧ BlockIs w g t (cs ++ r) := by
  rcases h.2 with ⟨hv, h0⟩ | ⟨g, cp, cur, hv, hb, hh, hle, _, _, ht⟩
  · omega
  · simp only [Value.slice.injEq] at hv
    obtain ⟨rfl, _, rfl⟩ := hv
    have hcur : cur.toList = cs ++ cur.toList.drop (n * size) := by rw [← ht, List.take_append_drop]
    exact ⟨g, _, rfl, hb, by unfold BlockIs; rw [hh, ← hcur]⟩
theorem row_grownM2 {w w1 : World} {base base2 size size2 n n2 : Nat} {t t2 : TypeId} {v u : Value} {xs ys : List Value} (h : w.ownsRow base t size v n xs) (hr : w.ownsRow base2 t2 size2 u n2 ys) (hg : w.grownBy w1 u.ownBlock) (ht : t ≠ t2) : w1.ownsRow base t size v n xs := by
  refine row_ext h fun g cs hb => ?_
  have hlt := hb.lt
  unfold BlockIs at hb ⊢
  rw [hg.block g hlt ?_]
  · exact hb
  · intro e
    obtain ⟨cs2, h2, _⟩ := row_block hr e.symm
    unfold BlockIs at h2
    rw [hb] at h2
    simp only [Option.some.injEq, Obj.cells.injEq] at h2
    exact ht h2.2.1
theorem row_turnM {w w' : World} {base size n g c : Nat} {t : TypeId} {xs ys r : List Value} (h : w.ownsRow base t size (.slice (some ⟨g, 0, none⟩) n c) n xs) (h1 : BlockIs w g t (xs ++ r)) (h2 : BlockIs w' g t (ys ++ r)) (hl : ys.length = xs.length) : w'.ownsRow base t size (.slice (some ⟨g, 0, none⟩) n c) n ys := by
  rcases h.2 with ⟨hv, h0⟩ | ⟨g', cp, cur, hv, hb, hh, hle, hm, hs, ht⟩
  · cases hv
  · simp only [Value.slice.injEq, Option.some.injEq, Addr.mk.injEq] at hv
    obtain ⟨⟨rfl, _, _⟩, _, rfl⟩ := hv
    have hc : cur.toList = xs ++ r := by
      unfold BlockIs at h1
      rw [hh] at h1
      simp only [Option.some.injEq, Obj.cells.injEq, and_true] at h1
      rw [h1]
    refine ⟨by rw [hl]; exact h.1, Or.inr ⟨g, c, (ys ++ r).toArray, rfl, hb, h2, hle, hm, ?_, ?_⟩⟩
    · have : cur.size = (xs ++ r).length := by rw [← hc]; simp
      rw [List.size_toArray, List.length_append, hl, ← List.length_append, ← this, hs]
    · show (ys ++ r).take (n * size) = ys
      rw [← h.1, ← hl, List.take_left']
      rfl
theorem entsR_atM {w : World} {base : Nat} {va : Option Addr} {vc : Nat} {l : List EntD} (h : w.ownsRow base 69 3 (.slice va l.length vc) l.length (entCells l)) : EntsAt w va l := by
  intro hne
  obtain ⟨g, r, rfl, _, hb⟩ := row_blockM (List.length_pos_iff.2 hne) h
  exact entsAt_of hb hne
set_option maxRecDepth 1000000 in
theorem markEntryS_none (a : Option Addr) (c : Nat) (m : Int) (w : World) : Calls Try.prog 63 #[.slice a 0 c, .int .i64 m] w fun e w' => e = .returned (.int .i64 m) ∧ w' = w := by
  go_enter Try.func63, Try.ntmps63
  go_wp2
  go_loopg [1, 5] 0 (fun _ y i wr => wr = w ∧ i = .int .i64 0 ∧ y = .int .i64 m)
  case atStart => exact ⟨rfl, rfl, rfl⟩
  case round =>
    obtain ⟨rfl, rfl, rfl⟩ := hrel
    go_wp2
    go_ret
    exact ⟨rfl, rfl⟩
theorem markE_own (lo : Nat) (va : Option Addr) (vc m : Nat) (l : List EntD) (hm : m ≤ 10000000) (hl : l.length ≤ 1048576) (w : World) (h : w.ownsRow lo 69 3 (.slice va l.length vc) l.length (entCells l)) :
    Calls Try.prog 63 #[.slice va l.length vc, .int .i64 m] w fun e w' => e = .returned (.int .i64 ((m + 3 * l.length : Nat) : Int)) ∧ w'.ownsRow lo 69 3 (.slice va l.length vc) l.length (entCells (marksE m l.length)) ∧ w.grownBy w' (Value.slice va l.length vc).ownBlock := by
  by_cases h0 : l = []
  · subst h0
    refine Calls.mono (markEntryS_none va vc m w) ?_
    rintro e w' ⟨rfl, rfl⟩
    exact ⟨rfl, h, World.grownBy.refl _ _⟩
  · obtain ⟨g, r, rfl, hg, hb⟩ := row_blockM (List.length_pos_iff.2 h0) h
    refine Calls.mono (markEntryS_any g l vc m r hm hl w hb) ?_
    rintro e w' ⟨rfl, h2, h3⟩
    exact ⟨rfl, row_turnM h hb h2 (by rw [entCells_length, entCells_length, marksE_length]), h3⟩
theorem markC_own (lo : Nat) (va : Option Addr) (vc m : Nat) (zs : List Int) (hm : m ≤ 10000000) (hl : zs.length ≤ 1048576) (w : World) (h : w.ownsRow lo 3 1 (.slice va zs.length vc) zs.length (intCells zs)) :
    Calls Try.prog 31 #[.slice va zs.length vc, .int .i64 m] w fun e w' => e = .returned (.int .i64 ((m + zs.length : Nat) : Int)) ∧ IntsAt w' va (countFrom m zs.length) ∧ w.grownBy w' (Value.slice va zs.length vc).ownBlock := by
  by_cases h0 : zs = []
  · subst h0
    refine Calls.mono (markIntS_nil va vc m w) ?_
    rintro e w' ⟨rfl, rfl⟩
    exact ⟨rfl, fun q => absurd rfl q, World.grownBy.refl _ _⟩
  · obtain ⟨g, r, rfl, hg, hb⟩ := row_blockM (List.length_pos_iff.2 h0) h
    refine Calls.mono (markIntS_more g zs r vc m hm hl w hb) ?_
    rintro e w' ⟨rfl, ⟨r', hr⟩, h3⟩
    exact ⟨rfl, intsAt_of hr, h3⟩
end Go.Proofs.Ytglibbpigmpanaa

namespace Go.Proofs.Ytglibbpigmpanaa
open Go.RowKit

/-- the k-th mark from m on -/
def markPeerD (m k : Nat) : PeerD := ⟨((m + 4 * k : Nat) : Int), ((m + 4 * k + 1 : Nat) : Int), ((m + 4 * k + 2 : Nat) : Int), ((m + 4 * k + 3 : Nat) : Int)⟩
def marksPeer (m n : Nat) : List PeerD := (List.range n).map (markPeerD m)
theorem marksPeer_length (m n : Nat) : (marksPeer m n).length = n := by simp [marksPeer]
theorem marksPeer_succ (m n : Nat) : marksPeer m (n + 1) = marksPeer m n ++ [markPeerD m n] := by simp [marksPeer, List.range_succ]
/-- the cells with the first k marked -/
def markedPeer (m k : Nat) (l : List PeerD) (r : List Value) : List Value := peerCells (marksPeer m k) ++ (peerCells (l.drop k) ++ r)
theorem markedPeer_all (m : Nat) (l : List PeerD) (r : List Value) : markedPeer m l.length l r = peerCells (marksPeer m l.length) ++ r := by
  simp [markedPeer, peerCells]
theorem markedPeer_split (m k : Nat) (l : List PeerD) (r : List Value) (hk : k < l.length) :
    markedPeer m k l r = peerCells (marksPeer m k) ++ .int .i64 l[k].pid :: .int .i64 l[k].next :: .int .i64 l[k].upto :: .int .i64 l[k].sent :: (peerCells (l.drop (k + 1)) ++ r) := by
  rw [markedPeer, List.drop_eq_getElem_cons hk]
  rfl
theorem markedPeer_step (m k : Nat) (l : List PeerD) (r : List Value) (hk : k < l.length) :
    ((((markedPeer m k l r).set (k * 4) (.int .i64 ((m + 4 * k : Nat) : Int))).set (k * 4 + 1) (.int .i64 ((m + 4 * k + 1 : Nat) : Int))).set (k * 4 + 2) (.int .i64 ((m + 4 * k + 2 : Nat) : Int))).set (k * 4 + 3) (.int .i64 ((m + 4 * k + 3 : Nat) : Int)) = markedPeer m (k + 1) l r := by
  have e3 := peer_sets (peerCells (marksPeer m k)) (.int .i64 ((m + 4 * k : Nat) : Int)) (.int .i64 ((m + 4 * k + 1 : Nat) : Int)) (.int .i64 ((m + 4 * k + 2 : Nat) : Int)) (.int .i64 ((m + 4 * k + 3 : Nat) : Int)) (.int .i64 l[k].pid) (.int .i64 l[k].next) (.int .i64 l[k].upto) (.int .i64 l[k].sent) (peerCells (l.drop (k + 1)) ++ r)
  rw [peerCells_length, marksPeer_length] at e3
  rw [markedPeer_split m k l r hk, e3, markedPeer, marksPeer_succ]
  simp [peerCells, peerEnc, markPeerD]
theorem markedPeer_at (m k : Nat) (l : List PeerD) (r : List Value) (hk : k < l.length) :
    (markedPeer m k l r)[k * 4]? = some (.int .i64 l[k].pid) ∧ (markedPeer m k l r)[k * 4 + 1]? = some (.int .i64 l[k].next) ∧ (markedPeer m k l r)[k * 4 + 2]? = some (.int .i64 l[k].upto) ∧ (markedPeer m k l r)[k * 4 + 3]? = some (.int .i64 l[k].sent) := by
  have hlen : (peerCells (marksPeer m k)).length = k * 4 := by rw [peerCells_length, marksPeer_length]
  rw [markedPeer_split m k l r hk]
  refine ⟨?_, ?_, ?_, ?_⟩
  · rw [List.getElem?_append_right (by omega), hlen, Nat.sub_self]; rfl
  · rw [List.getElem?_append_right (by omega), hlen, show k * 4 + 1 - k * 4 = 1 by omega]; rfl
  · rw [List.getElem?_append_right (by omega), hlen, show k * 4 + 2 - k * 4 = 2 by omega]; rfl
  · rw [List.getElem?_append_right (by omega), hlen, show k * 4 + 3 - k * 4 = 3 by omega]; rfl

set_option maxRecDepth 1000000 in
set_option maxHeartbeats 1000000 in
theorem markPeerS_any (g : Nat) (l : List PeerD) (cap m : Nat) (r : List Value) (hm : m ≤ 10000000) (hl : l.length ≤ 1048576) (w : World) (hb : BlockIs w g 67 (peerCells l ++ r)) :
    Calls Try.prog 33 #[.slice (some ⟨g, 0, none⟩) l.length cap, .int .i64 m] w fun e w' => e = .returned (.int .i64 ((m + 4 * l.length : Nat) : Int)) ∧ BlockIs w' g 67 (peerCells (marksPeer m l.length) ++ r) ∧ w.grownBy w' (some g) := by
  have HB : Hid (BlockIs w g 67 (markedPeer m 0 l r)) := hb
  clear hb
  go_enter Try.func33, Try.ntmps33
  go_wp2
  go_loopg [1, 5] l.length (fun q y i wr => ∃ (k : Nat), k + q = l.length ∧ i = .int .i64 k ∧ y = .int .i64 ((m + 4 * k : Nat) : Int) ∧ Hid (BlockIs wr g 67 (markedPeer m k l r)) ∧ Hid (w.grownBy wr (some g)))
  case atStart => exact ⟨0, by omega, rfl, rfl, HB, World.grownBy.refl _ _⟩
  case round =>
    obtain ⟨k, hkg, rfl, rfl, FB, GR⟩ := hrel
    clear HB
    cases gk with
    | zero =>
      have hlt : ¬ (k : Int) < (l.length : Int) := by omega
      obtain rfl : k = l.length := by omega
      rw [markedPeer_all] at FB
      go_wp2
      go_ret
      exact ⟨rfl, FB.out, GR.out⟩
    | succ q =>
      have hlt : k < l.length := by omega
      have hlt' : (k : Int) < (l.length : Int) := by omega
      have hat := hid (markedPeer_at m k l r hlt)
      have hstep := hid (markedPeer_step m k l r hlt)
      obtain ⟨K, hK⟩ : ∃ K, m + 4 * k = K := ⟨_, rfl⟩
      have hKl : K ≤ 20000000 := by omega
      rw [hK] at hstep ⊢
      have x0 : (wr).cell? ⟨g, k * 4, none⟩ = some (.int .i64 l[k].pid) := (FB.out).cell (hat.out.1)
      have f0 : (wr).frozen? ⟨g, k * 4, none⟩ = false := (FB.out).thaw _
      have x1 : ((wr).setCell ⟨g, k * 4, none⟩ (.int .i64 ((K : Int)))).cell? ⟨g, k * 4 + 1, none⟩ = some (.int .i64 l[k].next) := ((FB.out).set (k * 4) (.int .i64 ((K : Int)))).cell (peer_set_other (hat.out.2.1) (by omega))
      have f1 : ((wr).setCell ⟨g, k * 4, none⟩ (.int .i64 ((K : Int)))).frozen? ⟨g, k * 4 + 1, none⟩ = false := ((FB.out).set (k * 4) (.int .i64 ((K : Int)))).thaw _
      have x2 : (((wr).setCell ⟨g, k * 4, none⟩ (.int .i64 ((K : Int)))).setCell ⟨g, k * 4 + 1, none⟩ (.int .i64 ((K : Int) + 1))).cell? ⟨g, k * 4 + 2, none⟩ = some (.int .i64 l[k].upto) := (((FB.out).set (k * 4) (.int .i64 ((K : Int)))).set (k * 4 + 1) (.int .i64 ((K : Int) + 1))).cell (peer_set_other (peer_set_other (hat.out.2.2.1) (by omega)) (by omega))
      have f2 : (((wr).setCell ⟨g, k * 4, none⟩ (.int .i64 ((K : Int)))).setCell ⟨g, k * 4 + 1, none⟩ (.int .i64 ((K : Int) + 1))).frozen? ⟨g, k * 4 + 2, none⟩ = false := (((FB.out).set (k * 4) (.int .i64 ((K : Int)))).set (k * 4 + 1) (.int .i64 ((K : Int) + 1))).thaw _
      have x3 : ((((wr).setCell ⟨g, k * 4, none⟩ (.int .i64 ((K : Int)))).setCell ⟨g, k * 4 + 1, none⟩ (.int .i64 ((K : Int) + 1))).setCell ⟨g, k * 4 + 2, none⟩ (.int .i64 ((K : Int) + 1 + 1))).cell? ⟨g, k * 4 + 3, none⟩ = some (.int .i64 l[k].sent) := ((((FB.out).set (k * 4) (.int .i64 ((K : Int)))).set (k * 4 + 1) (.int .i64 ((K : Int) + 1))).set (k * 4 + 2) (.int .i64 ((K : Int) + 1 + 1))).cell (peer_set_other (peer_set_other (peer_set_other (hat.out.2.2.2) (by omega)) (by omega)) (by omega))
      have f3 : ((((wr).setCell ⟨g, k * 4, none⟩ (.int .i64 ((K : Int)))).setCell ⟨g, k * 4 + 1, none⟩ (.int .i64 ((K : Int) + 1))).setCell ⟨g, k * 4 + 2, none⟩ (.int .i64 ((K : Int) + 1 + 1))).frozen? ⟨g, k * 4 + 3, none⟩ = false := ((((FB.out).set (k * 4) (.int .i64 ((K : Int)))).set (k * 4 + 1) (.int .i64 ((K : Int) + 1))).set (k * 4 + 2) (.int .i64 ((K : Int) + 1 + 1))).thaw _
      have DL := hid (((((FB.out).set (k * 4) (.int .i64 ((K : Int)))).set (k * 4 + 1) (.int .i64 ((K : Int) + 1))).set (k * 4 + 2) (.int .i64 ((K : Int) + 1 + 1))).set (k * 4 + 3) (.int .i64 ((K : Int) + 1 + 1 + 1)))
      have GL := hid (((((GR.out).trans (grownBy_set _ g (k * 4) (.int .i64 ((K : Int))))).trans (grownBy_set _ g (k * 4 + 1) (.int .i64 ((K : Int) + 1)))).trans (grownBy_set _ g (k * 4 + 2) (.int .i64 ((K : Int) + 1 + 1)))).trans (grownBy_set _ g (k * 4 + 3) (.int .i64 ((K : Int) + 1 + 1 + 1))))
      rw [show ((K : Int) + 1 + 1 + 1) = ((K + 3 : Nat) : Int) by omega] at DL
      rw [show ((K : Int) + 1 + 1) = ((K + 2 : Nat) : Int) by omega] at DL
      rw [show ((K : Int) + 1) = ((K + 1 : Nat) : Int) by omega] at DL
      rw [hstep.out] at DL
      clear hat hstep FB GR
      go_wp2
      go_roundg q
      case measure => omega
      case rel => exact ⟨k + 1, by omega, by go_num, by rw [← show K + 4 = m + 4 * (k + 1) by omega]; go_num, DL, GL⟩
end Go.Proofs.Ytglibbpigmpanaa

namespace Go.Proofs.Ytglibbpigmpanaa
open Go.RowKit Go.Sort

set_option maxRecDepth 1000000 in
set_option maxHeartbeats 1000000 in
theorem heldPeerS_any (ao : Option Addr) (n cap m : Nat) (hm : m ≤ 10000000) (hl : n ≤ 1048576) (w : World) (ha : PeersAt w ao (marksPeer m n)) :
    Calls Try.prog 36 #[.slice ao n cap, .int .i64 m] w fun e w' => e = .returned (.int .i64 ((m + 4 * n : Nat) : Int)) ∧ Below w.heap.size w w' := by
  have HA := hid ha
  clear ha
  go_enter Try.func36, Try.ntmps36
  go_wp2
  go_loopg [1, 5] n (fun q y i wr => ∃ (k : Nat), k + q = n ∧ i = .int .i64 k ∧ y = .int .i64 ((m + 4 * k : Nat) : Int) ∧ Hid (Below w.heap.size w wr))
  case atStart => exact ⟨0, by omega, rfl, rfl, (show Below _ _ _ from Below.refl _ _)⟩
  case round =>
    obtain ⟨k, hkg, rfl, rfl, BR⟩ := hrel
    cases gk with
    | zero =>
      have hlt : ¬ (k : Int) < (n : Int) := by omega
      obtain rfl : k = n := by omega
      go_wp2
      go_ret
      exact ⟨rfl, BR.out⟩
    | succ q =>
      have hlt : k < n := by omega
      have hlt' : (k : Int) < (n : Int) := by omega
      have hkm : k < (marksPeer m n).length := by rw [marksPeer_length]; exact hlt
      have hne : marksPeer m n ≠ [] := by intro e; rw [e] at hkm; simp at hkm
      have hmk : (marksPeer m n)[k] = markPeerD m k := by simp [marksPeer]
      obtain ⟨b, off, rfl, hc⟩ := HA.out.on BR.out hne
      obtain ⟨x0, x1, x2, x3⟩ := hc k hkm
      rw [hmk] at x0 x1 x2 x3
      simp only [markPeerD] at x0 x1 x2 x3
      clear hmk hne hkm hc
      obtain ⟨K, hK⟩ : ∃ K, m + 4 * k = K := ⟨_, rfl⟩
      have hKl : K ≤ 20000000 := by omega
      rw [hK] at x0 x1 x2 x3 ⊢
      rw [show ((K + 1 : Nat) : Int) = (K : Int) + 1 by omega] at x1
      rw [show ((K + 2 : Nat) : Int) = (K : Int) + 1 + 1 by omega] at x2
      rw [show ((K + 3 : Nat) : Int) = (K : Int) + 1 + 1 + 1 by omega] at x3
      have BL := BR
      go_wp2
      go_roundg q
      case measure => omega
      case rel => exact ⟨k + 1, by omega, by go_num, by rw [← show K + 4 = m + 4 * (k + 1) by omega]; go_num, BL⟩
end Go.Proofs.Ytglibbpigmpanaa
