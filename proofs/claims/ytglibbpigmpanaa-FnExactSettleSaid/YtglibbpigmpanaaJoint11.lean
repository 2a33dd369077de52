/-
  The walk of laws.toLog: a log is laid anew, in memory of its own.
  The walks of laws.toPeer, toPeerS: laid anew, in memory of its own.
-/
import Derived.Test.YtglibbpigmpanaaJoint10
import Derived.Test.YtglibbpigmpanaaJoint4
import Derived.OwnWalk
import Derived.Test.YtglibbpigmpanaaJoint1
import Derived.Test.YtglibbpigmpanaaRows
namespace Go.Proofs.Ytglibbpigmpanaa
open Go.RowKit

/-- three blocks laid one behind the other -/
theorem three_log (w : World) (o p q : Obj) : Below w.heap.size w (((w.alloc o).alloc p).alloc q) ∧ (((w.alloc o).alloc p).alloc q).heap.size = w.heap.size + 3 ∧ (((w.alloc o).alloc p).alloc q).heap[w.heap.size + 1]? = some p ∧ (((w.alloc o).alloc p).alloc q).heap[w.heap.size + 1 + 1]? = some q := by
  refine ⟨below_more (below_more (below_more (Below.refl _ w) _) _) _, ?_, ?_, ?_⟩
  · simp [World.alloc, -World.alloc_eq]
  · show (((w.heap.push o).push p).push q)[w.heap.size + 1]? = some p
    rw [Array.getElem?_push, if_neg (by simp), Array.getElem?_push, if_pos (by simp)]
  · show (((w.heap.push o).push p).push q)[w.heap.size + 1 + 1]? = some q
    rw [Array.getElem?_push, if_pos (by simp)]

set_option maxRecDepth 1000000 in
set_option maxHeartbeats 1000000 in
theorem toLog_any (s t : Int) (ao : Option Addr) (l : List EntD) (cap : Nat) (hl : l.length ≤ 1048576) (w : World) (ha : EntsAt w ao l) :
    Calls Try.prog 21 #[.agg #[.int .i64 s, .int .i64 t, .slice ao l.length cap]] w fun e w' => ∃ g, w.heap.size ≤ g ∧ e = .returned (.agg #[.int .i64 s, .int .i64 t, .slice (some ⟨g, 0, none⟩) l.length l.length]) ∧ BlockIs w' g 69 (entCells l) ∧ Below w.heap.size w w' := by
  have C := hid (fun w ha => toEntryS_any ao l cap hl w ha)
  have HA := hid ha
  clear ha
  have H3 := hid (three_log w (.cells #[.int .i64 s, .int .i64 t, .slice ao l.length cap] 25) (.cells #[.int .i64 0, .int .i64 0, .slice none 0 0] 32) (.cells #[.int .i64 s, .int .i64 t, .slice none 0 0] 32))
  go_enter Try.func21, Try.ntmps21
  go_wp2_with fail
  refine (C.out _ (HA.out.on H3.out.1)).mono ?_
  rintro e w1 ⟨rfl, hbl, b1⟩
  obtain ⟨hb0, hs0, hx1, hx2⟩ := H3.out
  rw [hs0] at hbl b1 ⊢
  have k1 : BlockIs w1 (w.heap.size + 1) 32 [.int .i64 0, .int .i64 0, .slice none 0 0] := BlockIs.on (show BlockIs _ _ _ _ from hx1) b1 (by omega)
  have k2 : BlockIs w1 (w.heap.size + 1 + 1) 32 [.int .i64 s, .int .i64 t, .slice none 0 0] := BlockIs.on (show BlockIs _ _ _ _ from hx2) b1 (by omega)
  have c10 := k1.cell (j := 0) rfl
  have c11 := k1.cell (j := 1) rfl
  have c12 := k1.cell (j := 2) rfl
  have c20 := k2.cell (j := 0) rfl
  have c21 := k2.cell (j := 1) rfl
  have c22 := k2.cell (j := 2) rfl
  have f10 := k1.thaw 0
  have f11 := k1.thaw 1
  have f12 := k1.thaw 2
  have f2 := k2.thaw 2
  have B1 := hid (hb0.trans (b1.mono (by omega)))
  have HB := hid hbl
  clear hbl b1 C H3 hb0 hs0 hx1 hx2 k1 k2
  go_wp2
  refine bodyPost_ret (v := .agg #[.int .i64 s, .int .i64 t, .slice (some ⟨w.heap.size + 3, 0, none⟩) l.length l.length]) (by simp [results, Try.results21, go_sem, c10, c11, c12]) rfl ⟨_, Nat.le_add_right _ _, rfl, ?_, ?_⟩
  · exact (((HB.out.far (by omega) _).far (by omega) _).far (by omega) _).far (by omega) _
  · exact (((B1.out.setCell (by show _ ≤ _ + 1 + 1; omega) _).setCell (by show _ ≤ _ + 1; omega) _).setCell (by show _ ≤ _ + 1; omega) _).setCell (by show _ ≤ _ + 1; omega) _
end Go.Proofs.Ytglibbpigmpanaa

namespace Go.Proofs.Ytglibbpigmpanaa
open Go.RowKit

set_option maxRecDepth 1000000 in
theorem toPeer_any (d : PeerD) (w : World) :
    Calls Try.prog 47 #[.agg #[.int .i64 d.pid, .int .i64 d.next, .int .i64 d.upto, .int .i64 d.sent]] w fun e w' => e = .returned (.agg #[.int .i64 d.pid, .int .i64 d.next, .int .i64 d.upto, .int .i64 d.sent]) ∧ Below w.heap.size w w' := by
  go_enter Try.func47, Try.ntmps47
  go_wp2
  refine bodyPost_ret (v := .agg #[.int .i64 d.pid, .int .i64 d.next, .int .i64 d.upto, .int .i64 d.sent]) (by simp [results, Try.results47, go_sem]) rfl ⟨rfl, below_more (below_more (below_more (Below.refl _ w) _) _) _⟩

set_option maxRecDepth 1000000 in
set_option maxHeartbeats 1000000 in
theorem toPeerS_any (ao : Option Addr) (l : List PeerD) (cap : Nat) (hl : l.length ≤ 1048576) (w : World) (ha : PeersAt w ao l) :
    Calls Try.prog 22 #[.slice ao l.length cap] w fun e w' => e = .returned (.slice (some ⟨w.heap.size, 0, none⟩) l.length l.length) ∧ BlockIs w' w.heap.size 67 (peerCells l) ∧ Below w.heap.size w w' := by
  obtain ⟨i0, hi, hz0, hz1, hz2⟩ := info_parts toPeer_info
  have HA := hid ha
  clear ha
  go_enter Try.func22, Try.ntmps22
  go_wp2_with (at_make; refine wpList_make_full _ rfl (.tmp 6) (.tmp 6) 33 rfl w.heap.size 67 i0 (.agg #[.int .i64 0, .int .i64 0, .int .i64 0, .int .i64 0]) 4 Try.underlying33 hi hz0 hz1 _ _ _ _ l.length rfl rfl rfl rfl ?b2 ?b3 ?b4 ?_)
  case b2 => rw [hz2]; omega
  case b3 => unfold maxLen; omega
  case b4 => exact Nat.le_refl _
  intro w1 hown hgrow
  have HM := hid (BlockIs.made hown)
  have hB1 := (Below.refl w.heap.size w).grown hgrow (Nat.le_refl _) (fun k h => by cases h)
  have B1 := hid hB1
  clear hown hgrow hB1
  go_wp2
  go_loopg [4] l.length (fun g i wr => ∃ (k : Nat), k + g = l.length ∧ i = .int .i64 k ∧ Hid (Below w.heap.size w wr) ∧ ∃ rest, Hid (rest.length = (l.length - k) * 4) ∧ Hid (BlockIs wr w.heap.size 67 (peerCells (l.take k) ++ rest)))
  case atStart => exact ⟨0, by omega, rfl, B1, _, made_peer l.length, HM⟩
  case round =>
    obtain ⟨k, hkg, rfl, BR, rest, hrl, FP⟩ := hrel
    clear HM B1
    cases gk with
    | zero =>
      have hlt : ¬ (k : Int) < (l.length : Int) := by omega
      have HP : Hid (BlockIs wr w.heap.size 67 (peerCells l)) := by
        have h0 : rest = [] := List.length_eq_zero_iff.1 (by rw [hrl.out, show l.length - k = 0 by omega, Nat.zero_mul])
        have := FP.out
        rw [h0, List.append_nil, List.take_of_length_le (by omega)] at this
        exact this
      clear FP hrl
      go_wp2
      go_ret
      exact ⟨rfl, HP.out, BR.out⟩
    | succ g =>
      have hlt : k < l.length := by omega
      have hlt' : (k : Int) < (l.length : Int) := by omega
      have hne : l ≠ [] := by intro e; rw [e] at hlt; simp at hlt
      obtain ⟨b, off, rfl, hc⟩ := HA.out.on BR.out hne
      obtain ⟨x0, x1, x2, x3⟩ := hc k hlt
      clear hc
      have C := hid (toPeer_any l[k])
      go_wp2_with fail
      refine (C.out _).mono ?_
      rintro e w2 ⟨rfl, b2⟩
      obtain ⟨⟨z0, z1, z2, z3, y0, y1, y2, y3⟩, hf, r', hr', hnew⟩ := put_peer hlt FP.out hrl.out b2 FP.out.lt
      have B2 := hid (below_via BR.out b2)
      have f0 := hf (k * 4)
      have f1 := hf (k * 4 + 1)
      have f2 := hf (k * 4 + 2)
      have f3 := hf (k * 4 + 3)
      have HN := hid hnew
      have HR := hid hr'
      clear x0 x1 x2 x3 C hf hnew hr' b2 FP hrl BR
      go_wp2
      go_roundg g
      case measure => omega
      case rel => exact ⟨k + 1, by omega, by go_num, (((B2.out.setCell (Nat.le_refl _) _).setCell (Nat.le_refl _) _).setCell (Nat.le_refl _) _).setCell (Nat.le_refl _) _, r', HR, HN⟩
end Go.Proofs.Ytglibbpigmpanaa
