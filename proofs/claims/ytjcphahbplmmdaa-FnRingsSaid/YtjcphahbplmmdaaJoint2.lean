/-
  The walks of laws.toSlot, toSlotS: laid anew, in memory of its own.
-/
import Derived.Test.YtjcphahbplmmdaaJoint1
import Derived.Test.YtjcphahbplmmdaaRows
import Derived.OwnWalk
namespace Go.Proofs.Ytjcphahbplmmdaa
open Go.RowKit

set_option maxRecDepth 1000000 in
theorem toSlot_any (d : SlotD) (w : World) :
    Calls Try.prog 60 #[.agg #[.int .i64 d.own, .string d.text]] w fun e w' => e = .returned (.agg #[.int .i64 d.own, .string d.text]) ∧ Below w.heap.size w w' := by
  go_enter Try.func60, Try.ntmps60
  go_wp2
  refine bodyPost_ret (v := .agg #[.int .i64 d.own, .string d.text]) (by simp [results, Try.results60, go_sem]) rfl ⟨rfl, below_more (below_more (below_more (Below.refl _ w) _) _) _⟩

theorem toSlot_info : (Try.prog.info? 52).map (fun i => (i.zero, i.size, i.bytes)) = some (some (.agg #[.int .i64 0, .string ByteArray.empty]), 2, 24) := by kernel_rfl
/-- an element's cells are written -/
theorem put_slot {w w2 : World} {g k : Nat} {t : TypeId} {l : List SlotD} {r : List Value} (hk : k < l.length) (h : BlockIs w g t (slotCells (l.take k) ++ r)) (hr : r.length = (l.length - k) * 2) {B : Nat} (hb : Below B w w2) (hg : g < B) :
    (∃ o0 o1, w2.cell? ⟨g, k * 2, none⟩ = some o0 ∧ w2.cell? ⟨g, k * 2 + 1, none⟩ = some o1) ∧ (∀ j, w2.frozen? ⟨g, j, none⟩ = false) ∧
    ∃ r', r'.length = (l.length - (k + 1)) * 2 ∧ BlockIs ((w2.setCell ⟨g, k * 2, none⟩ (.int .i64 l[k].own)).setCell ⟨g, k * 2 + 1, none⟩ (.string l[k].text)) g t (slotCells (l.take (k + 1)) ++ r') := by
  have h2 := h.on hb hg
  have hlen : (slotCells (l.take k)).length = k * 2 := by rw [slotCells_length, List.length_take]; omega
  match r, hr with
  | z0 :: z1 :: r', hr =>
    have hs := (h2.set (k * 2) (.int .i64 l[k].own)).set (k * 2 + 1) (.string l[k].text)
    have e3 := slot_sets (slotCells (l.take k)) (.int .i64 l[k].own) (.string l[k].text) z0 z1 r'
    rw [hlen] at e3
    rw [e3] at hs
    refine ⟨⟨z0, z1, h2.cell ?_, h2.cell ?_⟩, fun j => h2.thaw j, r', ?_, ?_⟩
    · rw [List.getElem?_append_right (by omega), hlen, Nat.sub_self]; rfl
    · rw [List.getElem?_append_right (by omega), hlen, show k * 2 + 1 - k * 2 = 1 by omega]; rfl
    · simp at hr; omega
    · rw [slotCells_take l k hk, List.append_assoc]
      exact hs
  | [], hr => simp at hr; omega
  | [_], hr => simp at hr; omega

theorem made_slot (n : Nat) : (madeCells (Value.agg #[.int .i64 0, .string ByteArray.empty]).cells (n * 2)).toList.length = n * 2 := by
  simp [madeCells]

set_option maxRecDepth 1000000 in
set_option maxHeartbeats 1000000 in
theorem toSlotS_any (ao : Option Addr) (l : List SlotD) (cap : Nat) (hl : l.length ≤ 1048576) (w : World) (ha : SlotsAt w ao l) :
    Calls Try.prog 47 #[.slice ao l.length cap] w fun e w' => e = .returned (.slice (some ⟨w.heap.size, 0, none⟩) l.length l.length) ∧ BlockIs w' w.heap.size 52 (slotCells l) ∧ Below w.heap.size w w' := by
  obtain ⟨i0, hi, hz0, hz1, hz2⟩ := info_parts toSlot_info
  have HA := hid ha
  clear ha
  go_enter Try.func47, Try.ntmps47
  go_wp2_with (at_make; refine wpList_make_full _ rfl (.tmp 6) (.tmp 6) 24 rfl w.heap.size 52 i0 (.agg #[.int .i64 0, .string ByteArray.empty]) 2 Try.underlying24 hi hz0 hz1 _ _ _ _ l.length rfl rfl rfl rfl ?b2 ?b3 ?b4 ?_)
  case b2 => rw [hz2]; omega
  case b3 => unfold maxLen; omega
  case b4 => exact Nat.le_refl _
  intro w1 hown hgrow
  have HM := hid (BlockIs.made hown)
  have hB1 := (Below.refl w.heap.size w).grown hgrow (Nat.le_refl _) (fun k h => by cases h)
  have B1 := hid hB1
  clear hown hgrow hB1
  go_wp2
  go_loopg [4] l.length (fun g i wr => ∃ (k : Nat), k + g = l.length ∧ i = .int .i64 k ∧ Hid (Below w.heap.size w wr) ∧ ∃ rest, Hid (rest.length = (l.length - k) * 2) ∧ Hid (BlockIs wr w.heap.size 52 (slotCells (l.take k) ++ rest)))
  case atStart => exact ⟨0, by omega, rfl, B1, _, made_slot l.length, HM⟩
  case round =>
    obtain ⟨k, hkg, rfl, BR, rest, hrl, FP⟩ := hrel
    clear HM B1
    cases gk with
    | zero =>
      have hlt : ¬ (k : Int) < (l.length : Int) := by omega
      have HP : Hid (BlockIs wr w.heap.size 52 (slotCells l)) := by
        have h0 : rest = [] := List.length_eq_zero_iff.1 (by rw [hrl.out, show l.length - k = 0 by omega, Nat.zero_mul])
        have := FP.out
        rw [h0, List.append_nil, List.take_of_length_le (by omega)] at this
        exact this
      clear FP hrl
      go_wp2
      go_ret
      exact ⟨rfl, HP.out, BR.out⟩
    | succ g =>
      have hlt : k < l.length := by omega
      have hlt' : (k : Int) < (l.length : Int) := by omega
      have hne : l ≠ [] := by intro e; rw [e] at hlt; simp at hlt
      obtain ⟨b, off, rfl, hc⟩ := HA.out.on BR.out hne
      obtain ⟨x0, x1⟩ := hc k hlt
      clear hc
      have C := hid (toSlot_any l[k])
      go_wp2_with fail
      refine (C.out _).mono ?_
      rintro e w2 ⟨rfl, b2⟩
      obtain ⟨⟨z0, z1, y0, y1⟩, hf, r', hr', hnew⟩ := put_slot hlt FP.out hrl.out b2 FP.out.lt
      have B2 := hid (below_via BR.out b2)
      have f0 := hf (k * 2)
      have f1 := hf (k * 2 + 1)
      have HN := hid hnew
      have HR := hid hr'
      clear x0 x1 C hf hnew hr' b2 FP hrl BR
      go_wp2
      go_roundg g
      case measure => omega
      case rel => exact ⟨k + 1, by omega, by go_num, (B2.out.setCell (Nat.le_refl _) _).setCell (Nat.le_refl _) _, r', HR, HN⟩
end Go.Proofs.Ytjcphahbplmmdaa
