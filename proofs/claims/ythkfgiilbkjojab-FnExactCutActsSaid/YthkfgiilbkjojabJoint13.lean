/-
  The walk of laws.toActS: acts are laid anew, in memory of their own.
-/
import Derived.Test.YthkfgiilbkjojabJoint11
namespace Go.Proofs.Ythkfgiilbkjojab
open Go.RowKit

theorem toAct_info : (Try.prog.info? 56).map (fun i => (i.zero, i.size, i.bytes)) = some (some (.agg #[.int .i64 0, .string ByteArray.empty, .string ByteArray.empty, .string ByteArray.empty]), 4, 56) := by kernel_rfl
/-- four cells of a list, written -/
theorem set_four (p : List Value) (a b c d x y z u : Value) (r : List Value) : ((((p ++ x :: y :: z :: u :: r).set p.length a).set (p.length + 1) b).set (p.length + 2) c).set (p.length + 3) d = p ++ a :: b :: c :: d :: r := by
  rw [List.set_append_right _ _ (Nat.le_refl _), List.set_append_right _ _ (by omega), List.set_append_right _ _ (by omega), List.set_append_right _ _ (by omega)]
  simp
/-- an act's four cells are written -/
theorem put_act {w w2 : World} {g k : Nat} {t : TypeId} {acts : List ActD} {r : List Value} (hk : k < acts.length) (h : BlockIs w g t (actCells (acts.take k) ++ r)) (hr : r.length = (acts.length - k) * 4) {B : Nat} (hb : Below B w w2) (hg : g < B) :
    (∃ x y z u, w2.cell? ⟨g, k * 4, none⟩ = some x ∧ w2.cell? ⟨g, k * 4 + 1, none⟩ = some y ∧ w2.cell? ⟨g, k * 4 + 2, none⟩ = some z ∧ w2.cell? ⟨g, k * 4 + 3, none⟩ = some u) ∧ (∀ j, w2.frozen? ⟨g, j, none⟩ = false) ∧
    ∃ r', r'.length = (acts.length - (k + 1)) * 4 ∧ BlockIs ((((w2.setCell ⟨g, k * 4, none⟩ (.int .i64 acts[k].kind)).setCell ⟨g, k * 4 + 1, none⟩ (.string acts[k].name)).setCell ⟨g, k * 4 + 2, none⟩ (.string acts[k].text)).setCell ⟨g, k * 4 + 3, none⟩ (.string acts[k].to)) g t (actCells (acts.take (k + 1)) ++ r') := by
  have h2 := h.on hb hg
  have hlen : (actCells (acts.take k)).length = k * 4 := by rw [actCells_length, List.length_take]; omega
  match r, hr with
  | x :: y :: z :: u :: r', hr =>
    have hs := (((h2.set (k * 4) (.int .i64 acts[k].kind)).set (k * 4 + 1) (.string acts[k].name)).set (k * 4 + 2) (.string acts[k].text)).set (k * 4 + 3) (.string acts[k].to)
    have e4 := set_four (actCells (acts.take k)) (.int .i64 acts[k].kind) (.string acts[k].name) (.string acts[k].text) (.string acts[k].to) x y z u r'
    rw [hlen] at e4
    rw [e4] at hs
    refine ⟨⟨x, y, z, u, h2.cell ?_, h2.cell ?_, h2.cell ?_, h2.cell ?_⟩, fun j => h2.thaw j, r', ?_, ?_⟩
    · rw [List.getElem?_append_right (by omega), hlen, Nat.sub_self]; rfl
    · rw [List.getElem?_append_right (by omega), hlen, show k * 4 + 1 - k * 4 = 1 by omega]; rfl
    · rw [List.getElem?_append_right (by omega), hlen, show k * 4 + 2 - k * 4 = 2 by omega]; rfl
    · rw [List.getElem?_append_right (by omega), hlen, show k * 4 + 3 - k * 4 = 3 by omega]; rfl
    · simp at hr; omega
    · rw [actCells_take acts k hk, List.append_assoc]
      exact hs
  | [], hr => simp at hr; omega
  | [_], hr => simp at hr; omega
  | [_, _], hr => simp at hr; omega
  | [_, _, _], hr => simp at hr; omega
theorem made_acts (n : Nat) : (madeCells (Value.agg #[.int .i64 0, .string ByteArray.empty, .string ByteArray.empty, .string ByteArray.empty]).cells (n * 4)).toList.length = n * 4 := by
  simp [madeCells]

set_option maxRecDepth 1000000 in
set_option maxHeartbeats 1000000 in
theorem toActS_any (ao : Option Addr) (acts : List ActD) (cap : Nat) (hl : acts.length ≤ 1048576) (w : World) (ha : ActsAt w ao acts) :
    Calls Try.prog 9 #[.slice ao acts.length cap] w fun e w' => e = .returned (.slice (some ⟨w.heap.size, 0, none⟩) acts.length acts.length) ∧ BlockIs w' w.heap.size 56 (actCells acts) ∧ Below w.heap.size w w' := by
  obtain ⟨i0, hi, hz0, hz1, hz2⟩ := info_parts toAct_info
  have HA := hid ha
  clear ha
  go_enter Try.func9, Try.ntmps9
  go_wp2_with (at_make; refine wpList_make_full _ rfl (.tmp 6) (.tmp 6) 35 rfl w.heap.size 56 i0 (.agg #[.int .i64 0, .string ByteArray.empty, .string ByteArray.empty, .string ByteArray.empty]) 4 Try.underlying35 hi hz0 hz1 _ _ _ _ acts.length rfl rfl rfl rfl ?b2 ?b3 ?b4 ?_)
  case b2 => rw [hz2]; omega
  case b3 => unfold maxLen; omega
  case b4 => exact Nat.le_refl _
  intro w1 hown hgrow
  have HM := hid (BlockIs.made hown)
  have hB1 := (Below.refl w.heap.size w).grown hgrow (Nat.le_refl _) (fun k h => by cases h)
  have B1 := (show Hid (Below w.heap.size w w1) from hB1)
  clear hown hgrow hB1
  go_wp2
  go_loopg [4] acts.length (fun g i wr => ∃ (k : Nat), k + g = acts.length ∧ i = .int .i64 k ∧ Hid (Below w.heap.size w wr) ∧ ∃ rest, Hid (rest.length = (acts.length - k) * 4) ∧ Hid (BlockIs wr w.heap.size 56 (actCells (acts.take k) ++ rest)))
  case atStart => exact ⟨0, by omega, rfl, B1, _, made_acts acts.length, HM⟩
  case round =>
    obtain ⟨k, hkg, rfl, BR, rest, hrl, FP⟩ := hrel
    clear HM B1
    cases gk with
    | zero =>
      have hlt : ¬ (k : Int) < (acts.length : Int) := by omega
      have HP : Hid (BlockIs wr w.heap.size 56 (actCells acts)) := by
        have h0 : rest = [] := List.length_eq_zero_iff.1 (by rw [hrl.out, show acts.length - k = 0 by omega])
        have := FP.out
        rw [h0, List.append_nil, List.take_of_length_le (by omega)] at this
        exact this
      clear FP hrl
      go_wp2
      go_ret
      exact ⟨rfl, HP.out, BR.out⟩
    | succ g =>
      have hlt : k < acts.length := by omega
      have hlt' : (k : Int) < (acts.length : Int) := by omega
      have hne : acts ≠ [] := by intro e; rw [e] at hlt; simp at hlt
      obtain ⟨b, off, rfl, hc⟩ := HA.out.on BR.out hne
      obtain ⟨x0, x1, x2, x3⟩ := hc k hlt
      clear hc
      have C := hid (toAct_any acts[k])
      unfold ActD.value at C
      go_wp2_with fail
      refine (C.out _).mono ?_
      rintro e w2 ⟨rfl, b2⟩
      obtain ⟨⟨z0, z1, z2, z3, y0, y1, y2, y3⟩, hf, r', hr', hnew⟩ := put_act hlt FP.out hrl.out b2 FP.out.lt
      have B2 := hid (below_via BR.out b2)
      have f0 := hf (k * 4)
      have f1 := hf (k * 4 + 1)
      have f2 := hf (k * 4 + 2)
      have f3 := hf (k * 4 + 3)
      have HN := hid hnew
      have HR := hid hr'
      clear x0 x1 x2 x3 C hf hnew hr' b2 FP hrl BR
      go_wp2
      go_roundg g
      case measure => omega
      case rel => exact ⟨k + 1, by omega, by go_num, (((B2.out.setCell (Nat.le_refl _) _).setCell (Nat.le_refl _) _).setCell (Nat.le_refl _) _).setCell (Nat.le_refl _) _, r', HR, HN⟩
end Go.Proofs.Ythkfgiilbkjojab
