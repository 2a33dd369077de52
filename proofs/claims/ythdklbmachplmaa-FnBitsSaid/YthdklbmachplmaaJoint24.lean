/-
  The walk of spec.l01Text: a text of at most so many bytes.
-/
import Derived.Test.YthdklbmachplmaaJoint19
namespace Go.Proofs.Ythdklbmachplmaa
open Go.RowKit

theorem curText_info5 : (Try.prog.info? 5).map (fun i => (i.zero, i.size, i.bytes)) = some (some (.int .u8 0), 1, 1) := by kernel_rfl

/-- the row and the cursor behind a round -/
theorem text_step {C k : Nat} {l : List UInt8} {w wr w2 w1 : World} {v v' : Value} {B : Obj} {x : Int} (hC : C < w.heap.size) (x0 : 0 ≤ x) (x1 : x ≤ 255) (hl : l.length = k)
    (hown : wr.ownsRow w.heap.size 5 1 v k (cs l)) (hgr : w.grownBy wr (some C)) (k2 : CurAt w2 C) (q2 : wr.grownBy w2 (some C))
    (hown' : w1.ownsRow w.heap.size 5 1 v' (k + 1) (cs l ++ [.int .u8 x])) (hgrow : (w2.alloc B).grownBy w1 v.ownBlock) :
    (∃ l', l'.length = k + 1 ∧ w1.ownsRow w.heap.size 5 1 v' (k + 1) (cs l')) ∧ CurAt w1 C ∧ w.grownBy w1 (some C) := by
  have hr : ∀ j, v.ownBlock = some j → w.heap.size ≤ j := fun j hj => (hown.lt j hj).1
  refine ⟨⟨l ++ [UInt8.ofNat x.toNat], by simp [hl], by rw [cs_append, ← cs_one x0 x1]; exact hown'⟩, ?_, ?_⟩
  · exact (k2.kept (World.grownBy_alloc w2 B none) (fun j h => by cases h)).kept hgrow (fun j hj => by have := hr j hj; omega)
  · have q3 : w.grownBy w2 (some C) := hgr.trans q2
    have q4 : w.grownBy (w2.alloc B) (some C) := q3.trans (World.grownBy_alloc w2 B (some C))
    refine ⟨hgrow.os.trans q4.os, hgrow.tape.trans q4.tape, hgrow.output.trans q4.output, Nat.le_trans q4.size hgrow.size, fun j hj hne => ?_⟩
    rw [hgrow.block j (by have := q4.size; omega) (fun e => by have := hr j e.symm; omega)]
    exact q4.block j hj hne

theorem kept_cur {w w2 : World} {base C : Nat} {v : Value} {n : Nat} {xs : List Value} (h : w.ownsRow base 5 1 v n xs) (hg : w.grownBy w2 (some C)) (hC : C < base) : w2.ownsRow base 5 1 v n xs := by
  refine h.kept hg ?_
  cases hv : v.ownBlock with
  | none => exact Or.inl rfl
  | some g =>
    refine Or.inr fun e => ?_
    have := (h.lt g hv).1
    simp at e
    omega

set_option maxRecDepth 1000000 in
set_option maxHeartbeats 1000000 in
theorem l01Text_any (C : Nat) (n : Nat) (hn : n ≤ 5000) (w : World) (hc : CurAt w C) :
    Calls Try.prog 45 #[.pointer (some ⟨C, 0, none⟩), .int .i64 n] w fun e w' => ∃ s : ByteArray, e = .returned (.string s) ∧ s.size = n ∧ CurAt w' C ∧ w.grownBy w' (some C) := by
  obtain ⟨i0, hi, hz0, hz1, hz2⟩ := info_parts curText_info5
  have hCl := hc.lt
  have HC := (show Hid (CurAt w C) from hc)
  clear hc
  have g0 : ¬ (5000 : Int) < (n : Int) := by omega
  go_enter Try.func45, Try.ntmps45
  go_wp2
  go_loopw [5, 6] (fun v i wr => ∃ (k : Nat) (l : List UInt8), k ≤ n ∧ i = .int .i64 k ∧ l.length = k ∧ wr.ownsRow w.heap.size 5 1 v k (cs l) ∧ Hid (CurAt wr C) ∧ Hid (w.grownBy wr (some C))) (fun _ i _ => n - (intOf i).toNat)
  case atStart => exact ⟨0, [], Nat.zero_le _, rfl, rfl, World.ownsRow_made w #[] 0 (Nat.le_refl _) (Nat.zero_le _) rfl, HC.out.kept (World.grownBy_alloc w _ none) (fun j h => by cases h), World.grownBy_alloc w _ (some C)⟩
  case round =>
    obtain ⟨k, l, hk, rfl, hl, hown, KC, GC⟩ := hrel
    have hsz := GC.out.size
    by_cases hlt : k < n
    · go_wp2_with fail
      refine (l01Byte_any C _ KC.out).mono ?_
      rintro e w2 ⟨x, rfl, x0, x1, k2, q2⟩
      have hown2 := kept_cur hown q2 hCl
      have hsz2 := q2.size
      have K2 := (show Hid (CurAt w2 C) from k2)
      have Q2 := (show Hid (wr.grownBy w2 (some C)) from q2)
      have HL := (show Hid _ from hl)
      clear k2 q2 hl
      go_wp2_with (at_builtin; refine wpList_append_own _ rfl (.tmp 15) (.tmp 19) 22 rfl w.heap.size 5 i0 (.int .u8 0) 1 1 Try.underlying22 hi hz0 hz1 hz2 rfl (by decide) _ _ _ rfl (hown2.alloc _) ⟨w2.heap.size, 0, none⟩ 1 1 [.int .u8 x] rfl rfl (one_new _ _ _) (by intro u hu; simp at hu; subst hu; rfl) (by unfold maxLen; omega) (by omega) (by simp; omega) ?_)
      intro v' w1 hown' hgrow _
      obtain ⟨⟨l', r1, r2⟩, r3, r4⟩ := text_step hCl x0 x1 HL.out hown GC.out K2.out Q2.out hown' hgrow
      have R1 := (show Hid _ from r1)
      have R3 := (show Hid (CurAt w1 C) from r3)
      have R4 := (show Hid (w.grownBy w1 (some C)) from r4)
      clear hown' hgrow hown hown2 r1 r3 r4
      go_wp2
      go_roundw
      case rel => exact ⟨k + 1, l', by omega, by go_num, R1.out, r2, R3, R4⟩
      case measure => simp [intOf]; omega
    · have HL : Hid (l.length = n) := by show _ = _; omega
      have hown2 : wr.ownsRow w.heap.size 5 1 u5 l.length (cs l) := by rw [hl]; exact hown
      have hcv := text_of_row (P := Try.prog) Try.underlying22 Try.underlying5 Try.underlying9 hown2
      clear hown hown2 hl
      go_wp2
      go_ret
      exact ⟨_, rfl, by simp [ByteArray.size, HL.out], KC.out, GC.out⟩
end Go.Proofs.Ythdklbmachplmaa
