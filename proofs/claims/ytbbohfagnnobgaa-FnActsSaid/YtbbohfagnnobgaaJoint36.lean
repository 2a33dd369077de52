/-
  The walk of spec.l03Left: some numbers.
-/
import Derived.Test.YtbbohfagnnobgaaJoint5
import Derived.Test.YtbbohfagnnobgaaJoint13
import Derived.Test.YtbbohfagnnobgaaJoint1
namespace Go.Proofs.Ytbbohfagnnobgaa
open Go.RowKit

def tenLefts : List Int := [0, 1, 2, 3, 5, 9, 40, 200, -1, 9223372036854775807]
theorem tenLefts_at (w : World) (t : TypeId) : Ints (w.alloc (.cells #[.int .i64 0, .int .i64 1, .int .i64 2, .int .i64 3, .int .i64 5, .int .i64 9, .int .i64 40, .int .i64 200, .int .i64 (-1), .int .i64 9223372036854775807] t)) w.heap.size tenLefts := by
  intro j hj
  rw [World.cell?_alloc_mark]
  match j, hj with
  | 0, _ => rfl
  | 1, _ => rfl
  | 2, _ => rfl
  | 3, _ => rfl
  | 4, _ => rfl
  | 5, _ => rfl
  | 6, _ => rfl
  | 7, _ => rfl
  | 8, _ => rfl
  | 9, _ => rfl

theorem left_step {C B k : Nat} {l : List Int} {w wr w2 w1 : World} {v v' : Value} {O : Obj} {x : Int} (hC : C < B) (hCw : B ≤ w.heap.size)
    (hgr : w.grownBy wr (some C)) (k2 : CurAt w2 C) (q2 : wr.grownBy w2 (some C))
    (hown' : w1.ownsRow B 3 1 v' (k + 1) (is l ++ [.int .i64 x])) (hgrow : (w2.alloc O).grownBy w1 v.ownBlock) (hr : ∀ j, v.ownBlock = some j → w.heap.size ≤ j) :
    w1.ownsRow B 3 1 v' (k + 1) (is (l ++ [x])) ∧ CurAt w1 C ∧ w.grownBy w1 (some C) := places_step hC hCw hgr k2 q2 hown' hgrow hr

set_option maxRecDepth 1000000 in
set_option maxHeartbeats 1000000 in
theorem l03Left_own (C : Nat) (w : World) (hc : CurAt w C) :
    Calls Try.prog 40 #[.pointer (some ⟨C, 0, none⟩)] w fun e w' => ∃ (zs : List Int) (ao : Option Addr) (c : Nat), e = .returned (.slice ao zs.length c) ∧ zs.length ≤ 6 ∧ w'.ownsRow w.heap.size 3 1 (.slice ao zs.length c) zs.length (is zs) ∧ IntsAt w' ao zs ∧ CurAt w' C ∧ w.grownBy w' (some C) := by
  obtain ⟨i0, hi, hz0, hz1, hz2⟩ := info_parts places_info3
  have hCl := hc.lt
  have HC := (show Hid (CurAt w C) from hc)
  clear hc
  go_enter Try.func40, Try.ntmps40
  go_wp2
  go_loopw [3, 4] (fun v i wr => ∃ (k : Nat) (l : List Int), k ≤ 6 ∧ i = .int .i64 k ∧ l.length = k ∧ wr.ownsRow w.heap.size 3 1 v k (is l) ∧ Hid (CurAt wr C) ∧ Hid (w.grownBy wr (some C))) (fun _ i _ => 6 - (intOf i).toNat)
  case atStart => exact ⟨0, [], by omega, rfl, rfl, World.ownsRow_made w #[] 0 (Nat.le_refl _) (Nat.zero_le _) rfl, HC.out.kept (World.grownBy_alloc w _ none) (fun j h => by cases h), World.grownBy_alloc w _ (some C)⟩
  case round =>
    obtain ⟨k, l, hk, rfl, hl, hown, KC, GC⟩ := hrel
    have hsz := GC.out.size
    go_wp2_with fail
    refine (l01Below_any C 6 (by omega) (by omega) _ KC.out).mono ?_
    rintro e wa ⟨xa, rfl, xa0, xa1, ka, qa⟩
    have hown1 := kept_cur3 hown qa hCl
    have KA := (show Hid (CurAt wa C) from ka)
    have QA := (show Hid (w.grownBy wa (some C)) from GC.out.trans qa)
    have hsza := QA.out.size
    clear ka qa hown KC GC
    by_cases hlt : (k : Int) < xa
    · have hCa : C < wa.heap.size := KA.out.lt
      have K0 : Hid (CurAt (wa.alloc (.cells #[.int .i64 0, .int .i64 1, .int .i64 2, .int .i64 3, .int .i64 5, .int .i64 9, .int .i64 40, .int .i64 200, .int .i64 (-1), .int .i64 9223372036854775807] 3)) C) := KA.out.kept (World.grownBy_alloc wa _ none) (fun k h => by cases h)
      have E0 := (show Hid _ from tenLefts_at wa 3)
      go_wp2_with fail
      refine (l01PickInt_any C wa.heap.size tenLefts _ (by decide) (by decide) hCa _ K0.out E0.out).mono ?_
      rintro e w2 ⟨j, hj, rfl, k2, q2⟩
      obtain ⟨x, hx⟩ : ∃ x, tenLefts[j] = x := ⟨_, rfl⟩
      rw [hx]
      have q2' := (World.grownBy_alloc wa (.cells #[.int .i64 0, .int .i64 1, .int .i64 2, .int .i64 3, .int .i64 5, .int .i64 9, .int .i64 40, .int .i64 200, .int .i64 (-1), .int .i64 9223372036854775807] 3) (some C)).trans q2
      have hown2 := kept_cur3 hown1 q2' hCl
      have K2 := (show Hid (CurAt w2 C) from k2)
      have Q2 := (show Hid (wa.grownBy w2 (some C)) from q2')
      have hsz2 := q2'.size
      have HL := (show Hid _ from hl)
      have HOW : Hid (∀ j, u3.ownBlock = some j → w.heap.size ≤ j) := fun j hj => (hown1.lt j hj).1
      clear k2 q2 q2' hl hx hown1 K0 E0
      go_wp2_with (at_builtin; refine wpList_append_own _ rfl (.tmp 12) (.tmp 16) 28 rfl w.heap.size 3 i0 (.int .i64 0) 1 8 Try.underlying28 hi hz0 hz1 hz2 rfl (by decide) _ _ _ rfl (hown2.alloc _) ⟨w2.heap.size, 0, none⟩ 1 1 [.int .i64 x] rfl rfl (one_new _ _ _) (by intro u hu; simp at hu; subst hu; rfl) (by unfold maxLen; omega) (by omega) (by simp; omega) ?_)
      intro v' w3 hown' hgrow _
      obtain ⟨r2, r3, r4⟩ := left_step hCl (Nat.le_refl _) QA.out K2.out Q2.out hown' hgrow HOW.out
      have R3 := (show Hid (CurAt w3 C) from r3)
      have R4 := (show Hid (w.grownBy w3 (some C)) from r4)
      clear hown' hgrow hown2 r3 r4
      go_wp2
      go_roundw
      case rel => exact ⟨k + 1, l ++ [x], by omega, by go_num, by simp [HL.out], r2, R3, R4⟩
      case measure => simp [intOf]; omega
    · obtain ⟨_, ao, c, hv, hf⟩ := row_lie hown1
      subst hv
      have HI : Hid (IntsAt wa ao l) := by
        intro hne
        have hpos : 0 < l.length := List.length_pos_iff.2 hne
        obtain ⟨g', e1, _, _, _, _, hc, _⟩ := hf (by omega)
        refine ⟨g', 0, e1, fun j hj => ?_⟩
        rw [Nat.zero_add]
        exact hc j _ (by simp [is, hj])
      have HL := (show Hid _ from hl)
      have HOWN := (show Hid _ from hown1)
      clear hf hown1 hl
      go_wp2
      go_ret
      exact ⟨l, ao, c, by rw [HL.out]; rfl, by have := HL.out; omega, by rw [HL.out]; exact HOWN.out, HI.out, KA.out, QA.out⟩
theorem l03Left_any (C : Nat) (w : World) (hc : CurAt w C) :
    Calls Try.prog 40 #[.pointer (some ⟨C, 0, none⟩)] w fun e w' => ∃ (zs : List Int) (ao : Option Addr) (c : Nat), e = .returned (.slice ao zs.length c) ∧ zs.length ≤ 6 ∧ IntsAt w' ao zs ∧ CurAt w' C ∧ w.grownBy w' (some C) :=
  (l03Left_own C w hc).mono fun _ _ ⟨zs, ao, c, h1, h2, _, h3⟩ => ⟨zs, ao, c, h1, h2, h3⟩
end Go.Proofs.Ytbbohfagnnobgaa
