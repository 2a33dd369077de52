/-
  The walk of impl.(*wheel).take: the text of the slot at Tail is taken, where it is the card's.
-/
import Derived.Test.YtbajffpkfjkolaaWheelSet
import Derived.Test.YtbajffpkfjkolaaWheelI
import Derived.Test.YtbajffpkfjkolaaPlainPost
import Derived.Test.YtbajffpkfjkolaaClone
import Derived.BigQuiet
namespace Go.Proofs.Ytbajffpkfjkolaa
open Go.RowKit

/-- what take leaves -/
def TakeDid (b : Nat) (l : List SlotD) (h t : Nat) (w : World) (e : Ending) (w' : World) : Prop :=
  isFree (slotAt l t) = true ∧ e = .returned (.tuple #[.string ByteArray.empty, .bool false]) ∧ WheelIs w' b l h t ∧ Below w.heap.size w w' ∨
  isFree (slotAt l t) = false ∧ e = .returned (.tuple #[.string (slotAt l t).text, .bool true]) ∧ WheelIs w' b (l.set t slot0) h ((t + 1) % l.length) ∧ Below b w w'

set_option maxRecDepth 1000000 in
set_option maxHeartbeats 4000000 in
theorem wheelTake_any (b : Nat) (l : List SlotD) (h t : Nat) (hsm : ∀ f ∈ l, slotOne f ≤ 1048576) (w : World) (hw : WheelIs w b l h t) :
    Calls Try.prog 25 #[.pointer (some ⟨b, 0, none⟩)] w fun e w' => TakeDid b l h t w e w' := by
  obtain ⟨⟨l1, l2⟩, l3, l4⟩ := hw.2
  have hbw := hw.1.lt
  have h8 : t < 8 := by omega
  have h8' : (t : Int) < 8 := by omega
  have hts : ((slotAt l t).text.size : Int) ≤ 1048576 := by rw [slotAt_eq l4]; exact hsm l[t] (List.getElem_mem l4)
  unfold TakeDid
  obtain ⟨D, hD⟩ : ∃ D, slotAt l t = D := ⟨_, rfl⟩
  have a2 := hw.tail
  have a3 := hw.own h8
  have a4 := hw.text h8
  have hbz := below_more (Below.refl w.heap.size w) (.cells #[.int .i64 0, .string ⟨#[]⟩] 42)
  have a2' := (hw.on hbz).tail
  have a3' := (hw.on hbz).own h8
  have a4' := (hw.on hbz).text h8
  rw [hD] at hts a3 a4 a3' a4' ⊢
  have CF := hid (fun w => implIsFree_any D w)
  have hx : BlockIs (w.alloc (.cells #[.int .i64 D.own, .string D.text] 42)) w.heap.size 42 [.int .i64 D.own, .string D.text] := heap_alloc_new w _
  have hb0 := below_more (Below.refl w.heap.size w) (.cells #[.int .i64 D.own, .string D.text] 42)
  have hdr : Below (w.alloc (.cells #[.int .i64 D.own, .string D.text] 42)).heap.size (w.alloc (.cells #[.int .i64 D.own, .string D.text] 42)) (w.alloc (.cells #[.int .i64 D.own, .string D.text] 42)).drew := below_drewN (Below.refl _ _) 1
  have X0 := hid (hx.on hdr hx.lt)
  have B0 := hid (below_via hb0 hdr)
  have W0 := hid ((hw.on hb0).on hdr)
  have CL := hid (fun w => clone_any D.text (by omega) w)
  clear hx hb0 hdr hw hbz hsm
  go_enter Try.func25, Try.ntmps25
  go_wp2
  go_region
  all_goals
    obtain ⟨W, hW⟩ : ∃ W, (w.alloc (.cells #[.int .i64 D.own, .string D.text] 42)).drew = W := ⟨_, rfl⟩
    rw [hW] at X0 B0 W0 ⊢
    have y0 := X0.out.cell (j := 0) rfl
    have y1 := X0.out.cell (j := 1) rfl
    clear hW a2 a3 a4 a2' a3' a4'
    go_wp2_with fail
    refine (CF.out _).mono ?_
    rintro e w1 ⟨rfl, b1⟩
    have B1 := hid (below_via B0.out b1)
    have W1 := hid (W0.out.on b1)
    have X1 := hid (X0.out.on b1 X0.out.lt)
    have z2 := W1.out.tail
    have z3 := W1.out.own h8
    have z4 := W1.out.text h8
    rw [hD] at z3 z4
    have f3 := W1.out.1.thaw (t * 2)
    have f4 := W1.out.1.thaw (t * 2 + 1)
    clear b1 y0 y1 X0 B0 W0 CF
    cases hF : isFree D with
    | true =>
      go_wp2
      refine bodyPost_ret (v := .tuple #[.string ByteArray.empty, .bool false]) (by simp [results, Try.results25, go_sem]; rfl) rfl ?_
      exact Or.inl ⟨hF, rfl, W1.out, B1.out⟩
    | false =>
      go_wp2
      go_region
      all_goals
        have hput := (W1.out.put l4 slot0).on (below_drewN (Below.refl _ _) 1)
        have BP := hid (below_drewN (((B1.out.mono (Nat.le_of_lt hbw)).setCell (p := ⟨b, t * 2, none⟩) (Nat.le_refl _) (.int .i64 0)).setCell (p := ⟨b, t * 2 + 1, none⟩) (Nat.le_refl _) (.string ⟨#[]⟩)) 1)
        have xp := (X1.out.far (show b ≠ w.heap.size by omega) (j := t * 2) (.int .i64 0)).far (show b ≠ w.heap.size by omega) (j := t * 2 + 1) (.string ⟨#[]⟩)
        have XP := hid (xp.on (below_drewN (Below.refl _ _) 1) xp.lt)
        obtain ⟨W2, hW2⟩ : ∃ W2, ((w1.setCell ⟨b, t * 2, none⟩ (.int .i64 0)).setCell ⟨b, t * 2 + 1, none⟩ (.string ⟨#[]⟩)).drew = W2 := ⟨_, rfl⟩
        change WheelIs ((w1.setCell ⟨b, t * 2, none⟩ (.int .i64 0)).setCell ⟨b, t * 2 + 1, none⟩ (.string ⟨#[]⟩)).drew _ _ _ _ at hput
        rw [hW2] at hput
        change Hid (Below b w ((w1.setCell ⟨b, t * 2, none⟩ (.int .i64 0)).setCell ⟨b, t * 2 + 1, none⟩ (.string ⟨#[]⟩)).drew) at BP
        rw [hW2] at BP
        change Hid (BlockIs ((w1.setCell ⟨b, t * 2, none⟩ (.int .i64 0)).setCell ⟨b, t * 2 + 1, none⟩ (.string ⟨#[]⟩)).drew _ _ _) at XP
        rw [hW2] at XP
        have HP2 := hid hput
        have d2 := hput.tail
        have CN := hid (wheelNext_any b (l.set t slot0) h t t h8 W2 hput)
        rw [List.length_set] at CN
        obtain ⟨N, hN⟩ : ∃ N, (t + 1) % l.length = N := ⟨_, rfl⟩
        have hNl : N < l.length := by rw [← hN]; exact Nat.mod_lt _ (by omega)
        have HN := hid hN
        rw [hN] at CN
        have g2 := hput.1.thaw 18
        clear hput hN xp
        go_wp2_with fail
        refine (CN.out).mono ?_
        rintro e w3 ⟨rfl, hw3⟩
        rw [hw3]
        clear hw3 w3
        have HE := hid (HP2.out.setTail (t' := N) (by rw [List.length_set]; exact hNl))
        have BE := hid (BP.out.setCell (p := ⟨b, 18, none⟩) (Nat.le_refl _) (.int .i64 N))
        have XE := XP.out.far (show b ≠ w.heap.size by omega) (j := 18) (.int .i64 N)
        have u1 := XE.cell (j := 1) rfl
        clear CN XE
        go_wp2_with fail
        refine (CL.out _).mono ?_
        rintro e w4 ⟨rfl, b4⟩
        have HL := hid (HE.out.on b4)
        have BL := hid (BE.out.trans (b4.mono (by have := BE.out.size; omega)))
        clear b4 u1
        go_wp2
        refine bodyPost_ret (v := .tuple #[.string D.text, .bool true]) (by simp [results, Try.results25, go_sem]) rfl ?_
        exact Or.inr ⟨hF, rfl, by rw [HN.out]; exact HL.out, BL.out⟩
end Go.Proofs.Ytbajffpkfjkolaa
