/-
  The walk of impl.(*wheel).right: whether each slot is whose Head and Tail say.
-/
import Derived.Test.YtbajffpkfjkolaaWheelI
namespace Go.Proofs.Ytbajffpkfjkolaa
open Go.RowKit

theorem next_place {n t k : Nat} (_hn : 0 < n) : ((t + k) % n + 1) % n = (t + (k + 1)) % n := by
  rw [Nat.mod_add_mod]
  rfl

set_option maxRecDepth 1000000 in
set_option maxHeartbeats 1000000 in
theorem wheelRight_any (b : Nat) (l : List SlotD) (h t : Nat) (hsm : ∀ f ∈ l, slotOne f ≤ 1048576) (w : World) (hw : WheelIs w b l h t) :
    Calls Try.prog 36 #[.pointer (some ⟨b, 0, none⟩)] w fun e w' => e = .returned (.bool (ringAll l h t l.length)) ∧ Below w.heap.size w w' := by
  have CH := hid (fun w hw => wheelHeld_any b l h t w hw)
  have CN := hid (fun p hp w hw => wheelNext_any b l h t p hp w hw)
  have HW := hid hw
  have HSM := hid hsm
  obtain ⟨⟨l1, l2⟩, l3, l4⟩ := hw.2
  clear hw hsm
  go_enter Try.func36, Try.ntmps36
  go_wp2_with fail
  refine (CH.out _ HW.out).mono ?_
  rintro e w1 ⟨rfl, b1⟩
  obtain ⟨H, hH⟩ : ∃ H, ringHeld l h t = H := ⟨_, rfl⟩
  have HH := hid hH
  rw [hH]
  clear hH
  have hHl : H ≤ 8 := by
    have := HH.out
    unfold ringHeld at this
    split at this
    · omega
    · have := Nat.mod_lt (h + l.length - t) (show 0 < l.length by omega)
      omega
  have B1 := hid b1
  have W1 := hid (HW.out.on b1)
  have c0 := W1.out.count
  have c2 := W1.out.tail
  clear b1 CH
  go_wp2
  go_loopg [4, 17] l.length (fun g p i wr => ∃ (k : Nat), k + g = l.length ∧ i = .int .i64 k ∧ p = .int .i64 (((t + k) % l.length : Nat) : Int) ∧ ringAll l h t k = true ∧ Hid (Below w.heap.size w wr))
  case atStart => exact ⟨0, by omega, rfl, by rw [Nat.add_zero, Nat.mod_eq_of_lt l4], rfl, B1⟩
  case round =>
    obtain ⟨k, hkg, rfl, rfl, hall, BR⟩ := hrel
    clear B1 W1 c0 c2
    have WR := hid (HW.out.on BR.out)
    have HALL := hid hall
    clear hall
    cases gk with
    | zero =>
      have hlt : ¬ (k : Int) < (l.length : Int) := by omega
      obtain rfl : k = l.length := by omega
      go_wp2
      go_ret
      exact ⟨by rw [HALL.out]; rfl, BR.out⟩
    | succ g =>
      have hlt : k < l.length := by omega
      have hlt' : (k : Int) < (l.length : Int) := by omega
      have hk8 : k < 8 := by omega
      obtain ⟨P, hP⟩ : ∃ P, (t + k) % l.length = P := ⟨_, rfl⟩
      have hPl : P < l.length := by rw [← hP]; exact Nat.mod_lt _ (by omega)
      have hP8 : P < 8 := by omega
      have hNX : Hid ((P + 1) % l.length = (t + (k + 1)) % l.length) := by show _ = _; rw [← hP]; exact next_place (by omega)
      have HG : Hid (ringGood l h t k = if k < H then isPosted (slotAt l P) else isFree (slotAt l P)) := by
        show _ = _
        unfold ringGood
        rw [HH.out, hP]
      have HS := hid (ringAll_succ l h t k)
      have HNO := hid (fun hg => ringAll_no (l := l) (h := h) (t := t) hlt hg)
      have hts : ((slotAt l P).text.size : Int) ≤ 1048576 := by rw [slotAt_eq hPl]; exact HSM.out l[P] (List.getElem_mem hPl)
      have y0 := WR.out.own hP8
      have y1 := WR.out.text hP8
      obtain ⟨D, hD⟩ : ∃ D, slotAt l P = D := ⟨_, rfl⟩
      rw [hD] at HG hts y0 y1
      rw [hP]
      have HBN : Hid (∀ o, Below wr.heap.size wr (wr.alloc o)) := fun o => below_more (Below.refl _ _) o
      clear hP hD
      by_cases hk : (k : Int) < (H : Int)
      · have hk' : k < H := by omega
        rw [if_pos hk'] at HG
        have CP := hid (fun w => implIsPosted_any D hts w)
        go_wp2_with fail
        refine (CP.out _).mono ?_
        rintro e w2 ⟨rfl, b2⟩
        have B2 := hid (below_via (HBN.out _) b2)
        have X2 := hid (WR.out.on B2.out)
        have B3 := hid (below_via BR.out B2.out)
        clear b2 CP
        cases hp : isPosted D with
        | false =>
          rw [hp] at HG
          go_wp2
          go_ret
          exact ⟨by rw [HNO.out HG.out]; rfl, B3.out⟩
        | true =>
          rw [hp] at HG
          go_wp2_with fail
          refine (CN.out P hP8 _ X2.out).mono ?_
          rintro e w4 ⟨rfl, hw4⟩
          rw [hw4, hNX.out]
          clear hw4 w4
          go_wp2
          go_roundg g
          case measure => omega
          case rel => exact ⟨k + 1, by omega, by go_num, rfl, by rw [HS.out, HALL.out, HG.out]; rfl, B3⟩
      · have hk' : ¬ k < H := by omega
        have hge : (H : Int) ≤ (k : Int) := by omega
        rw [if_neg hk'] at HG
        have CP := hid (fun w => implIsFree_any D w)
        go_wp2_with fail
        refine (CP.out _).mono ?_
        rintro e w2 ⟨rfl, b2⟩
        have B2 := hid (below_via (HBN.out _) b2)
        have X2 := hid (WR.out.on B2.out)
        have B3 := hid (below_via BR.out B2.out)
        clear b2 CP
        cases hp : isFree D with
        | false =>
          rw [hp] at HG
          go_wp2
          go_ret
          exact ⟨by rw [HNO.out HG.out]; rfl, B3.out⟩
        | true =>
          rw [hp] at HG
          go_wp2_with fail
          refine (CN.out P hP8 _ X2.out).mono ?_
          rintro e w4 ⟨rfl, hw4⟩
          rw [hw4, hNX.out]
          clear hw4 w4
          go_wp2
          go_roundg g
          case measure => omega
          case rel => exact ⟨k + 1, by omega, by go_num, rfl, by rw [HS.out, HALL.out, HG.out]; rfl, B3⟩
end Go.Proofs.Ytbajffpkfjkolaa
