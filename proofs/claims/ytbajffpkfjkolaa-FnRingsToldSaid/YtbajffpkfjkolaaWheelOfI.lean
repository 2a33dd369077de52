/-
  The walk of impl.wheelOf: the slots of a ring in an array of its own, and whether it is right.
-/
import Derived.Test.YtbajffpkfjkolaaRightI
import Derived.Test.YtbajffpkfjkolaaWheelMem
import Derived.Test.YtbajffpkfjkolaaAnyOrder
namespace Go.Proofs.Ytbajffpkfjkolaa
open Go.RowKit

/-- what wheelOf answers -/
def WheelDid (l : List SlotD) (s t : Int) (w : World) (e : Ending) (w' : World) : Prop :=
  ∃ A : Array Value, e = .returned (.tuple #[.agg A, .bool (ringOk l s t)]) ∧ A.size = 19 ∧ A.all (·.oneCell') = true ∧ (ringPlaces l s t → A = (wheelC l s.toNat t.toNat).toArray) ∧ Below w.heap.size w w'

set_option maxRecDepth 1000000 in
set_option maxHeartbeats 4000000 in
theorem wheelOf_in (h t : Nat) (ao : Option Addr) (l : List SlotD) (cap : Nat) (hp : ringPlaces l h t) (hsm : ∀ f ∈ l, slotOne f ≤ 1048576) (w : World) (ha : SlotsAt w ao l) :
    Calls Try.prog 20 #[.agg #[.slice ao l.length cap, .int .i64 h, .int .i64 t]] w fun e w' => WheelDid l h t w e w' := by
  have HPL := hid hp
  have HOK := hid (ringOk_in hp)
  obtain ⟨⟨p1, p2⟩, ⟨_, p3⟩, _, p5⟩ := hp
  have q3 : h < l.length := by omega
  have q5 : t < l.length := by omega
  have CP := hid (fun x n w => isPlace_any x n w)
  have CR := hid (fun V hw => wheelRight_any (w.heap.size + 1 + 1) l h t hsm V hw)
  have HLEN : Hid ((wheelC l h t).toArray.size = 19) := by show _ = _; simp [wheelC_length p2]
  have HONE : Hid ((wheelC l h t).toArray.all (·.oneCell') = true) := all_oneCell_toArray (wheelC_one l h t)
  obtain ⟨R, hR⟩ : ∃ R, ringAll l h t l.length = R := ⟨_, rfl⟩
  have HR := hid hR
  rw [hR] at HOK
  have HZL : Hid ((wheel0 l.length h t).toArray.size = 19) := rfl
  have HZO : Hid ((wheel0 l.length h t).toArray.all (·.oneCell') = true) := all_oneCell_toArray (wheel0_one _ _ _)
  have HA := hid ha
  clear hsm ha hR
  have hb2 := below_more (below_more (Below.refl w.heap.size w) (.cells #[.slice ao l.length cap, .int .i64 h, .int .i64 t] 26)) (.cells #[.int .i64 0, .string ⟨#[]⟩, .int .i64 0, .string ⟨#[]⟩, .int .i64 0, .string ⟨#[]⟩, .int .i64 0, .string ⟨#[]⟩, .int .i64 0, .string ⟨#[]⟩, .int .i64 0, .string ⟨#[]⟩, .int .i64 0, .string ⟨#[]⟩, .int .i64 0, .string ⟨#[]⟩, .int .i64 0, .int .i64 0, .int .i64 0] 45)
  have hb3 := below_more hb2 (.cells (wheel0 l.length h t).toArray 45)
  have hk0 : BlockIs (((w.alloc (.cells #[.slice ao l.length cap, .int .i64 h, .int .i64 t] 26)).alloc (.cells #[.int .i64 0, .string ⟨#[]⟩, .int .i64 0, .string ⟨#[]⟩, .int .i64 0, .string ⟨#[]⟩, .int .i64 0, .string ⟨#[]⟩, .int .i64 0, .string ⟨#[]⟩, .int .i64 0, .string ⟨#[]⟩, .int .i64 0, .string ⟨#[]⟩, .int .i64 0, .string ⟨#[]⟩, .int .i64 0, .int .i64 0, .int .i64 0] 45)).alloc (.cells (wheel0 l.length h t).toArray 45)) w.heap.size 26 [.slice ao l.length cap, .int .i64 h, .int .i64 t] := by
    show (((w.heap.push _).push _).push _)[w.heap.size]? = some _
    rw [Array.getElem?_push, if_neg (by simp; omega), Array.getElem?_push, if_neg (by simp), Array.getElem?_push, if_pos rfl]
  have hk1 : BlockIs (((w.alloc (.cells #[.slice ao l.length cap, .int .i64 h, .int .i64 t] 26)).alloc (.cells #[.int .i64 0, .string ⟨#[]⟩, .int .i64 0, .string ⟨#[]⟩, .int .i64 0, .string ⟨#[]⟩, .int .i64 0, .string ⟨#[]⟩, .int .i64 0, .string ⟨#[]⟩, .int .i64 0, .string ⟨#[]⟩, .int .i64 0, .string ⟨#[]⟩, .int .i64 0, .string ⟨#[]⟩, .int .i64 0, .int .i64 0, .int .i64 0] 45)).alloc (.cells (wheel0 l.length h t).toArray 45)) (w.heap.size + 1) 45 [.int .i64 0, .string ⟨#[]⟩, .int .i64 0, .string ⟨#[]⟩, .int .i64 0, .string ⟨#[]⟩, .int .i64 0, .string ⟨#[]⟩, .int .i64 0, .string ⟨#[]⟩, .int .i64 0, .string ⟨#[]⟩, .int .i64 0, .string ⟨#[]⟩, .int .i64 0, .string ⟨#[]⟩, .int .i64 0, .int .i64 0, .int .i64 0] := by
    show (((w.heap.push _).push _).push _)[w.heap.size + 1]? = some _
    rw [Array.getElem?_push, if_neg (by simp), Array.getElem?_push, if_pos (by simp)]
  have hk2 : BlockIs (((w.alloc (.cells #[.slice ao l.length cap, .int .i64 h, .int .i64 t] 26)).alloc (.cells #[.int .i64 0, .string ⟨#[]⟩, .int .i64 0, .string ⟨#[]⟩, .int .i64 0, .string ⟨#[]⟩, .int .i64 0, .string ⟨#[]⟩, .int .i64 0, .string ⟨#[]⟩, .int .i64 0, .string ⟨#[]⟩, .int .i64 0, .string ⟨#[]⟩, .int .i64 0, .string ⟨#[]⟩, .int .i64 0, .int .i64 0, .int .i64 0] 45)).alloc (.cells (wheel0 l.length h t).toArray 45)) (w.heap.size + 1 + 1) 45 (wheel0 l.length h t) := by
    show (((w.heap.push _).push _).push _)[w.heap.size + 1 + 1]? = some _
    rw [Array.getElem?_push, if_pos (by simp)]
  have HZ2 : Hid (BlockIs (((w.alloc (.cells #[.slice ao l.length cap, .int .i64 h, .int .i64 t] 26)).alloc (.cells #[.int .i64 0, .string ⟨#[]⟩, .int .i64 0, .string ⟨#[]⟩, .int .i64 0, .string ⟨#[]⟩, .int .i64 0, .string ⟨#[]⟩, .int .i64 0, .string ⟨#[]⟩, .int .i64 0, .string ⟨#[]⟩, .int .i64 0, .string ⟨#[]⟩, .int .i64 0, .string ⟨#[]⟩, .int .i64 0, .int .i64 0, .int .i64 0] 45)).alloc (.cells #[.int .i64 0, .string ⟨#[]⟩, .int .i64 0, .string ⟨#[]⟩, .int .i64 0, .string ⟨#[]⟩, .int .i64 0, .string ⟨#[]⟩, .int .i64 0, .string ⟨#[]⟩, .int .i64 0, .string ⟨#[]⟩, .int .i64 0, .string ⟨#[]⟩, .int .i64 0, .string ⟨#[]⟩, .int .i64 0, .int .i64 0, .int .i64 0] 45)) (w.heap.size + 1 + 1) 45 [.int .i64 0, .string ⟨#[]⟩, .int .i64 0, .string ⟨#[]⟩, .int .i64 0, .string ⟨#[]⟩, .int .i64 0, .string ⟨#[]⟩, .int .i64 0, .string ⟨#[]⟩, .int .i64 0, .string ⟨#[]⟩, .int .i64 0, .string ⟨#[]⟩, .int .i64 0, .string ⟨#[]⟩, .int .i64 0, .int .i64 0, .int .i64 0]) := by
    show (((w.heap.push _).push _).push _)[w.heap.size + 1 + 1]? = some _
    rw [Array.getElem?_push, if_pos (by simp)]
  have HOV : Hid ((((w.alloc (.cells #[.slice ao l.length cap, .int .i64 h, .int .i64 t] 26)).alloc (.cells #[.int .i64 0, .string ⟨#[]⟩, .int .i64 0, .string ⟨#[]⟩, .int .i64 0, .string ⟨#[]⟩, .int .i64 0, .string ⟨#[]⟩, .int .i64 0, .string ⟨#[]⟩, .int .i64 0, .string ⟨#[]⟩, .int .i64 0, .string ⟨#[]⟩, .int .i64 0, .string ⟨#[]⟩, .int .i64 0, .int .i64 0, .int .i64 0] 45)).alloc (.cells #[.int .i64 0, .string ⟨#[]⟩, .int .i64 0, .string ⟨#[]⟩, .int .i64 0, .string ⟨#[]⟩, .int .i64 0, .string ⟨#[]⟩, .int .i64 0, .string ⟨#[]⟩, .int .i64 0, .string ⟨#[]⟩, .int .i64 0, .string ⟨#[]⟩, .int .i64 0, .string ⟨#[]⟩, .int .i64 0, .int .i64 0, .int .i64 0] 45)).setRow (w.heap.size + 1 + 1) (wheel0 l.length h t).toArray = (((w.alloc (.cells #[.slice ao l.length cap, .int .i64 h, .int .i64 t] 26)).alloc (.cells #[.int .i64 0, .string ⟨#[]⟩, .int .i64 0, .string ⟨#[]⟩, .int .i64 0, .string ⟨#[]⟩, .int .i64 0, .string ⟨#[]⟩, .int .i64 0, .string ⟨#[]⟩, .int .i64 0, .string ⟨#[]⟩, .int .i64 0, .string ⟨#[]⟩, .int .i64 0, .string ⟨#[]⟩, .int .i64 0, .int .i64 0, .int .i64 0] 45)).alloc (.cells (wheel0 l.length h t).toArray 45))) := by
    show _ = _
    have := wheel_over ((w.alloc (.cells #[.slice ao l.length cap, .int .i64 h, .int .i64 t] 26)).alloc (.cells #[.int .i64 0, .string ⟨#[]⟩, .int .i64 0, .string ⟨#[]⟩, .int .i64 0, .string ⟨#[]⟩, .int .i64 0, .string ⟨#[]⟩, .int .i64 0, .string ⟨#[]⟩, .int .i64 0, .string ⟨#[]⟩, .int .i64 0, .string ⟨#[]⟩, .int .i64 0, .string ⟨#[]⟩, .int .i64 0, .int .i64 0, .int .i64 0] 45)) #[.int .i64 0, .string ⟨#[]⟩, .int .i64 0, .string ⟨#[]⟩, .int .i64 0, .string ⟨#[]⟩, .int .i64 0, .string ⟨#[]⟩, .int .i64 0, .string ⟨#[]⟩, .int .i64 0, .string ⟨#[]⟩, .int .i64 0, .string ⟨#[]⟩, .int .i64 0, .string ⟨#[]⟩, .int .i64 0, .int .i64 0, .int .i64 0] (wheel0 l.length h t).toArray 45
    rw [show ((w.alloc (.cells #[.slice ao l.length cap, .int .i64 h, .int .i64 t] 26)).alloc (.cells #[.int .i64 0, .string ⟨#[]⟩, .int .i64 0, .string ⟨#[]⟩, .int .i64 0, .string ⟨#[]⟩, .int .i64 0, .string ⟨#[]⟩, .int .i64 0, .string ⟨#[]⟩, .int .i64 0, .string ⟨#[]⟩, .int .i64 0, .string ⟨#[]⟩, .int .i64 0, .string ⟨#[]⟩, .int .i64 0, .int .i64 0, .int .i64 0] 45)).heap.size = w.heap.size + 1 + 1 by simp [World.alloc, -World.alloc_eq]] at this
    exact this
  obtain ⟨WW, hWW⟩ : ∃ WW, (((w.alloc (.cells #[.slice ao l.length cap, .int .i64 h, .int .i64 t] 26)).alloc (.cells #[.int .i64 0, .string ⟨#[]⟩, .int .i64 0, .string ⟨#[]⟩, .int .i64 0, .string ⟨#[]⟩, .int .i64 0, .string ⟨#[]⟩, .int .i64 0, .string ⟨#[]⟩, .int .i64 0, .string ⟨#[]⟩, .int .i64 0, .string ⟨#[]⟩, .int .i64 0, .string ⟨#[]⟩, .int .i64 0, .int .i64 0, .int .i64 0] 45)).alloc (.cells (wheel0 l.length h t).toArray 45)) = WW := ⟨_, rfl⟩
  rw [hWW] at hb3 hk0 hk1 hk2
  have hdr : Below WW.heap.size WW WW.drew := below_drewN (Below.refl _ _) 1
  obtain ⟨W2, hcp, hwl, hsz2, hbe⟩ := copy_wheel (cap := cap) ⟨⟨p1, p2⟩, q3, q5⟩ (hk2.on hdr hk2.lt) (HA.out.on (below_via hb3 hdr))
  have hB3 := hbe _ _ (below_drewN hb3 1) (by omega)
  have K1' : BlockIs W2 (w.heap.size + 1) 45 [.int .i64 0, .string ⟨#[]⟩, .int .i64 0, .string ⟨#[]⟩, .int .i64 0, .string ⟨#[]⟩, .int .i64 0, .string ⟨#[]⟩, .int .i64 0, .string ⟨#[]⟩, .int .i64 0, .string ⟨#[]⟩, .int .i64 0, .string ⟨#[]⟩, .int .i64 0, .string ⟨#[]⟩, .int .i64 0, .int .i64 0, .int .i64 0] := (hk1.on hdr hk1.lt).on (hbe _ _ (Below.refl (w.heap.size + 1 + 1) WW.drew) (Nat.le_refl _)) (by omega)
  have B3 := hid hB3
  have W3 := hid hwl
  have K1 := hid K1'
  have z0 := hk0.cell (j := 0) rfl
  have HCP := hid hcp
  clear hwl hB3 hk1 hk2 hk0 hbe hb3 hb2 hdr hsz2 K1' hcp
  go_enter Try.func20, Try.ntmps20
  go_wp2_with fail
  refine (CP.out _ _ _).mono ?_
  rintro e w1 ⟨rfl, hw⟩
  rw [hw, show (decide (0 ≤ (h : Int)) && decide ((h : Int) < (l.length : Int))) = true by simp; omega]; clear hw w1
  go_wp2_with fail
  refine (CP.out _ _ _).mono ?_
  rintro e w1 ⟨rfl, hw⟩
  rw [hw, show (decide (0 ≤ (t : Int)) && decide ((t : Int) < (l.length : Int))) = true by simp; omega]; clear hw w1
  go_wp2_with (first | (refine wpList_build_wheel rfl (.tmp 26) (.tmp 28) (.tmp 30) rfl l.length h t rfl rfl rfl ?_) | (refine wpList_store_wheel rfl (.tmp 5) (.tmp 31) rfl (w.heap.size + 1 + 1) (wheel0 l.length h t).toArray rfl rfl [.int .i64 0, .string ⟨#[]⟩, .int .i64 0, .string ⟨#[]⟩, .int .i64 0, .string ⟨#[]⟩, .int .i64 0, .string ⟨#[]⟩, .int .i64 0, .string ⟨#[]⟩, .int .i64 0, .string ⟨#[]⟩, .int .i64 0, .string ⟨#[]⟩, .int .i64 0, .string ⟨#[]⟩, .int .i64 0, .int .i64 0, .int .i64 0] HZ2.out rfl HZL.out HZO.out ?_; rw [HOV.out, hWW]))
  have hcp := HCP.out
  go_wp2
  go_region
  all_goals
    clear hcp HCP
    go_wp2
    refine wp_region_each (N := 39) (by kernel_rfl) (by kernel_rfl) rfl (by kernel_rfl) (fun W => Below w.heap.size w W ∧ WheelIs W (w.heap.size + 1 + 1) l h t ∧ ∃ cs, cs.length = 19 ∧ BlockIs W (w.heap.size + 1) 45 cs) (fun j v _ W => match j with | 0 => v = .agg (wheelC l h t).toArray | 1 => v = .bool R | 2 => BlockIs W (w.heap.size + 1) 45 (wheelC l h t) | 3 => v = .bool R | _ => True) (fun i => i) (fun _ _ => false) (fun i x y => i ≠ 2 → ∀ cs, BlockIs x (w.heap.size + 1) 45 cs → BlockIs y (w.heap.size + 1) 45 cs) (fun _ => 0) (by kernel_rfl) (fun _ _ => rfl) ?_ ⟨below_drewN B3.out 1, W3.out.on (below_drewN (Below.refl _ _) 1), _, rfl, K1.out.on (below_drewN (Below.refl _ _) 1) K1.out.lt⟩ ?_ ?_
    · intro i j v u x y hij hdd hwt hxy hg
      match j, hg with
      | 0, hg => exact hg
      | 1, hg => exact hg
      | 2, hg =>
        exact hxy hij _ hg
      | 3, hg => exact hg
      | n + 4, _ => exact trivial
    · refine ⟨?_, ?_, ?_, ?_, trivial⟩
      · intro A W hC hg hb
        have h5 : A.eval (.tmp 5) = .pointer (some ⟨w.heap.size + 1 + 1, 0, none⟩) := hb 5 (base_of (by kernel_rfl))
        exact does_value (v := .agg (wheelC l h t).toArray) (w' := W) (by simp only [execOp, h5, load_wheel hC.2.1, Sem.run_bind, Sem.run_pure, Result.andThen_ok]) ⟨rfl, hC, fun _ _ hq => hq⟩
      · intro A W hC hg hb
        have h5 : A.eval (.tmp 5) = .pointer (some ⟨w.heap.size + 1 + 1, 0, none⟩) := hb 5 (base_of (by kernel_rfl))
        simp [go_sem] at h5
        refine does_enter (f := 36) (args := #[.pointer (some ⟨w.heap.size + 1 + 1, 0, none⟩)]) (w' := W) (by simp [go_sem, h5]) ?_
        refine (CR.out W hC.2.1).mono ?_
        rintro e W' ⟨rfl, hb'⟩
        obtain ⟨k1, k2, cs, k3, k4⟩ := hC
        exact ⟨_, rfl, by show Value.bool _ = Value.bool R; rw [HR.out], ⟨below_via k1 hb', k2.on hb', cs, k3, k4.on hb' k4.lt⟩, fun _ _ hq => hq.on hb' hq.lt⟩
      · intro A W hC hg hb
        have h2 : A.eval (.tmp 2) = .pointer (some ⟨w.heap.size + 1, 0, none⟩) := hb 2 (base_of (by kernel_rfl))
        have h37 : A.eval (.tmp 37) = .agg (wheelC l h t).toArray := hg 0 37 (by decide) rfl (by simp [Op.operands]) (by kernel_rfl) rfl
        obtain ⟨k1, k2, cs, k3, k4⟩ := hC
        refine does_skip (w' := W.setRow (w.heap.size + 1) (wheelC l h t).toArray) (by simp only [execOp, h2, h37, store_wheel k4 k3 (hA := HLEN.out) (h1 := HONE.out), Sem.run_bind, Sem.run_pure, Result.andThen_ok]) ⟨store_block k4 _, ⟨below_setRow k1 (by omega) _, ⟨block_setRow k2.1 (by omega) _, k2.2⟩, _, by rw [wheelC_length p2], store_block k4 _⟩, fun h2 => absurd rfl h2⟩
      · intro A W hC hg hb
        have h38 : A.eval (.tmp 38) = .bool R := hg 1 38 (by decide) rfl (by simp [Op.operands]) (by kernel_rfl) rfl
        exact does_value (v := .bool R) (w' := W) (by simp only [execOp, h38]; simp [go_sem]) ⟨rfl, hC, fun _ _ hq => hq⟩
    · intro vs w4 hC hg
      have g2 := hg 2 (by decide) (fun k => by simp)
      have g3 := hg 3 (by decide) (fun k => by simp)
      clear hg
      change Exit.then _ _ _ (laidBy _ vs _ 4 _) w4
      simp only [laidBy, if_true, dstAt, List.getElem?_toArray, List.getElem?_cons_succ, List.getElem?_cons_zero, Option.bind_some]
      simp only [Act.put, List.setIfInBounds_toArray, List.set_cons_succ, List.set_cons_zero]
      have g3' : vs 3 = .bool R := g3
      rw [g3']
      have G2 : Hid (BlockIs w4 (w.heap.size + 1) 45 (wheelC l h t)) := g2
      have BL := hid hC.1
      clear g2 g3 g3' hC
      go_wp2
      have hld : (loadVar 45 ⟨w.heap.size + 1, 0, none⟩).run Try.prog w4 = .ok (.agg (wheelC l h t).toArray) w4 := run_loadVar_row w4 _ _ _ _ _ _ G2.out Try.underlying45 rfl (by rw [wheel_size, HLEN.out])
      refine bodyPost_ret (v := .tuple #[.agg (wheelC l h t).toArray, .bool R]) (by simp [results, Try.results20, asAddr, hld]) rfl ⟨_, by rw [HOK.out], HLEN.out, HONE.out, fun _ => rfl, BL.out⟩

set_option maxRecDepth 1000000 in
set_option maxHeartbeats 4000000 in
theorem wheelOf_any (s t : Int) (ao : Option Addr) (l : List SlotD) (cap : Nat) (hl : l.length ≤ 1048576) (hsm : ∀ f ∈ l, slotOne f ≤ 1048576) (w : World) (ha : SlotsAt w ao l) :
    Calls Try.prog 20 #[.agg #[.slice ao l.length cap, .int .i64 s, .int .i64 t]] w fun e w' => WheelDid l s t w e w' := by
  by_cases hp : ringPlaces l s t
  · obtain ⟨h, rfl⟩ := Int.eq_ofNat_of_zero_le hp.2.1.1
    obtain ⟨u, rfl⟩ := Int.eq_ofNat_of_zero_le hp.2.2.1
    exact wheelOf_in h u ao l cap hp hsm w ha
  · have HOK := hid (ringOk_not hp)
    have HPL := hid hp
    have CP := hid (fun x n w => isPlace_any x n w)
    have hb2 := below_more (below_more (Below.refl w.heap.size w) (.cells #[.slice ao l.length cap, .int .i64 s, .int .i64 t] 26)) (.cells #[.int .i64 0, .string ⟨#[]⟩, .int .i64 0, .string ⟨#[]⟩, .int .i64 0, .string ⟨#[]⟩, .int .i64 0, .string ⟨#[]⟩, .int .i64 0, .string ⟨#[]⟩, .int .i64 0, .string ⟨#[]⟩, .int .i64 0, .string ⟨#[]⟩, .int .i64 0, .string ⟨#[]⟩, .int .i64 0, .int .i64 0, .int .i64 0] 45)
    have hk0 : BlockIs ((w.alloc (.cells #[.slice ao l.length cap, .int .i64 s, .int .i64 t] 26)).alloc (.cells #[.int .i64 0, .string ⟨#[]⟩, .int .i64 0, .string ⟨#[]⟩, .int .i64 0, .string ⟨#[]⟩, .int .i64 0, .string ⟨#[]⟩, .int .i64 0, .string ⟨#[]⟩, .int .i64 0, .string ⟨#[]⟩, .int .i64 0, .string ⟨#[]⟩, .int .i64 0, .string ⟨#[]⟩, .int .i64 0, .int .i64 0, .int .i64 0] 45)) w.heap.size 26 [.slice ao l.length cap, .int .i64 s, .int .i64 t] := by
      show ((w.heap.push _).push _)[w.heap.size]? = some _
      rw [Array.getElem?_push, if_neg (by simp), Array.getElem?_push, if_pos rfl]
    have hk1 : BlockIs ((w.alloc (.cells #[.slice ao l.length cap, .int .i64 s, .int .i64 t] 26)).alloc (.cells #[.int .i64 0, .string ⟨#[]⟩, .int .i64 0, .string ⟨#[]⟩, .int .i64 0, .string ⟨#[]⟩, .int .i64 0, .string ⟨#[]⟩, .int .i64 0, .string ⟨#[]⟩, .int .i64 0, .string ⟨#[]⟩, .int .i64 0, .string ⟨#[]⟩, .int .i64 0, .string ⟨#[]⟩, .int .i64 0, .int .i64 0, .int .i64 0] 45)) (w.heap.size + 1) 45 [.int .i64 0, .string ⟨#[]⟩, .int .i64 0, .string ⟨#[]⟩, .int .i64 0, .string ⟨#[]⟩, .int .i64 0, .string ⟨#[]⟩, .int .i64 0, .string ⟨#[]⟩, .int .i64 0, .string ⟨#[]⟩, .int .i64 0, .string ⟨#[]⟩, .int .i64 0, .string ⟨#[]⟩, .int .i64 0, .int .i64 0, .int .i64 0] := by
      show ((w.heap.push _).push _)[w.heap.size + 1]? = some _
      rw [Array.getElem?_push, if_pos (by simp)]
    obtain ⟨WW, hWW⟩ : ∃ WW, ((w.alloc (.cells #[.slice ao l.length cap, .int .i64 s, .int .i64 t] 26)).alloc (.cells #[.int .i64 0, .string ⟨#[]⟩, .int .i64 0, .string ⟨#[]⟩, .int .i64 0, .string ⟨#[]⟩, .int .i64 0, .string ⟨#[]⟩, .int .i64 0, .string ⟨#[]⟩, .int .i64 0, .string ⟨#[]⟩, .int .i64 0, .string ⟨#[]⟩, .int .i64 0, .string ⟨#[]⟩, .int .i64 0, .int .i64 0, .int .i64 0] 45)) = WW := ⟨_, rfl⟩
    rw [hWW] at hb2 hk0 hk1
    have z0 := hk0.cell (j := 0) rfl
    have z1 := hk0.cell (j := 1) rfl
    have z2 := hk0.cell (j := 2) rfl
    have K1 := hid hk1
    have BL := hid (below_setRow hb2 (show w.heap.size ≤ w.heap.size + 1 by omega) (wheel0 0 0 0).toArray)
    have G2 := hid (store_block hk1 (wheel0 0 0 0).toArray)
    have HZL : Hid ((wheel0 0 0 0).toArray.size = 19) := rfl
    have HZO : Hid ((wheel0 0 0 0).toArray.all (·.oneCell') = true) := all_oneCell_toArray (wheel0_one _ _ _)
    obtain ⟨WE, hWE⟩ : ∃ WE, WW.setRow (w.heap.size + 1) (wheel0 0 0 0).toArray = WE := ⟨_, rfl⟩
    rw [hWE] at BL G2
    have hld : (loadVar 45 ⟨w.heap.size + 1, 0, none⟩).run Try.prog WE = .ok (.agg (wheel0 0 0 0).toArray) WE := run_loadVar_row WE _ _ _ _ _ _ G2.out Try.underlying45 rfl (by rw [wheel_size]; rfl)
    have HLD := hid hld
    clear hk0 hk1 hb2 ha hsm hp hld
    by_cases h8 : l.length ≤ 8
    · by_cases hs : 0 ≤ s ∧ s < l.length
      · have ht : ¬ (0 ≤ t ∧ t < l.length) := fun x => HPL.out ⟨⟨by omega, h8⟩, hs, x⟩
        go_enter Try.func20, Try.ntmps20
        go_wp2_with fail
        refine (CP.out _ _ _).mono ?_
        rintro e w1 ⟨rfl, hw⟩
        rw [hw, show (decide (0 ≤ s) && decide (s < (l.length : Int))) = true by simp; omega]; clear hw w1
        go_wp2_with fail
        refine (CP.out _ _ _).mono ?_
        rintro e w1 ⟨rfl, hw⟩
        rw [hw, show (decide (0 ≤ t) && decide (t < (l.length : Int))) = false by simp; omega]; clear hw w1
        go_wp2_with (first | (refine wpList_build_wheel0 rfl rfl ?_) | (refine wpList_store_wheel rfl (.tmp 2) (.tmp 25) rfl (w.heap.size + 1) (wheel0 0 0 0).toArray rfl rfl [.int .i64 0, .string ⟨#[]⟩, .int .i64 0, .string ⟨#[]⟩, .int .i64 0, .string ⟨#[]⟩, .int .i64 0, .string ⟨#[]⟩, .int .i64 0, .string ⟨#[]⟩, .int .i64 0, .string ⟨#[]⟩, .int .i64 0, .string ⟨#[]⟩, .int .i64 0, .string ⟨#[]⟩, .int .i64 0, .int .i64 0, .int .i64 0] K1.out rfl HZL.out HZO.out ?_; rw [hWE]))
        refine bodyPost_ret (v := .tuple #[.agg (wheel0 0 0 0).toArray, .bool false]) (by simp [results, Try.results20, asAddr, HLD.out]) rfl ⟨_, by rw [HOK.out], HZL.out, HZO.out, fun x => absurd x HPL.out, BL.out⟩
      · go_enter Try.func20, Try.ntmps20
        go_wp2_with fail
        refine (CP.out _ _ _).mono ?_
        rintro e w1 ⟨rfl, hw⟩
        rw [hw, show (decide (0 ≤ s) && decide (s < (l.length : Int))) = false by simp; omega]; clear hw w1
        go_wp2_with (first | (refine wpList_build_wheel0 rfl rfl ?_) | (refine wpList_store_wheel rfl (.tmp 2) (.tmp 25) rfl (w.heap.size + 1) (wheel0 0 0 0).toArray rfl rfl [.int .i64 0, .string ⟨#[]⟩, .int .i64 0, .string ⟨#[]⟩, .int .i64 0, .string ⟨#[]⟩, .int .i64 0, .string ⟨#[]⟩, .int .i64 0, .string ⟨#[]⟩, .int .i64 0, .string ⟨#[]⟩, .int .i64 0, .string ⟨#[]⟩, .int .i64 0, .string ⟨#[]⟩, .int .i64 0, .int .i64 0, .int .i64 0] K1.out rfl HZL.out HZO.out ?_; rw [hWE]))
        refine bodyPost_ret (v := .tuple #[.agg (wheel0 0 0 0).toArray, .bool false]) (by simp [results, Try.results20, asAddr, HLD.out]) rfl ⟨_, by rw [HOK.out], HZL.out, HZO.out, fun x => absurd x HPL.out, BL.out⟩
    · have h8' : (8 : Int) < (l.length : Int) := by omega
      go_enter Try.func20, Try.ntmps20
      go_wp2_with (first | (refine wpList_build_wheel0 rfl rfl ?_) | (refine wpList_store_wheel rfl (.tmp 2) (.tmp 25) rfl (w.heap.size + 1) (wheel0 0 0 0).toArray rfl rfl [.int .i64 0, .string ⟨#[]⟩, .int .i64 0, .string ⟨#[]⟩, .int .i64 0, .string ⟨#[]⟩, .int .i64 0, .string ⟨#[]⟩, .int .i64 0, .string ⟨#[]⟩, .int .i64 0, .string ⟨#[]⟩, .int .i64 0, .string ⟨#[]⟩, .int .i64 0, .string ⟨#[]⟩, .int .i64 0, .int .i64 0, .int .i64 0] K1.out rfl HZL.out HZO.out ?_; rw [hWE]))
      refine bodyPost_ret (v := .tuple #[.agg (wheel0 0 0 0).toArray, .bool false]) (by simp [results, Try.results20, asAddr, HLD.out]) rfl ⟨_, by rw [HOK.out], HZL.out, HZO.out, fun x => absurd x HPL.out, BL.out⟩
end Go.Proofs.Ytbajffpkfjkolaa
