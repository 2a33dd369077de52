/-
  The walk of impl's shelf.keep: a shelf in order.
-/
import Derived.Test.YtohpkegbmhmjeaaGreatDoorJoint35
import Derived.Test.YtohpkegbmhmjeaaGreatDoorJoint37
import Derived.Test.YtohpkegbmhmjeaaGreatDoorJoint40
import Derived.Test.YtohpkegbmhmjeaaGreatDoorJoint11
import Derived.WalkKit
namespace Go.Proofs.YtohpkegbmhmjeaaGreatDoor
open Go.RowKit

set_option maxRecDepth 1000000 in
set_option maxHeartbeats 4000000 in
theorem shKeep_any (b c : Nat) (ls : List SessionD) (li : List ItemD) (hko : keepOk ls li = true) (w : World) (h : ShelfAt w b c ls li) :
    Calls Tryz.prog 28 #[.agg #[.map (some b), .map (some c)]] w fun e w' => ∃ va vc vb vd, e = .returned (.agg #[.slice va ls.length vc, .slice vb li.length vd]) ∧ KRows w' w.heap.size (.slice va ls.length vc) (.slice vb li.length vd) ls li ∧ Below w.heap.size w w' := by
  obtain ⟨⟨ha, hsf, hl3⟩, hai, hif, hl8⟩ := keep_facts hko
  have hsz : ∀ e ∈ ls, -9223372036854775808 ≤ e.token ∧ e.token ≤ 9223372036854775807 := fun e he => by have := session_bounds (hsf e he); omega
  have hiz : ∀ e ∈ li, e.key.size ≤ 8 := fun e he => by have := item_bounds (hif e he); omega
  have hrz : ∀ e ∈ ls, e.reply.size ≤ 1048576 := fun e he => by have := session_bounds (hsf e he); omega
  have hvz : ∀ e ∈ li, e.key.size ≤ 1048576 ∧ e.val.size ≤ 1048576 := fun e he => by have := item_bounds (hif e he); omega
  have hx0 : BlockIs ((w.alloc (.cells #[.map (some b), .map (some c)] 65)).alloc (.cells #[.slice none 0 0, .slice none 0 0] 27)) w.heap.size 65 [.map (some b), .map (some c)] := by
    show ((w.heap.push _).push _)[w.heap.size]? = some _
    rw [Array.getElem?_push, if_neg (by simp), Array.getElem?_push, if_pos rfl]
  have hx1 : BlockIs ((w.alloc (.cells #[.map (some b), .map (some c)] 65)).alloc (.cells #[.slice none 0 0, .slice none 0 0] 27)) (w.heap.size + 1) 27 [.slice none 0 0, .slice none 0 0] := by
    show ((w.heap.push _).push _)[w.heap.size + 1]? = some _
    rw [Array.getElem?_push, if_pos (by simp)]
  have hb0 : Below w.heap.size w ((w.alloc (.cells #[.map (some b), .map (some c)] 65)).alloc (.cells #[.slice none 0 0, .slice none 0 0] 27)) := below_more (below_more (Below.refl w.heap.size w) _) _
  have hs0 := h.on hb0
  obtain ⟨WW, hWW⟩ : ∃ WW, ((w.alloc (.cells #[.map (some b), .map (some c)] 65)).alloc (.cells #[.slice none 0 0, .slice none 0 0] 27)) = WW := ⟨_, rfl⟩
  rw [hWW] at hx0 hx1 hb0 hs0
  have X0 := hid hx0
  have X1 := hid hx1
  have B0 := hid hb0
  have SA := hid hs0
  clear hx0 hx1 hb0 hs0 h
  go_enter Tryz.func28, Tryz.ntmps28
  go_wp2
  refine wp_region_each (N := 11) (by kernel_rfl) (by kernel_rfl) rfl (by kernel_rfl) (fun W => Below w.heap.size w W ∧ BlockIs W (w.heap.size) 65 [.map (some b), .map (some c)] ∧ (∃ cs, cs.length = 2 ∧ BlockIs W (w.heap.size + 1) 27 cs) ∧ ShelfAt W b c ls li) (fun j v _ W => match j with | 0 => v = .pointer (some ⟨w.heap.size, 0, none⟩) | 1 => v = .map (some b) | 2 => ∃ va vc, v = .slice va ls.length vc ∧ W.ownsRow (w.heap.size + 1 + 1) 36 3 (.slice va ls.length vc) ls.length (sessionCells ls) | 3 => v = .pointer (some ⟨w.heap.size, 1, none⟩) | 4 => v = .map (some c) | 5 => ∃ vb vd, v = .slice vb li.length vd ∧ W.ownsRow (w.heap.size + 1 + 1) 41 3 (.slice vb li.length vd) li.length (itemCells li) | 6 => ∃ va vc vb vd, v = .agg #[.slice va ls.length vc, .slice vb li.length vd] ∧ KRows W (w.heap.size + 1 + 1) (.slice va ls.length vc) (.slice vb li.length vd) ls li | 7 => ∃ va vc vb vd, v = .agg #[.slice va ls.length vc, .slice vb li.length vd] ∧ KRows W (w.heap.size + 1 + 1) (.slice va ls.length vc) (.slice vb li.length vd) ls li | 8 => ∃ va vc vb vd, BlockIs W (w.heap.size + 1) 27 [.slice va ls.length vc, .slice vb li.length vd] ∧ KRows W (w.heap.size + 1 + 1) (.slice va ls.length vc) (.slice vb li.length vd) ls li | _ => True) (fun i => i) (fun j i => decide ((j, i) ∈ ([(2, 8), (5, 8), (6, 8), (7, 8)] : List (Nat × Nat)))) (fun i X9 Y9 => ∀ g ty cs, BlockIs X9 g ty cs → i ≠ 8 → BlockIs Y9 g ty cs) (fun _ => 0) (by kernel_rfl) (fun _ _ => rfl) ?_ ⟨below_drewN B0.out 1, X0.out.on (below_drewN (Below.refl _ _) 1) X0.out.lt, ⟨_, rfl, X1.out.on (below_drewN (Below.refl _ _) 1) X1.out.lt⟩, SA.out.on (below_drewN (Below.refl _ _) 1)⟩ ?_ ?_
  · intro i j v u x y hij hdd hwt hxy hg
    match j, hg with
    | 0, hg => exact hg
    | 1, hg => exact hg
    | 2, hg =>
      obtain ⟨va, vc, e1, e2⟩ := hg
      simp at hdd
      exact ⟨va, vc, e1, row_ext e2 fun g cs h => hxy _ _ _ h hdd⟩
    | 3, hg => exact hg
    | 4, hg => exact hg
    | 5, hg =>
      obtain ⟨va, vc, e1, e2⟩ := hg
      simp at hdd
      exact ⟨va, vc, e1, row_ext e2 fun g cs h => hxy _ _ _ h hdd⟩
    | 6, hg =>
      obtain ⟨va, vc, vb, vd, e1, e2, e3⟩ := hg
      simp at hdd
      exact ⟨va, vc, vb, vd, e1, row_ext e2 fun g cs h => hxy _ _ _ h hdd, row_ext e3 fun g cs h => hxy _ _ _ h hdd⟩
    | 7, hg =>
      obtain ⟨va, vc, vb, vd, e1, e2, e3⟩ := hg
      simp at hdd
      exact ⟨va, vc, vb, vd, e1, row_ext e2 fun g cs h => hxy _ _ _ h hdd, row_ext e3 fun g cs h => hxy _ _ _ h hdd⟩
    | 8, hg =>
      obtain ⟨va, vc, vb, vd, e1, e2, e3⟩ := hg
      exact ⟨va, vc, vb, vd, hxy _ _ _ e1 hij, row_ext e2 fun g cs h => hxy _ _ _ h hij, row_ext e3 fun g cs h => hxy _ _ _ h hij⟩
    | n + 9, _ => exact trivial
  · refine ⟨?_, ?_, ?_, ?_, ?_, ?_, ?_, ?_, ?_, trivial⟩
    · intro A W hC hg hb
      have h1 : A.eval (.tmp 1) = .pointer (some ⟨w.heap.size, 0, none⟩) := hb 1 (base_of (by kernel_rfl))
      exact does_value (v := .pointer (some ⟨w.heap.size, 0, none⟩)) (w' := W) (by simp only [execOp, h1]; simp [go_sem]) ⟨rfl, hC, fun _ _ _ h _ => h⟩
    · intro A W hC hg hb
      have h3 : A.eval (.tmp 3) = .pointer (some ⟨w.heap.size, 0, none⟩) := hg 0 3 (by decide) rfl (by simp [Op.operands]) (by kernel_rfl) rfl
      have hc := hC.2.1.cell (j := 0) rfl
      exact does_value (v := .map (some b)) (w' := W) (by simp only [execOp, h3]; simp [go_sem, hc]) ⟨rfl, hC, fun _ _ _ h _ => h⟩
    · intro A W hC hg hb
      have h4 : A.eval (.tmp 4) = .map (some b) := hg 1 4 (by decide) rfl (by simp [Op.operands, Call.operands]) (by kernel_rfl) rfl
      simp [go_sem] at h4
      obtain ⟨k1, k2, ⟨cs, k3, k4⟩, k5⟩ := hC
      refine does_enter (f := 48) (args := #[.map (some b)]) (w' := W) (by simp [go_sem, h4]) ?_
      refine Calls.mono (inOrderS_any b ls ha (by omega) hsz W k5.2.1) ?_
      rintro e W' ⟨va, vc, rfl, hr, hb'⟩
      exact ⟨_, rfl, ⟨va, vc, rfl, row_down hr k4.lt⟩, ⟨below_via k1 hb', k2.on hb' k2.lt, ⟨cs, k3, k4.on hb' k4.lt⟩, k5.on hb'⟩, fun _ _ _ h _ => h.on hb' h.lt⟩
    · intro A W hC hg hb
      have h1 : A.eval (.tmp 1) = .pointer (some ⟨w.heap.size, 0, none⟩) := hb 1 (base_of (by kernel_rfl))
      exact does_value (v := .pointer (some ⟨w.heap.size, 1, none⟩)) (w' := W) (by simp only [execOp, h1]; simp [go_sem]) ⟨rfl, hC, fun _ _ _ h _ => h⟩
    · intro A W hC hg hb
      have h6 : A.eval (.tmp 6) = .pointer (some ⟨w.heap.size, 1, none⟩) := hg 3 6 (by decide) rfl (by simp [Op.operands]) (by kernel_rfl) rfl
      have hc := hC.2.1.cell (j := 1) rfl
      exact does_value (v := .map (some c)) (w' := W) (by simp only [execOp, h6]; simp [go_sem, hc]) ⟨rfl, hC, fun _ _ _ h _ => h⟩
    · intro A W hC hg hb
      have h7 : A.eval (.tmp 7) = .map (some c) := hg 4 7 (by decide) rfl (by simp [Op.operands, Call.operands]) (by kernel_rfl) rfl
      simp [go_sem] at h7
      obtain ⟨k1, k2, ⟨cs, k3, k4⟩, k5⟩ := hC
      refine does_enter (f := 49) (args := #[.map (some c)]) (w' := W) (by simp [go_sem, h7]) ?_
      refine Calls.mono (inOrderI_any c li hai hl8 hiz W k5.2.2) ?_
      rintro e W' ⟨va, vc, rfl, hr, hb'⟩
      exact ⟨_, rfl, ⟨va, vc, rfl, row_down hr k4.lt⟩, ⟨below_via k1 hb', k2.on hb' k2.lt, ⟨cs, k3, k4.on hb' k4.lt⟩, k5.on hb'⟩, fun _ _ _ h _ => h.on hb' h.lt⟩
    · intro A W hC hg hb
      have g2 := hg 2 5 (by decide) rfl (by simp [Op.operands]) (by kernel_rfl) rfl
      have g5 := hg 5 8 (by decide) rfl (by simp [Op.operands]) (by kernel_rfl) rfl
      obtain ⟨va, vc, e3, hs3⟩ := g2
      obtain ⟨vb, vd, e7, hs7⟩ := g5
      simp [go_sem] at e3 e7
      refine does_value (v := .agg #[.slice va ls.length vc, .slice vb li.length vd]) (w' := W) (by simp [execOp, go_sem, e3, e7]) ⟨⟨va, vc, vb, vd, rfl, hs3, hs7⟩, hC, fun _ _ _ h _ => h⟩
    · intro A W hC hg hb
      have g6 := hg 6 9 (by decide) rfl (by simp [Op.operands, Call.operands]) (by kernel_rfl) rfl
      obtain ⟨va, vc, vb, vd, e6, hk⟩ := g6
      simp [go_sem] at e6
      obtain ⟨k1, k2, ⟨cs, k3, k4⟩, k5⟩ := hC
      refine does_enter (f := 34) (args := #[.agg #[.slice va ls.length vc, .slice vb li.length vd]]) (w' := W) (by simp [go_sem, e6]) ?_
      refine Calls.mono (copiedKeep_any _ va vb ls li vc vd (by omega) (by omega) hrz hvz W hk) ?_
      rintro e W' ⟨va', vc', vb', vd', rfl, hr, hb'⟩
      exact ⟨_, rfl, ⟨va', vc', vb', vd', rfl, hr.down k4.lt⟩, ⟨below_via k1 hb', k2.on hb' k2.lt, ⟨cs, k3, k4.on hb' k4.lt⟩, k5.on hb'⟩, fun _ _ _ h _ => h.on hb' h.lt⟩
    · intro A W hC hg hb
      have h2 : A.eval (.tmp 2) = .pointer (some ⟨w.heap.size + 1, 0, none⟩) := hb 2 (base_of (by kernel_rfl))
      have g7 := hg 7 10 (by decide) rfl (by simp [Op.operands]) (by kernel_rfl) rfl
      obtain ⟨va, vc, vb, vd, e8, hk⟩ := g7
      obtain ⟨k1, k2, ⟨cs, k3, k4⟩, k5⟩ := hC
      match cs, k3 with
      | [a0, a1], _ =>
        have c0 := k4.cell (j := 0) rfl
        have c1 := k4.cell (j := 1) rfl
        have f0 := k4.thaw 0
        have f1 := k4.thaw 1
        have hX3 := (k4.set 0 (.slice va ls.length vc)).set 1 (.slice vb li.length vd)
        exact does_skip (w' := ((W.setCell ⟨w.heap.size + 1, 0, none⟩ (.slice va ls.length vc)).setCell ⟨w.heap.size + 1, 1, none⟩ (.slice vb li.length vd))) (by simp only [execOp, h2, e8]; simp [go_sem, c0, c1, f0, f1]) ⟨⟨va, vc, vb, vd, hX3, (KRows.far (j := 0) hk k4 (by decide) (by decide) _).far (j := 1) (k4.set 0 _) (by decide) (by decide) _⟩, ⟨(k1.setCell (by show _ ≤ _ + 1; omega) _).setCell (by show _ ≤ _ + 1; omega) _, (k2.far (by omega) _).far (by omega) _, ⟨_, rfl, hX3⟩, (k5.far (j := 0) k4 _).far (j := 1) (k4.set 0 _) _⟩, fun _ _ _ _ hne => absurd rfl hne⟩
  · intro vs w4 hC hg
    obtain ⟨va, vc, vb, vd, g1, g2⟩ := hg 8 (by decide) (fun k => by simp)
    clear hg
    change Exit.then _ _ _ (laidBy _ vs _ 9 _) w4
    simp only [laidBy, if_true, dstAt, List.getElem?_toArray, List.getElem?_cons_succ, List.getElem?_cons_zero, Option.bind_some]
    simp only [Act.put, List.setIfInBounds_toArray, List.set_cons_succ, List.set_cons_zero]
    have r0 := g1.cell (j := 0) rfl
    have r1 := g1.cell (j := 1) rfl
    have BE := hid hC.1
    have KE := hid (g2.down (show w.heap.size ≤ _ by omega))
    clear hC g1 g2
    go_wp2
    refine bodyPost_ret (v := .agg #[.slice va ls.length vc, .slice vb li.length vd]) (by simp [results, Tryz.results28, go_sem, r0, r1]) rfl ⟨va, vc, vb, vd, rfl, KE.out, BE.out⟩
end Go.Proofs.YtohpkegbmhmjeaaGreatDoor
