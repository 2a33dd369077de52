/-
  The walk of impl.copiedKeep: a keep in memory of its own.
-/
import Derived.Test.YtohpkegbmhmjeaaGreatDoorJoint38
import Derived.Test.YtohpkegbmhmjeaaGreatDoorJoint39
import Derived.Test.YtohpkegbmhmjeaaGreatDoorJoint33
import Derived.Test.YtohpkegbmhmjeaaGreatDoorJoint11
import Derived.Deep.LoopGhost
import Derived.WalkKit
namespace Go.Proofs.YtohpkegbmhmjeaaGreatDoor
open Go.RowKit

theorem cells_same {cs : List Value} {i : Nat} {v : Value} (h : cs[i]? = some v) : cs.set i v = cs := by
  obtain ⟨hi, rfl⟩ := List.getElem?_eq_some_iff.1 h
  exact List.set_getElem_self hi
theorem row_putS {w : World} {lo g c k : Nat} {ls : List SessionD} (h : w.ownsRow lo 36 3 (.slice (some ⟨g, 0, none⟩) ls.length c) ls.length (sessionCells ls)) (hk : k < ls.length) : (w.setCell ⟨g, k * 3 + 2, none⟩ (.string ls[k].reply)).ownsRow lo 36 3 (.slice (some ⟨g, 0, none⟩) ls.length c) ls.length (sessionCells ls) := by
  have h2 := row_setK (j := k * 3 + 2) h (.string ls[k].reply)
  have e := row_at sessionEnc 3 (fun _ => rfl) ls [] k 2 hk (by omega)
  rw [List.append_nil] at e
  rw [cells_same (show (sessionCells ls)[k * 3 + 2]? = some (.string ls[k].reply) from e)] at h2
  exact h2
theorem row_putI {w : World} {lo g c k : Nat} {li : List ItemD} (h : w.ownsRow lo 41 3 (.slice (some ⟨g, 0, none⟩) li.length c) li.length (itemCells li)) (hk : k < li.length) : (((w.setCell ⟨g, k * 3, none⟩ (.string li[k].key)).setCell ⟨g, k * 3 + 1, none⟩ (.string li[k].val)).setCell ⟨g, k * 3 + 2, none⟩ (.int .i64 li[k].ver)).ownsRow lo 41 3 (.slice (some ⟨g, 0, none⟩) li.length c) li.length (itemCells li) := by
  have e0 := row_at itemEnc 3 (fun _ => rfl) li [] k 0 hk (by omega)
  have e1 := row_at itemEnc 3 (fun _ => rfl) li [] k 1 hk (by omega)
  have e2 := row_at itemEnc 3 (fun _ => rfl) li [] k 2 hk (by omega)
  rw [List.append_nil] at e0 e1 e2
  have h1 := row_setK (j := k * 3) h (.string li[k].key)
  rw [cells_same (show (itemCells li)[k * 3]? = some (.string li[k].key) from e0)] at h1
  have h2 := row_setK (j := k * 3 + 1) h1 (.string li[k].val)
  rw [cells_same (show (itemCells li)[k * 3 + 1]? = some (.string li[k].val) from e1)] at h2
  have h3 := row_setK (j := k * 3 + 2) h2 (.int .i64 li[k].ver)
  rw [cells_same (show (itemCells li)[k * 3 + 2]? = some (.int .i64 li[k].ver) from e2)] at h3
  exact h3
/-- what stands while texts are cloned -/
def CopyK (w W : World) (q : Nat) (sv iv : Value) (ls : List SessionD) (li : List ItemD) : Prop :=
  Below w.heap.size w W ∧ (w.heap.size + 1 + 1) ≤ q ∧ BlockIs W (w.heap.size + 1) 27 [.slice none 0 0, .slice none 0 0] ∧ BlockIs W q 27 [sv, iv] ∧ KRows W (w.heap.size + 1 + 1) sv iv ls li
theorem CopyK.on {w W W2 : World} {q : Nat} {sv iv : Value} {ls : List SessionD} {li : List ItemD} (h : CopyK w W q sv iv ls li) (hb : Below W.heap.size W W2) : CopyK w W2 q sv iv ls li :=
  ⟨below_via h.1 hb, h.2.1, h.2.2.1.on hb h.2.2.1.lt, h.2.2.2.1.on hb h.2.2.2.1.lt, h.2.2.2.2.on hb⟩

set_option maxRecDepth 1000000 in
set_option maxHeartbeats 4000000 in
theorem copiedKeep_any (lo : Nat) (ao bo : Option Addr) (ls : List SessionD) (li : List ItemD) (ac bc : Nat) (hl : ls.length ≤ 1048576) (hl2 : li.length ≤ 1048576) (hsz : ∀ s ∈ ls, s.reply.size ≤ 1048576) (hiz : ∀ e ∈ li, e.key.size ≤ 1048576 ∧ e.val.size ≤ 1048576) (w : World) (h : KRows w lo (.slice ao ls.length ac) (.slice bo li.length bc) ls li) :
    Calls Tryz.prog 34 #[.agg #[.slice ao ls.length ac, .slice bo li.length bc]] w fun e w' => ∃ va vc vb vd, e = .returned (.agg #[.slice va ls.length vc, .slice vb li.length vd]) ∧ KRows w' w.heap.size (.slice va ls.length vc) (.slice vb li.length vd) ls li ∧ Below w.heap.size w w' := by
  have hx0 : BlockIs ((w.alloc (.cells #[.slice ao ls.length ac, .slice bo li.length bc] 27)).alloc (.cells #[.slice none 0 0, .slice none 0 0] 27)) w.heap.size 27 [.slice ao ls.length ac, .slice bo li.length bc] := by
    show ((w.heap.push _).push _)[w.heap.size]? = some _
    rw [Array.getElem?_push, if_neg (by simp), Array.getElem?_push, if_pos rfl]
  have hx1 : BlockIs ((w.alloc (.cells #[.slice ao ls.length ac, .slice bo li.length bc] 27)).alloc (.cells #[.slice none 0 0, .slice none 0 0] 27)) (w.heap.size + 1) 27 [.slice none 0 0, .slice none 0 0] := by
    show ((w.heap.push _).push _)[w.heap.size + 1]? = some _
    rw [Array.getElem?_push, if_pos (by simp)]
  have hb0 := below_more (below_more (Below.refl w.heap.size w) (.cells #[.slice ao ls.length ac, .slice bo li.length bc] 27)) (.cells #[.slice none 0 0, .slice none 0 0] 27)
  obtain ⟨WW, hWW⟩ : ∃ WW, (w.alloc (.cells #[.slice ao ls.length ac, .slice bo li.length bc] 27)).alloc (.cells #[.slice none 0 0, .slice none 0 0] 27) = WW := ⟨_, rfl⟩
  rw [hWW] at hx0 hx1 hb0
  have X0 := hid hx0
  have X1 := hid hx1
  have B0 := hid hb0
  have H1 := hid h.1
  have H2 := hid h.2
  have CS := hid (fun W hr => cloneS_any lo ao ac ls hl W hr)
  have CI := hid (fun W hr => cloneI_any lo bo bc li hl2 W hr)
  have HSZ := hid hsz
  have HIZ := hid hiz
  clear hx0 hx1 hb0 h hsz hiz
  go_enter Tryz.func34, Tryz.ntmps34
  go_wp2
  refine wp_region_each (N := 48) (by kernel_rfl) (by kernel_rfl) rfl (by kernel_rfl) (fun W => Below w.heap.size w W ∧ BlockIs W (w.heap.size) 27 [.slice ao ls.length ac, .slice bo li.length bc] ∧ BlockIs W (w.heap.size + 1) 27 [.slice none 0 0, .slice none 0 0]) (fun j v u W => match j with | 0 => v = .pointer (some ⟨w.heap.size, 0, none⟩) | 1 => v = .slice ao ls.length ac | 2 => ∃ va vc, v = .slice va ls.length vc ∧ W.ownsRow (w.heap.size + 1 + 1) 36 3 (.slice va ls.length vc) ls.length (sessionCells ls) | 3 => v = .pointer (some ⟨w.heap.size, 1, none⟩) | 4 => v = .slice bo li.length bc | 5 => ∃ vb vd, v = .slice vb li.length vd ∧ W.ownsRow (w.heap.size + 1 + 1) 41 3 (.slice vb li.length vd) li.length (itemCells li) | 6 => ∃ va vc vb vd, v = .agg #[.slice va ls.length vc, .slice vb li.length vd] ∧ W.ownsRow (w.heap.size + 1 + 1) 36 3 (.slice va ls.length vc) ls.length (sessionCells ls) ∧ W.ownsRow (w.heap.size + 1 + 1) 41 3 (.slice vb li.length vd) li.length (itemCells li) | 7 => ∃ q : Nat, v = .pointer (some ⟨q, 0, none⟩) ∧ (w.heap.size + 1 + 1) ≤ q ∧ BlockIs W q 27 [.slice none 0 0, .slice none 0 0] | 8 => ∃ (q : Nat) (va : Option Addr) (vc : Nat) (vb : Option Addr) (vd : Nat), u = .pointer (some ⟨q, 0, none⟩) ∧ (w.heap.size + 1 + 1) ≤ q ∧ BlockIs W q 27 [.slice va ls.length vc, .slice vb li.length vd] ∧ W.ownsRow (w.heap.size + 1 + 1) 36 3 (.slice va ls.length vc) ls.length (sessionCells ls) ∧ W.ownsRow (w.heap.size + 1 + 1) 41 3 (.slice vb li.length vd) li.length (itemCells li) | _ => True) (fun i => if i = 8 then 7 else i) (fun j i => decide ((j, i) ∈ ([(2, 8), (5, 8), (6, 8), (7, 8)] : List (Nat × Nat)))) (fun i X9 Y9 => ∀ g ty cs, BlockIs X9 g ty cs → i ≠ 8 → BlockIs Y9 g ty cs) (fun i => if i = 8 then 3 else 0) (by kernel_rfl) (fun i hi => by have : 9 ≤ i := hi; simp; omega) ?_ ⟨below_drewN B0.out 1, X0.out.on (below_drewN (Below.refl _ _) 1) X0.out.lt, X1.out.on (below_drewN (Below.refl _ _) 1) X1.out.lt⟩ ?_ ?_
  · intro i j v u x y hij hdd hwt hxy hg
    match j, hg with
    | 0, hg => exact hg
    | 1, hg => exact hg
    | 2, hg =>
      obtain ⟨va, vc, e1, e2⟩ := hg
      simp at hdd
      exact ⟨va, vc, e1, row_ext e2 fun g cs h => hxy _ _ _ h hdd⟩
    | 3, hg => exact hg
    | 4, hg => exact hg
    | 5, hg =>
      obtain ⟨va, vc, e1, e2⟩ := hg
      simp at hdd
      exact ⟨va, vc, e1, row_ext e2 fun g cs h => hxy _ _ _ h hdd⟩
    | 6, hg =>
      obtain ⟨va, vc, vb, vd, e1, e2, e3⟩ := hg
      simp at hdd
      exact ⟨va, vc, vb, vd, e1, row_ext e2 fun g cs h => hxy _ _ _ h hdd, row_ext e3 fun g cs h => hxy _ _ _ h hdd⟩
    | 7, hg =>
      obtain ⟨q, e1, e2, e3⟩ := hg
      simp at hdd
      exact ⟨q, e1, e2, hxy _ _ _ e3 hdd⟩
    | 8, hg =>
      obtain ⟨q, va, vc, vb, vd, e1, e2, e3, e4, e5⟩ := hg
      exact ⟨q, va, vc, vb, vd, e1, e2, hxy _ _ _ e3 hij, row_ext e4 fun g cs h => hxy _ _ _ h hij, row_ext e5 fun g cs h => hxy _ _ _ h hij⟩
    | n + 9, _ => exact trivial
  · refine ⟨?_, ?_, ?_, ?_, ?_, ?_, ?_, ?_, ?_, trivial⟩
    · intro A W hC hg hb
      have h1 : A.eval (.tmp 1) = .pointer (some ⟨w.heap.size, 0, none⟩) := hb 1 (base_of (by kernel_rfl))
      exact does_value (v := .pointer (some ⟨w.heap.size, 0, none⟩)) (w' := W) (by simp only [execOp, h1]; simp [go_sem]) ⟨rfl, hC, fun _ _ _ h _ => h⟩
    · intro A W hC hg hb
      have h8 : A.eval (.tmp 8) = .pointer (some ⟨w.heap.size, 0, none⟩) := hg 0 8 (by decide) rfl (by simp [Op.operands]) (by kernel_rfl) rfl
      have hc := hC.2.1.cell (j := 0) rfl
      exact does_value (v := .slice ao ls.length ac) (w' := W) (by simp only [execOp, h8]; simp [go_sem, hc]) ⟨rfl, hC, fun _ _ _ h _ => h⟩
    · intro A W hC hg hb
      have h9 : A.eval (.tmp 9) = .slice ao ls.length ac := hg 1 9 (by decide) rfl (by simp [Op.operands, Call.operands]) (by kernel_rfl) rfl
      simp [go_sem] at h9
      obtain ⟨k1, k2, k3⟩ := hC
      refine does_enter (f := 58) (args := #[.slice ao ls.length ac]) (w' := W) (by simp [go_sem, h9]) ?_
      refine Calls.mono (CS.out W (row_onK H1.out k1)) ?_
      rintro e W' ⟨va, vc, rfl, hr, hb'⟩
      exact ⟨_, rfl, ⟨va, vc, rfl, row_down hr k3.lt⟩, ⟨below_via k1 hb', k2.on hb' k2.lt, k3.on hb' k3.lt⟩, fun _ _ _ h _ => h.on hb' h.lt⟩
    · intro A W hC hg hb
      have h1 : A.eval (.tmp 1) = .pointer (some ⟨w.heap.size, 0, none⟩) := hb 1 (base_of (by kernel_rfl))
      exact does_value (v := .pointer (some ⟨w.heap.size, 1, none⟩)) (w' := W) (by simp only [execOp, h1]; simp [go_sem]) ⟨rfl, hC, fun _ _ _ h _ => h⟩
    · intro A W hC hg hb
      have h11 : A.eval (.tmp 11) = .pointer (some ⟨w.heap.size, 1, none⟩) := hg 3 11 (by decide) rfl (by simp [Op.operands]) (by kernel_rfl) rfl
      have hc := hC.2.1.cell (j := 1) rfl
      exact does_value (v := .slice bo li.length bc) (w' := W) (by simp only [execOp, h11]; simp [go_sem, hc]) ⟨rfl, hC, fun _ _ _ h _ => h⟩
    · intro A W hC hg hb
      have h12 : A.eval (.tmp 12) = .slice bo li.length bc := hg 4 12 (by decide) rfl (by simp [Op.operands, Call.operands]) (by kernel_rfl) rfl
      simp [go_sem] at h12
      obtain ⟨k1, k2, k3⟩ := hC
      refine does_enter (f := 59) (args := #[.slice bo li.length bc]) (w' := W) (by simp [go_sem, h12]) ?_
      refine Calls.mono (CI.out W (row_onK H2.out k1)) ?_
      rintro e W' ⟨va, vc, rfl, hr, hb'⟩
      exact ⟨_, rfl, ⟨va, vc, rfl, row_down hr k3.lt⟩, ⟨below_via k1 hb', k2.on hb' k2.lt, k3.on hb' k3.lt⟩, fun _ _ _ h _ => h.on hb' h.lt⟩
    · intro A W hC hg hb
      have g2 := hg 2 10 (by decide) rfl (by simp [Op.operands]) (by kernel_rfl) rfl
      have g5 := hg 5 13 (by decide) rfl (by simp [Op.operands]) (by kernel_rfl) rfl
      obtain ⟨va, vc, e3, hs3⟩ := g2
      obtain ⟨vb, vd, e7, hs7⟩ := g5
      simp [go_sem] at e3 e7
      refine does_value (v := .agg #[.slice va ls.length vc, .slice vb li.length vd]) (w' := W) (by simp [execOp, go_sem, e3, e7]) ⟨⟨va, vc, vb, vd, rfl, hs3, hs7⟩, hC, fun _ _ _ h _ => h⟩
    · intro A W hC hg hb
      obtain ⟨k1, k2, k3⟩ := hC
      have ba := below_more (Below.refl W.heap.size W) (.cells #[.slice none 0 0, .slice none 0 0] 27)
      exact does_value (v := .pointer (some ⟨W.heap.size, 0, none⟩)) (w' := W.alloc (.cells #[.slice none 0 0, .slice none 0 0] 27)) (by simp [execOp, go_sem]) ⟨⟨_, rfl, k3.lt, heap_alloc_new W _⟩, ⟨below_via k1 ba, k2.on ba k2.lt, k3.on ba k3.lt⟩, fun _ _ _ h _ => h.on ba h.lt⟩
    · intro A W hC hg hb
      have g7 := hg 7 3 (by decide) rfl (by simp [Op.operands]) (by kernel_rfl) rfl
      have g6 := hg 6 14 (by decide) rfl (by simp [Op.operands]) (by kernel_rfl) rfl
      obtain ⟨q, e7, hq, hX⟩ := g7
      obtain ⟨va, vc, vb, vd, e6, hs3, hs7⟩ := g6
      obtain ⟨k1, k2, k3⟩ := hC
      have c0 := hX.cell (j := 0) rfl
      have c1 := hX.cell (j := 1) rfl
      have f0 := hX.thaw 0
      have f1 := hX.thaw 1
      have hX3 := (hX.set 0 (.slice va ls.length vc)).set 1 (.slice vb li.length vd)
      exact does_skip (w' := ((W.setCell ⟨q, 0, none⟩ (.slice va ls.length vc)).setCell ⟨q, 1, none⟩ (.slice vb li.length vd))) (by simp only [execOp, e7, e6]; simp [go_sem, c0, c1, f0, f1]) ⟨⟨q, va, vc, vb, vd, e7, hq, hX3, row_farK (j := 1) (row_farK (j := 0) hs3 hX (by decide) _) (hX.set 0 _) (by decide) _, row_farK (j := 1) (row_farK (j := 0) hs7 hX (by decide) _) (hX.set 0 _) (by decide) _⟩, ⟨(k1.setCell (by show _ ≤ q; omega) _).setCell (by show _ ≤ q; omega) _, (k2.far (by omega) _).far (by omega) _, (k3.far (by omega) _).far (by omega) _⟩, fun _ _ _ _ hne => absurd rfl hne⟩
  · intro vs w4 hC hg
    obtain ⟨Q, va, vc, vb, vd, e7, hQ, g1, g2, g3⟩ := hg 8 (by decide) (fun k => by simp)
    clear hg
    change Exit.then _ _ _ (laidBy _ vs _ 9 _) w4
    simp only [laidBy, if_true, dstAt, List.getElem?_toArray, List.getElem?_cons_succ, List.getElem?_cons_zero, Option.bind_some]
    simp only [Act.put, List.setIfInBounds_toArray, List.set_cons_succ, List.set_cons_zero]
    change vs 7 = _ at e7
    rw [e7]
    clear e7
    have c0 := g1.cell (j := 0) rfl
    have c1 := g1.cell (j := 1) rfl
    have CK : Hid (CopyK w w4 Q (.slice va ls.length vc) (.slice vb li.length vd) ls li) := ⟨hC.1, hQ, hC.2.2, g1, g2, g3⟩
    clear hC g1 g2 g3 X0 X1 B0 hWW CS CI H1 H2
    go_wp2
    go_loopg [18] ls.length (fun q i wr => ∃ (k : Nat), k + q = ls.length ∧ i = .int .i64 k ∧ Hid (CopyK w wr Q (.slice va ls.length vc) (.slice vb li.length vd) ls li))
    case atStart => exact ⟨0, by omega, rfl, CK⟩
    case round =>
      obtain ⟨k, hkg, rfl, CR⟩ := hrel
      clear CK c0 c1
      have c0 := CR.out.2.2.2.1.cell (j := 0) rfl
      have c1 := CR.out.2.2.2.1.cell (j := 1) rfl
      cases gk with
      | zero =>
        have hlt : ¬ (k : Int) < (ls.length : Int) := by omega
        obtain rfl : k = ls.length := by omega
        have CK := CR
        clear CR
        go_wp2
        go_loopg [35] li.length (fun q i wr => ∃ (k : Nat), k + q = li.length ∧ i = .int .i64 k ∧ Hid (CopyK w wr Q (.slice va ls.length vc) (.slice vb li.length vd) ls li))
        case atStart => exact ⟨0, by omega, rfl, CK⟩
        case round =>
          obtain ⟨k, hkg, rfl, CR⟩ := hrel
          clear CK c0 c1
          have c0 := CR.out.2.2.2.1.cell (j := 0) rfl
          have c1 := CR.out.2.2.2.1.cell (j := 1) rfl
          cases gk with
          | zero =>
            have hlt : ¬ (k : Int) < (li.length : Int) := by omega
            obtain rfl : k = li.length := by omega
            obtain ⟨m1, m2, m3, m4, m5⟩ := CR.out
            have r0 := m3.cell (j := 0) rfl
            have r1 := m3.cell (j := 1) rfl
            have f0 := m3.thaw 0
            have f1 := m3.thaw 1
            have BE := hid ((m1.setCell (p := ⟨w.heap.size + 1, 0, none⟩) (by show _ ≤ _ + 1; omega) (.slice va ls.length vc)).setCell (p := ⟨w.heap.size + 1, 1, none⟩) (by show _ ≤ _ + 1; omega) (.slice vb li.length vd))
            have KE := hid (((m5.far (j := 0) m3 (by decide) (by decide) (.slice va ls.length vc)).far (j := 1) (m3.set 0 (.slice va ls.length vc)) (by decide) (by decide) (.slice vb li.length vd)).down (show w.heap.size ≤ _ by omega))
            clear m1 m2 m3 m4 m5 CR
            go_wp2
            refine bodyPost_ret (v := .agg #[.slice va ls.length vc, .slice vb li.length vd]) (by simp [results, Tryz.results34, go_sem, r0, r1]) rfl ⟨va, vc, vb, vd, rfl, KE.out, BE.out⟩
          | succ q =>
            have hlt : k < li.length := by omega
            have hlt' : (k : Int) < (li.length : Int) := by omega
            have hk0 : (0 : Int) ≤ (k : Int) := by omega
            obtain ⟨g, rr, hva, hgl, hgb⟩ := row_blockK (by omega) CR.out.2.2.2.2.2
            subst hva
            have s0 : wr.cell? ⟨g, k * 3, none⟩ = some (.string li[k].key) := hgb.cell (row_at itemEnc 3 (fun _ => rfl) li _ k 0 hlt (by omega))
            have s1 := hgb.cell (j := k * 3 + 1) (row_at itemEnc 3 (fun _ => rfl) li _ k 1 hlt (by omega))
            have s2 := hgb.cell (j := k * 3 + 2) (row_at itemEnc 3 (fun _ => rfl) li _ k 2 hlt (by omega))
            have bn := below_more (Below.refl wr.heap.size wr) (.cells #[.string li[k].key, .string li[k].val, .int .i64 li[k].ver] 41)
            have nn : BlockIs (wr.alloc (.cells #[.string li[k].key, .string li[k].val, .int .i64 li[k].ver] 41)) wr.heap.size 41 [.string li[k].key, .string li[k].val, .int .i64 li[k].ver] := heap_alloc_new wr _
            have cn := CR.out.on bn
            have gn := hgb.on bn hgb.lt
            have hgw : g < wr.heap.size := hgb.lt
            have hQw : Q < wr.heap.size := CR.out.2.2.2.1.lt
            obtain ⟨V, hV⟩ : ∃ V, wr.alloc (.cells #[.string li[k].key, .string li[k].val, .int .i64 li[k].ver] 41) = V := ⟨_, rfl⟩
            rw [hV] at nn cn gn
            have NV := hid nn
            have CV := hid cn
            have hgQ : g ≠ Q := by intro e; subst e; exact absurd (block_one hgb CR.out.2.2.2.1).1 (by decide)
            have hg1 : g ≠ w.heap.size + 1 := by intro e; subst e; exact absurd (block_one hgb CR.out.2.2.1).1 (by decide)
            clear bn nn cn gn hgb
            go_wp2
            refine wp_region_each (N := 48) (by kernel_rfl) (by kernel_rfl) rfl (by kernel_rfl) (fun W => CopyK w W Q (.slice va ls.length vc) (.slice (some ⟨g, 0, none⟩) li.length vd) ls li ∧ BlockIs W wr.heap.size 41 [.string li[k].key, .string li[k].val, .int .i64 li[k].ver] ∧ V.heap.size ≤ W.heap.size) (fun j v _ _ => match j with | 0 => v = .pointer (some ⟨Q, 1, none⟩) | 1 => v = .slice (some ⟨g, 0, none⟩) li.length vd | 2 => v = .int .i64 (k : Int) | 3 => v = .agg #[.string li[k].key, .string li[k].val, .int .i64 li[k].ver] | 4 => v = .agg #[.string li[k].key, .string li[k].val, .int .i64 li[k].ver] | 5 => v = .pointer (some ⟨g, k * 3, none⟩) | 6 => True | _ => True) (fun i => i) (fun _ _ => false) (fun _ _ _ => True) (fun _ => 0) (by kernel_rfl) (fun _ _ => rfl) ?_ ⟨CV.out.on (below_drewN (Below.refl _ _) 1), NV.out.on (below_drewN (Below.refl _ _) 1) NV.out.lt, Nat.le_refl _⟩ ?_ ?_
            · intro i j v u x y hij hdd hwt hxy hg
              match j, hg with
              | 0, hg => exact hg
              | 1, hg => exact hg
              | 2, hg => exact hg
              | 3, hg => exact hg
              | 4, hg => exact hg
              | 5, hg => exact hg
              | 6, hg => exact hg
              | n + 7, _ => exact trivial
            · refine ⟨?_, ?_, ?_, ?_, ?_, ?_, ?_, trivial⟩
              · intro A W hC hg hb
                have h3 : A.eval (.tmp 3) = .pointer (some ⟨Q, 0, none⟩) := hb 3 (base_of (by kernel_rfl))
                exact does_value (v := .pointer (some ⟨Q, 1, none⟩)) (w' := W) (by simp only [execOp, h3]; simp [go_sem]) ⟨rfl, hC, trivial⟩
              · intro A W hC hg hb
                have h40 : A.eval (.tmp 40) = .pointer (some ⟨Q, 1, none⟩) := hg 0 40 (by decide) rfl (by simp [Op.operands]) (by kernel_rfl) rfl
                have hc := hC.1.2.2.2.1.cell (j := 1) rfl
                exact does_value (v := .slice (some ⟨g, 0, none⟩) li.length vd) (w' := W) (by simp only [execOp, h40]; simp [go_sem, hc]) ⟨rfl, hC, trivial⟩
              · intro A W hC hg hb
                have h6 : A.eval (.tmp 6) = .int .i64 (k : Int) := hb 6 (base_of (by kernel_rfl))
                exact does_value (v := .int .i64 (k : Int)) (w' := W) (by simp only [execOp, h6]; simp [go_sem]) ⟨rfl, hC, trivial⟩
              · intro A W hC hg hb
                have h7 : A.eval (.tmp 7) = .pointer (some ⟨wr.heap.size, 0, none⟩) := hb 7 (base_of (by kernel_rfl))
                have z0 := hC.2.1.cell (j := 0) rfl
                have z1 := hC.2.1.cell (j := 1) rfl
                have z2 := hC.2.1.cell (j := 2) rfl
                exact does_value (v := .agg #[.string li[k].key, .string li[k].val, .int .i64 li[k].ver]) (w' := W) (by simp only [execOp, h7]; simp [go_sem, z0, z1, z2]) ⟨rfl, hC, trivial⟩
              · intro A W hC hg hb
                have h43 : A.eval (.tmp 43) = .agg #[.string li[k].key, .string li[k].val, .int .i64 li[k].ver] := hg 3 43 (by decide) rfl (by simp [Op.operands, Call.operands]) (by kernel_rfl) rfl
                simp [go_sem] at h43
                refine does_enter (f := 29) (args := #[.agg #[.string li[k].key, .string li[k].val, .int .i64 li[k].ver]]) (w' := W) (by simp [go_sem, h43]) ?_
                refine Calls.mono (copiedItem_any li[k] (by have := HIZ.out _ (List.getElem_mem hlt); omega) (by have := HIZ.out _ (List.getElem_mem hlt); omega) W) ?_
                rintro e W' ⟨rfl, hb'⟩
                exact ⟨_, rfl, rfl, ⟨hC.1.on hb', hC.2.1.on hb' hC.2.1.lt, Nat.le_trans hC.2.2 hb'.size⟩, trivial⟩
              · intro A W hC hg hb
                have h41 : A.eval (.tmp 41) = .slice (some ⟨g, 0, none⟩) li.length vd := hg 1 41 (by decide) rfl (by simp [Op.operands]) (by kernel_rfl) rfl
                have h42 : A.eval (.tmp 42) = .int .i64 (k : Int) := hg 2 42 (by decide) rfl (by simp [Op.operands]) (by kernel_rfl) rfl
                exact does_value (v := .pointer (some ⟨g, k * 3, none⟩)) (w' := W) (by simp only [execOp, h41, h42]; simp [go_sem, hlt', hk0]) ⟨rfl, hC, trivial⟩
              · intro A W hC hg hb
                have h45 : A.eval (.tmp 45) = .pointer (some ⟨g, k * 3, none⟩) := hg 5 45 (by decide) rfl (by simp [Op.operands]) (by kernel_rfl) rfl
                have h44 : A.eval (.tmp 44) = .agg #[.string li[k].key, .string li[k].val, .int .i64 li[k].ver] := hg 4 44 (by decide) rfl (by simp [Op.operands]) (by kernel_rfl) rfl
                obtain ⟨k1, k2, k3⟩ := hC
                obtain ⟨m1, m2, m3, m4, m5⟩ := k1
                obtain ⟨g', rr', eg, _, hgb⟩ := row_blockK (by omega) m5.2
                cases eg
                have e0 : W.cell? ⟨g, k * 3, none⟩ = some (.string li[k].key) := hgb.cell (row_at itemEnc 3 (fun _ => rfl) li _ k 0 hlt (by omega))
                have e1 := hgb.cell (j := k * 3 + 1) (row_at itemEnc 3 (fun _ => rfl) li _ k 1 hlt (by omega))
                have e2 := hgb.cell (j := k * 3 + 2) (row_at itemEnc 3 (fun _ => rfl) li _ k 2 hlt (by omega))
                have f0 := hgb.thaw (k * 3)
                have f1 := hgb.thaw (k * 3 + 1)
                have f2 := hgb.thaw (k * 3 + 2)
                exact does_skip (w' := ((W.setCell ⟨g, k * 3, none⟩ (.string li[k].key)).setCell ⟨g, k * 3 + 1, none⟩ (.string li[k].val)).setCell ⟨g, k * 3 + 2, none⟩ (.int .i64 li[k].ver)) (by simp only [execOp, h45, h44]; simp [go_sem, e0, e1, e2, f0, f1, f2]) ⟨trivial, ⟨⟨((m1.setCell (by show _ ≤ g; omega) _).setCell (by show _ ≤ g; omega) _).setCell (by show _ ≤ g; omega) _, m2, ((m3.far hg1 _).far hg1 _).far hg1 _, ((m4.far hgQ _).far hgQ _).far hgQ _, row_ext m5.1 fun q cs hq => (((hq.far (fun e => by subst e; exact absurd (block_one hq hgb).1 (by decide)) _).far (fun e => by subst e; exact absurd (block_one hq hgb).1 (by decide)) _).far (fun e => by subst e; exact absurd (block_one hq hgb).1 (by decide)) _), row_putI m5.2 hlt⟩, ((k2.far (by omega) _).far (by omega) _).far (by omega) _, by simp only [World.size_setCell]; exact k3⟩, trivial⟩
            · intro vs w5 hC hg
              clear hg
              change Exit.inBlock 3 (Exit.then _ _) _ (laidBy _ vs _ 7 _) w5
              simp only [laidBy, if_true, dstAt, List.getElem?_toArray, List.getElem?_cons_succ, List.getElem?_cons_zero, Option.bind_some]
              simp only [Act.put, List.setIfInBounds_toArray, List.set_cons_succ, List.set_cons_zero]
              have C5 := hid hC.1
              clear hC CV NV CR
              go_wp2
              go_roundg q
              case measure => omega
              case rel => exact ⟨k + 1, by omega, by go_num, C5⟩
      | succ q =>
        have hlt : k < ls.length := by omega
        have hlt' : (k : Int) < (ls.length : Int) := by omega
        have hk0 : (0 : Int) ≤ (k : Int) := by omega
        obtain ⟨g, rr, hva, hgl, hgb⟩ := row_blockK (by omega) CR.out.2.2.2.2.1
        subst hva
        have s0 : wr.cell? ⟨g, k * 3, none⟩ = some (.int .i64 ls[k].token) := hgb.cell (row_at sessionEnc 3 (fun _ => rfl) ls _ k 0 hlt (by omega))
        have s1 := hgb.cell (j := k * 3 + 1) (row_at sessionEnc 3 (fun _ => rfl) ls _ k 1 hlt (by omega))
        have s2 := hgb.cell (j := k * 3 + 2) (row_at sessionEnc 3 (fun _ => rfl) ls _ k 2 hlt (by omega))
        have bn := below_more (Below.refl wr.heap.size wr) (.cells #[.int .i64 ls[k].token, .int .i64 ls[k].last, .string ls[k].reply] 36)
        have nn : BlockIs (wr.alloc (.cells #[.int .i64 ls[k].token, .int .i64 ls[k].last, .string ls[k].reply] 36)) wr.heap.size 36 [.int .i64 ls[k].token, .int .i64 ls[k].last, .string ls[k].reply] := heap_alloc_new wr _
        have cn := CR.out.on bn
        have gn := hgb.on bn hgb.lt
        have hgw : g < wr.heap.size := hgb.lt
        have hQw : Q < wr.heap.size := CR.out.2.2.2.1.lt
        obtain ⟨V, hV⟩ : ∃ V, wr.alloc (.cells #[.int .i64 ls[k].token, .int .i64 ls[k].last, .string ls[k].reply] 36) = V := ⟨_, rfl⟩
        rw [hV] at nn cn gn
        have NV := hid nn
        have CV := hid cn
        have hgQ : g ≠ Q := by intro e; subst e; exact absurd (block_one hgb CR.out.2.2.2.1).1 (by decide)
        have hg1 : g ≠ w.heap.size + 1 := by intro e; subst e; exact absurd (block_one hgb CR.out.2.2.1).1 (by decide)
        clear bn nn cn gn hgb
        go_wp2
        refine wp_region_each (N := 48) (by kernel_rfl) (by kernel_rfl) rfl (by kernel_rfl) (fun W => CopyK w W Q (.slice (some ⟨g, 0, none⟩) ls.length vc) (.slice vb li.length vd) ls li ∧ BlockIs W wr.heap.size 36 [.int .i64 ls[k].token, .int .i64 ls[k].last, .string ls[k].reply] ∧ V.heap.size ≤ W.heap.size) (fun j v _ _ => match j with | 0 => v = .pointer (some ⟨Q, 0, none⟩) | 1 => v = .slice (some ⟨g, 0, none⟩) ls.length vc | 2 => v = .int .i64 (k : Int) | 3 => v = .pointer (some ⟨wr.heap.size, 2, none⟩) | 4 => v = .string ls[k].reply | 5 => v = .string ls[k].reply | 6 => v = .pointer (some ⟨g, k * 3, none⟩) | 7 => v = .pointer (some ⟨g, k * 3 + 2, none⟩) | 8 => True | _ => True) (fun i => i) (fun _ _ => false) (fun _ _ _ => True) (fun _ => 0) (by kernel_rfl) (fun _ _ => rfl) ?_ ⟨CV.out.on (below_drewN (Below.refl _ _) 1), NV.out.on (below_drewN (Below.refl _ _) 1) NV.out.lt, Nat.le_refl _⟩ ?_ ?_
        · intro i j v u x y hij hdd hwt hxy hg
          match j, hg with
          | 0, hg => exact hg
          | 1, hg => exact hg
          | 2, hg => exact hg
          | 3, hg => exact hg
          | 4, hg => exact hg
          | 5, hg => exact hg
          | 6, hg => exact hg
          | 7, hg => exact hg
          | 8, hg => exact hg
          | n + 9, _ => exact trivial
        · refine ⟨?_, ?_, ?_, ?_, ?_, ?_, ?_, ?_, ?_, trivial⟩
          · intro A W hC hg hb
            have h3 : A.eval (.tmp 3) = .pointer (some ⟨Q, 0, none⟩) := hb 3 (base_of (by kernel_rfl))
            exact does_value (v := .pointer (some ⟨Q, 0, none⟩)) (w' := W) (by simp only [execOp, h3]; simp [go_sem]) ⟨rfl, hC, trivial⟩
          · intro A W hC hg hb
            have h23 : A.eval (.tmp 23) = .pointer (some ⟨Q, 0, none⟩) := hg 0 23 (by decide) rfl (by simp [Op.operands]) (by kernel_rfl) rfl
            have hc := hC.1.2.2.2.1.cell (j := 0) rfl
            exact does_value (v := .slice (some ⟨g, 0, none⟩) ls.length vc) (w' := W) (by simp only [execOp, h23]; simp [go_sem, hc]) ⟨rfl, hC, trivial⟩
          · intro A W hC hg hb
            have h4 : A.eval (.tmp 4) = .int .i64 (k : Int) := hb 4 (base_of (by kernel_rfl))
            exact does_value (v := .int .i64 (k : Int)) (w' := W) (by simp only [execOp, h4]; simp [go_sem]) ⟨rfl, hC, trivial⟩
          · intro A W hC hg hb
            have h5 : A.eval (.tmp 5) = .pointer (some ⟨wr.heap.size, 0, none⟩) := hb 5 (base_of (by kernel_rfl))
            exact does_value (v := .pointer (some ⟨wr.heap.size, 2, none⟩)) (w' := W) (by simp only [execOp, h5]; simp [go_sem]) ⟨rfl, hC, trivial⟩
          · intro A W hC hg hb
            have h26 : A.eval (.tmp 26) = .pointer (some ⟨wr.heap.size, 2, none⟩) := hg 3 26 (by decide) rfl (by simp [Op.operands]) (by kernel_rfl) rfl
            have hc := hC.2.1.cell (j := 2) rfl
            exact does_value (v := .string ls[k].reply) (w' := W) (by simp only [execOp, h26]; simp [go_sem, hc]) ⟨rfl, hC, trivial⟩
          · intro A W hC hg hb
            have h27 : A.eval (.tmp 27) = .string ls[k].reply := hg 4 27 (by decide) rfl (by simp [Op.operands, Call.operands]) (by kernel_rfl) rfl
            simp [go_sem] at h27
            refine does_enter (f := 50) (args := #[.string ls[k].reply]) (w' := W) (by simp [go_sem, h27]) ?_
            refine Calls.mono (clone_any ls[k].reply (by have := HSZ.out _ (List.getElem_mem hlt); omega) W) ?_
            rintro e W' ⟨rfl, hb'⟩
            exact ⟨_, rfl, rfl, ⟨hC.1.on hb', hC.2.1.on hb' hC.2.1.lt, Nat.le_trans hC.2.2 hb'.size⟩, trivial⟩
          · intro A W hC hg hb
            have h24 : A.eval (.tmp 24) = .slice (some ⟨g, 0, none⟩) ls.length vc := hg 1 24 (by decide) rfl (by simp [Op.operands]) (by kernel_rfl) rfl
            have h25 : A.eval (.tmp 25) = .int .i64 (k : Int) := hg 2 25 (by decide) rfl (by simp [Op.operands]) (by kernel_rfl) rfl
            exact does_value (v := .pointer (some ⟨g, k * 3, none⟩)) (w' := W) (by simp only [execOp, h24, h25]; simp [go_sem, hlt', hk0]) ⟨rfl, hC, trivial⟩
          · intro A W hC hg hb
            have h29 : A.eval (.tmp 29) = .pointer (some ⟨g, k * 3, none⟩) := hg 6 29 (by decide) rfl (by simp [Op.operands]) (by kernel_rfl) rfl
            exact does_value (v := .pointer (some ⟨g, k * 3 + 2, none⟩)) (w' := W) (by simp only [execOp, h29]; simp [go_sem]) ⟨rfl, hC, trivial⟩
          · intro A W hC hg hb
            have h30 : A.eval (.tmp 30) = .pointer (some ⟨g, k * 3 + 2, none⟩) := hg 7 30 (by decide) rfl (by simp [Op.operands]) (by kernel_rfl) rfl
            have h28 : A.eval (.tmp 28) = .string ls[k].reply := hg 5 28 (by decide) rfl (by simp [Op.operands]) (by kernel_rfl) rfl
            obtain ⟨k1, k2, k3⟩ := hC
            obtain ⟨m1, m2, m3, m4, m5⟩ := k1
            obtain ⟨g', rr', eg, _, hgb⟩ := row_blockK (by omega) m5.1
            cases eg
            have e0 := hgb.cell (j := k * 3 + 2) (row_at sessionEnc 3 (fun _ => rfl) ls _ k 2 hlt (by omega))
            have f0 := hgb.thaw (k * 3 + 2)
            exact does_skip (w' := W.setCell ⟨g, k * 3 + 2, none⟩ (.string ls[k].reply)) (by simp only [execOp, h30, h28]; simp [go_sem, e0, f0]) ⟨trivial, ⟨⟨m1.setCell (by show _ ≤ g; omega) _, m2, m3.far hg1 _, m4.far hgQ _, row_putS m5.1 hlt, row_ext m5.2 fun q cs hq => hq.far (fun e => by subst e; exact absurd (block_one hq hgb).1 (by decide)) _⟩, k2.far (by omega) _, by rw [World.size_setCell]; exact k3⟩, trivial⟩
        · intro vs w5 hC hg
          clear hg
          change Exit.inBlock 1 (Exit.then _ _) _ (laidBy _ vs _ 9 _) w5
          simp only [laidBy, if_true, dstAt, List.getElem?_toArray, List.getElem?_cons_succ, List.getElem?_cons_zero, Option.bind_some]
          simp only [Act.put, List.setIfInBounds_toArray, List.set_cons_succ, List.set_cons_zero]
          have C5 := hid hC.1
          clear hC CV NV CR
          go_wp2
          go_roundg q
          case measure => omega
          case rel => exact ⟨k + 1, by omega, by go_num, C5⟩
end Go.Proofs.YtohpkegbmhmjeaaGreatDoor
