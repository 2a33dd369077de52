/-
  The walk of spec.l07Anew: what begins a journal's next file.
  The walk of spec.ReadDecimal: what it answers.
  The walk of spec.l07Number.
-/
import Derived.Test.YtbifkpkhpaellaaGreatDoorJoint36
import Derived.Test.YtbifkpkhpaellaaGreatDoorJoint35
import Derived.Test.YtbifkpkhpaellaaGreatDoorJoint38
import Derived.Test.YtbifkpkhpaellaaGreatDoorJoint39
import Derived.Test.YtbifkpkhpaellaaGreatDoorJoint12
import Derived.WalkKit
import Derived.Test.YtbifkpkhpaellaaGreatDoorJoint1
namespace Go.Proofs.YtbifkpkhpaellaaGreatDoor
open Go.RowKit

/-- what l07Anew answers -/
def AnewDid (n tm vt s t : Int) (l : List EntD) (w : World) (e : Ending) (w' : World) : Prop :=
  (jourOk (n + 1) tm vt s t l = false ∧ ∃ g, e = .returned (.tuple #[.slice (some ⟨g, 0, none⟩) 0 0, .agg #[.int .i64 0, .int .i64 0, .int .i64 0, .int .i64 0, .int .i64 0, .slice none 0 0], .bool false]) ∧ Below w.heap.size w w') ∨
  (jourOk (n + 1) tm vt s t l = true ∧ ∃ g va' vc', w.heap.size ≤ g ∧ e = .returned (.tuple #[.slice (some ⟨g, 0, none⟩) 4 4, .agg #[.int .i64 (n + 1), .int .i64 tm, .int .i64 vt, .int .i64 s, .int .i64 t, .slice va' l.length vc'], .bool true]) ∧ BlockIs w' g 57 (actCells (nextA n tm vt s t l)) ∧ OwnAt w' 110 (entCells l) l.length va' w.heap.size w'.heap.size ∧ Below w.heap.size w w')

set_option maxRecDepth 1000000 in
set_option maxHeartbeats 8000000 in
theorem l07Anew_any (n tm vt s t : Int) (hn0 : 0 ≤ n) (hn1 : n ≤ 999) (ao : Option Addr) (l : List EntD) (cap : Nat) (hl : l.length ≤ 1048576) (hsm : ∀ f ∈ l, f.data.size ≤ 1048576) (w : World) (ha : EntsAt w ao l) :
    Calls Tryz.prog 24 #[.agg #[.int .i64 n, .int .i64 tm, .int .i64 vt, .int .i64 s, .int .i64 t, .slice ao l.length cap], .agg #[.int .i64 n, .int .i64 tm, .int .i64 vt, .int .i64 s, .int .i64 t, .slice ao l.length cap]] w fun e w' => AnewDid n tm vt s t l w e w' := by
  have HA := hid ha
  have hf := four_log w (.cells #[.int .i64 n, .int .i64 tm, .int .i64 vt, .int .i64 s, .int .i64 t, .slice ao l.length cap] 30) (.cells #[.int .i64 n, .int .i64 tm, .int .i64 vt, .int .i64 s, .int .i64 t, .slice ao l.length cap] 30) (.cells #[.int .i64 0, .int .i64 0, .int .i64 0, .int .i64 0, .int .i64 0, .slice none 0 0] 30)
  obtain ⟨W0, hW0⟩ : ∃ W, ((w.alloc (.cells #[.int .i64 n, .int .i64 tm, .int .i64 vt, .int .i64 s, .int .i64 t, .slice ao l.length cap] 30)).alloc (.cells #[.int .i64 n, .int .i64 tm, .int .i64 vt, .int .i64 s, .int .i64 t, .slice ao l.length cap] 30)).alloc (.cells #[.int .i64 0, .int .i64 0, .int .i64 0, .int .i64 0, .int .i64 0, .slice none 0 0] 30) = W := ⟨_, rfl⟩
  rw [hW0] at hf
  obtain ⟨hB, h0, h1, h2⟩ := hf
  have hx0 : BlockIs W0 w.heap.size 30 [.int .i64 n, .int .i64 tm, .int .i64 vt, .int .i64 s, .int .i64 t, .slice ao l.length cap] := h0
  have hx1 : BlockIs W0 (w.heap.size + 1) 30 [.int .i64 n, .int .i64 tm, .int .i64 vt, .int .i64 s, .int .i64 t, .slice ao l.length cap] := h1
  have hy0 : BlockIs W0 (w.heap.size + 1 + 1) 30 [.int .i64 0, .int .i64 0, .int .i64 0, .int .i64 0, .int .i64 0, .slice none 0 0] := h2
  have b1 := below_more (Below.refl W0.heap.size W0) (.cells #[.int .i64 (n + 1), .int .i64 tm, .int .i64 vt, .int .i64 s, .int .i64 t, .slice ao l.length cap] 30)
  have hx7 : BlockIs (W0.alloc (.cells #[.int .i64 (n + 1), .int .i64 tm, .int .i64 vt, .int .i64 s, .int .i64 t, .slice ao l.length cap] 30)) W0.heap.size 30 [.int .i64 (n + 1), .int .i64 tm, .int .i64 vt, .int .i64 s, .int .i64 t, .slice ao l.length cap] := heap_alloc_new W0 _
  have X1 := hid (hx0.on b1 hx0.lt)
  have Y1 := hid (hy0.on b1 hy0.lt)
  have X7 := hid hx7
  have B1 := hid (below_via hB b1)
  have HB7 := hid hy0.lt
  obtain ⟨b7, hb7⟩ : ∃ b, W0.heap.size = b := ⟨_, rfl⟩
  rw [hb7] at X7 HB7
  have HB7' := hid hb7
  have d0 := hx0.cell (j := 0) rfl
  have m0 := hx1.cell (j := 0) rfl
  have e0 := X7.out.cell (j := 0) rfl
  have d1 := hx0.cell (j := 1) rfl
  have m1 := hx1.cell (j := 1) rfl
  have e1 := X7.out.cell (j := 1) rfl
  have d2 := hx0.cell (j := 2) rfl
  have m2 := hx1.cell (j := 2) rfl
  have e2 := X7.out.cell (j := 2) rfl
  have d3 := hx0.cell (j := 3) rfl
  have m3 := hx1.cell (j := 3) rfl
  have e3 := X7.out.cell (j := 3) rfl
  have d4 := hx0.cell (j := 4) rfl
  have m4 := hx1.cell (j := 4) rfl
  have e4 := X7.out.cell (j := 4) rfl
  have d5 := hx0.cell (j := 5) rfl
  have m5 := hx1.cell (j := 5) rfl
  have e5 := X7.out.cell (j := 5) rfl
  clear h0 h1 h2 hB ha hx0 hx1 hy0 b1 hx7
  go_enter Tryz.func24, Tryz.ntmps24
  go_wp2_with fail
  rw [HB7'.out] at *
  refine (specJText_any (n + 1) tm vt s t ao l cap hl hsm _ (HA.out.on B1.out)).mono ?_
  rintro e w3 ⟨rfl, b3⟩
  have X03 := hid (X1.out.on b3 X1.out.lt)
  have Y3 := hid (Y1.out.on b3 Y1.out.lt)
  have X73 := hid (X7.out.on b3 X7.out.lt)
  have B3 := hid (below_via B1.out b3)
  clear b3 X1 Y1 X7 B1 d0 m0 e0 d1 m1 e1 d2 m2 e2 d3 m3 e3 d4 m4 e4 d5 m5 e5 hW0
  cases hok : jourOk (n + 1) tm vt s t l with
  | false =>
    rw [jourText_no hok]
    have HOK := hid hok
    have b4 := below_more (Below.refl w3.heap.size w3) (.cells #[] 57)
    have hp := Y3.out.on b4 Y3.out.lt
    have hB4 := below_via B3.out b4
    have q0 := hp.cell (j := 0) rfl
    have q1 := hp.cell (j := 1) rfl
    have q2 := hp.cell (j := 2) rfl
    have q3 := hp.cell (j := 3) rfl
    have q4 := hp.cell (j := 4) rfl
    have q5 := hp.cell (j := 5) rfl
    have qf0 := hp.thaw 0
    have qf1 := hp.thaw 1
    have qf2 := hp.thaw 2
    have qf3 := hp.thaw 3
    have qf4 := hp.thaw 4
    have qf5 := hp.thaw 5
    have BL := hid (((((((hB4).setCell (p := ⟨w.heap.size + 1 + 1, 0, none⟩) (by show _ ≤ w.heap.size + 1 + 1; omega) (.int .i64 0)).setCell (p := ⟨w.heap.size + 1 + 1, 1, none⟩) (by show _ ≤ w.heap.size + 1 + 1; omega) (.int .i64 0)).setCell (p := ⟨w.heap.size + 1 + 1, 2, none⟩) (by show _ ≤ w.heap.size + 1 + 1; omega) (.int .i64 0)).setCell (p := ⟨w.heap.size + 1 + 1, 3, none⟩) (by show _ ≤ w.heap.size + 1 + 1; omega) (.int .i64 0)).setCell (p := ⟨w.heap.size + 1 + 1, 4, none⟩) (by show _ ≤ w.heap.size + 1 + 1; omega) (.int .i64 0)).setCell (p := ⟨w.heap.size + 1 + 1, 5, none⟩) (by show _ ≤ w.heap.size + 1 + 1; omega) (.slice none 0 0))
    clear hok hp b4 hB4
    go_wp2
    refine bodyPost_ret (v := .tuple #[.slice (some ⟨w3.heap.size, 0, none⟩) 0 0, .agg #[.int .i64 0, .int .i64 0, .int .i64 0, .int .i64 0, .int .i64 0, .slice none 0 0], .bool false]) (by simp [results, Tryz.results24, go_sem, q0, q1, q2, q3, q4, q5]) rfl ?_
    exact Or.inl ⟨HOK.out, _, rfl, BL.out⟩
  | true =>
    rw [jourText_yes hok]
    have HOK := hid hok
    obtain ⟨TX, hTX⟩ : ∃ x, jText tm vt s t l = x := ⟨_, rfl⟩
    have HTX := hid hTX
    rw [hTX]
    obtain ⟨NN, hNN0⟩ : ∃ x, jname (n + 1) = x := ⟨_, rfl⟩
    have hNN := hid hNN0
    obtain ⟨LN, hLN0⟩ : ∃ x, jname n = x := ⟨_, rfl⟩
    have hLN := hid hLN0
    clear hok hTX hNN0 hLN0
    go_wp2
    refine wp_region_each (N := 43) (by kernel_rfl) (by kernel_rfl) rfl (by kernel_rfl) (fun W => Below w.heap.size w W ∧ BlockIs W b7 30 [.int .i64 (n + 1), .int .i64 tm, .int .i64 vt, .int .i64 s, .int .i64 t, .slice ao l.length cap] ∧ BlockIs W w.heap.size 30 [.int .i64 n, .int .i64 tm, .int .i64 vt, .int .i64 s, .int .i64 t, .slice ao l.length cap] ∧ ∃ cs, cs.length = 6 ∧ BlockIs W (w.heap.size + 1 + 1) 30 cs) (fun j v _ W => match j with | 0 => v = .string TX | 1 => v = .agg #[.int .i64 1, .string ⟨#[106, 43]⟩, .string TX, .string ⟨#[]⟩] | 2 => v = .agg #[.int .i64 2, .string ⟨#[106, 43]⟩, .string ⟨#[]⟩, .string ⟨#[]⟩] | 3 => v = .pointer (some ⟨b7, 0, none⟩) | 4 => v = .int .i64 (n + 1) | 5 => v = .string NN | 6 => v = .agg #[.int .i64 3, .string ⟨#[106, 43]⟩, .string ⟨#[]⟩, .string NN] | 7 => v = .pointer (some ⟨w.heap.size, 0, none⟩) | 8 => v = .int .i64 n | 9 => v = .string LN | 10 => v = .agg #[.int .i64 4, .string LN, .string ⟨#[]⟩, .string ⟨#[]⟩] | 11 => ∃ g, v = .slice (some ⟨g, 0, none⟩) 4 4 ∧ w.heap.size ≤ g ∧ BlockIs W g 57 [.int .i64 1, .string ⟨#[106, 43]⟩, .string TX, .string ⟨#[]⟩, .int .i64 2, .string ⟨#[106, 43]⟩, .string ⟨#[]⟩, .string ⟨#[]⟩, .int .i64 3, .string ⟨#[106, 43]⟩, .string ⟨#[]⟩, .string NN, .int .i64 4, .string LN, .string ⟨#[]⟩, .string ⟨#[]⟩] | 12 => v = .agg #[.int .i64 (n + 1), .int .i64 tm, .int .i64 vt, .int .i64 s, .int .i64 t, .slice ao l.length cap] | 13 => ∃ (va' : Option Addr) (vc' : Nat), v = .agg #[.int .i64 (n + 1), .int .i64 tm, .int .i64 vt, .int .i64 s, .int .i64 t, .slice va' l.length vc'] ∧ l.length ≤ vc' ∧ OwnAt W 110 (entCells l) l.length va' w.heap.size W.heap.size | 14 => ∃ g, v = .slice (some ⟨g, 0, none⟩) 4 4 ∧ w.heap.size ≤ g ∧ BlockIs W g 57 [.int .i64 1, .string ⟨#[106, 43]⟩, .string TX, .string ⟨#[]⟩, .int .i64 2, .string ⟨#[106, 43]⟩, .string ⟨#[]⟩, .string ⟨#[]⟩, .int .i64 3, .string ⟨#[106, 43]⟩, .string ⟨#[]⟩, .string NN, .int .i64 4, .string LN, .string ⟨#[]⟩, .string ⟨#[]⟩] | 15 => ∃ (va' : Option Addr) (vc' : Nat), BlockIs W (w.heap.size + 1 + 1) 30 [.int .i64 (n + 1), .int .i64 tm, .int .i64 vt, .int .i64 s, .int .i64 t, .slice va' l.length vc'] ∧ l.length ≤ vc' ∧ OwnAt W 110 (entCells l) l.length va' w.heap.size W.heap.size | 16 => v = .bool true | _ => True) (fun i => i) (fun _ _ => false) (fun i x y => x.heap.size ≤ y.heap.size ∧ ∀ g ty cs, BlockIs x g ty cs → (i = 15 → ty ≠ 30) → BlockIs y g ty cs) (fun _ => 0) (by kernel_rfl) (fun _ _ => rfl) ?_ ⟨below_drewN B3.out 1, X73.out.on (below_drewN (Below.refl _ _) 1) X73.out.lt, X03.out.on (below_drewN (Below.refl _ _) 1) X03.out.lt, _, rfl, Y3.out.on (below_drewN (Below.refl _ _) 1) Y3.out.lt⟩ ?_ ?_
    · intro i j v u x y hij hdd hwt hxy hg
      match j, hg with
      | 0, hg => exact hg
      | 1, hg => exact hg
      | 2, hg => exact hg
      | 3, hg => exact hg
      | 4, hg => exact hg
      | 5, hg => exact hg
      | 6, hg => exact hg
      | 7, hg => exact hg
      | 8, hg => exact hg
      | 9, hg => exact hg
      | 10, hg => exact hg
      | 11, hg =>
        obtain ⟨g, e1, e2, e3⟩ := hg
        exact ⟨g, e1, e2, hxy.2 _ _ _ e3 (fun _ => by decide)⟩
      | 12, hg => exact hg
      | 13, hg =>
        obtain ⟨va', vc', e1, e0, ho⟩ := hg
        exact ⟨va', vc', e1, e0, ho.ext hxy.1 fun g r h => hxy.2 _ _ _ h (fun _ => by decide)⟩
      | 14, hg =>
        obtain ⟨g, e1, e2, e3⟩ := hg
        exact ⟨g, e1, e2, hxy.2 _ _ _ e3 (fun _ => by decide)⟩
      | 15, hg =>
        obtain ⟨va', vc', e1, e0, ho⟩ := hg
        exact ⟨va', vc', hxy.2 _ _ _ e1 (fun e => absurd e hij), e0, ho.ext hxy.1 fun g r h => hxy.2 _ _ _ h (fun _ => by decide)⟩
      | 16, hg => exact hg
      | n + 17, _ => exact trivial
    · refine ⟨?_, ?_, ?_, ?_, ?_, ?_, ?_, ?_, ?_, ?_, ?_, ?_, ?_, ?_, ?_, ?_, ?_, trivial⟩
      · intro A W hC hg hb
        have h8 : A.eval (.tmp 8) = .string TX := hb 8 (base_of (by kernel_rfl))
        exact does_value (v := .string TX) (w' := W) (by simp only [execOp, h8]; simp [go_sem]) ⟨rfl, hC, Nat.le_refl _, fun _ _ _ h _ => h⟩
      · intro A W hC hg hb
        have h29 : A.eval (.tmp 29) = .string TX := hg 0 29 (by decide) rfl (by simp [Op.operands]) (by kernel_rfl) rfl
        simp [go_sem] at h29
        exact does_value (v := .agg #[.int .i64 1, .string ⟨#[106, 43]⟩, .string TX, .string ⟨#[]⟩]) (w' := W) (by simp [execOp, go_sem, h29]) ⟨rfl, hC, Nat.le_refl _, fun _ _ _ h _ => h⟩
      · intro A W hC hg hb
        exact does_value (v := .agg #[.int .i64 2, .string ⟨#[106, 43]⟩, .string ⟨#[]⟩, .string ⟨#[]⟩]) (w' := W) (by simp only [execOp]; simp [go_sem]) ⟨rfl, hC, Nat.le_refl _, fun _ _ _ h _ => h⟩
      · intro A W hC hg hb
        have h7 : A.eval (.tmp 7) = .pointer (some ⟨b7, 0, none⟩) := hb 7 (base_of (by kernel_rfl))
        exact does_value (v := .pointer (some ⟨b7, 0, none⟩)) (w' := W) (by simp only [execOp, h7]; simp [go_sem]) ⟨rfl, hC, Nat.le_refl _, fun _ _ _ h _ => h⟩
      · intro A W hC hg hb
        have h32 : A.eval (.tmp 32) = .pointer (some ⟨b7, 0, none⟩) := hg 3 32 (by decide) rfl (by simp [Op.operands]) (by kernel_rfl) rfl
        obtain ⟨k1, k2, k3, cs, k4, k5⟩ := hC
        have hc := k2.cell (j := 0) rfl
        exact does_value (v := .int .i64 (n + 1)) (w' := W) (by simp only [execOp, h32]; simp [go_sem, hc]) ⟨rfl, ⟨k1, k2, k3, cs, k4, k5⟩, Nat.le_refl _, fun _ _ _ h _ => h⟩
      · intro A W hC hg hb
        have h33 : A.eval (.tmp 33) = .int .i64 (n + 1) := hg 4 33 (by decide) rfl (by simp [Op.operands, Call.operands]) (by kernel_rfl) rfl
        simp [go_sem] at h33
        refine does_enter (f := 20) (args := #[.int .i64 (n + 1)]) (w' := W) (by simp [go_sem, h33]) ?_
        have cj := specJName_any (n + 1) W
        rw [hNN.out] at cj
        refine Calls.mono cj ?_
        rintro e W' ⟨rfl, hb'⟩
        obtain ⟨k1, k2, k3, cs, k4, k5⟩ := hC
        exact ⟨_, rfl, rfl, ⟨below_via k1 hb', k2.on hb' k2.lt, k3.on hb' k3.lt, cs, k4, k5.on hb' k5.lt⟩, hb'.size, fun g ty cs hq _ => hq.on hb' hq.lt⟩
      · intro A W hC hg hb
        have h34 : A.eval (.tmp 34) = .string NN := hg 5 34 (by decide) rfl (by simp [Op.operands]) (by kernel_rfl) rfl
        simp [go_sem] at h34
        exact does_value (v := .agg #[.int .i64 3, .string ⟨#[106, 43]⟩, .string ⟨#[]⟩, .string NN]) (w' := W) (by simp [execOp, go_sem, h34]) ⟨rfl, hC, Nat.le_refl _, fun _ _ _ h _ => h⟩
      · intro A W hC hg hb
        have h2 : A.eval (.tmp 2) = .pointer (some ⟨w.heap.size, 0, none⟩) := hb 2 (base_of (by kernel_rfl))
        exact does_value (v := .pointer (some ⟨w.heap.size, 0, none⟩)) (w' := W) (by simp only [execOp, h2]; simp [go_sem]) ⟨rfl, hC, Nat.le_refl _, fun _ _ _ h _ => h⟩
      · intro A W hC hg hb
        have h36 : A.eval (.tmp 36) = .pointer (some ⟨w.heap.size, 0, none⟩) := hg 7 36 (by decide) rfl (by simp [Op.operands]) (by kernel_rfl) rfl
        obtain ⟨k1, k2, k3, cs, k4, k5⟩ := hC
        have hc := k3.cell (j := 0) rfl
        exact does_value (v := .int .i64 n) (w' := W) (by simp only [execOp, h36]; simp [go_sem, hc]) ⟨rfl, ⟨k1, k2, k3, cs, k4, k5⟩, Nat.le_refl _, fun _ _ _ h _ => h⟩
      · intro A W hC hg hb
        have h37 : A.eval (.tmp 37) = .int .i64 n := hg 8 37 (by decide) rfl (by simp [Op.operands, Call.operands]) (by kernel_rfl) rfl
        simp [go_sem] at h37
        refine does_enter (f := 20) (args := #[.int .i64 n]) (w' := W) (by simp [go_sem, h37]) ?_
        have cj := specJName_any n W
        rw [hLN.out] at cj
        refine Calls.mono cj ?_
        rintro e W' ⟨rfl, hb'⟩
        obtain ⟨k1, k2, k3, cs, k4, k5⟩ := hC
        exact ⟨_, rfl, rfl, ⟨below_via k1 hb', k2.on hb' k2.lt, k3.on hb' k3.lt, cs, k4, k5.on hb' k5.lt⟩, hb'.size, fun g ty cs hq _ => hq.on hb' hq.lt⟩
      · intro A W hC hg hb
        have h38 : A.eval (.tmp 38) = .string LN := hg 9 38 (by decide) rfl (by simp [Op.operands]) (by kernel_rfl) rfl
        simp [go_sem] at h38
        exact does_value (v := .agg #[.int .i64 4, .string LN, .string ⟨#[]⟩, .string ⟨#[]⟩]) (w' := W) (by simp [execOp, go_sem, h38]) ⟨rfl, hC, Nat.le_refl _, fun _ _ _ h _ => h⟩
      · intro A W hC hg hb
        have h30 : A.eval (.tmp 30) = .agg #[.int .i64 1, .string ⟨#[106, 43]⟩, .string TX, .string ⟨#[]⟩] := hg 1 30 (by decide) rfl (by simp [Op.operands]) (by kernel_rfl) rfl
        have h31 : A.eval (.tmp 31) = .agg #[.int .i64 2, .string ⟨#[106, 43]⟩, .string ⟨#[]⟩, .string ⟨#[]⟩] := hg 2 31 (by decide) rfl (by simp [Op.operands]) (by kernel_rfl) rfl
        have h35 : A.eval (.tmp 35) = .agg #[.int .i64 3, .string ⟨#[106, 43]⟩, .string ⟨#[]⟩, .string NN] := hg 6 35 (by decide) rfl (by simp [Op.operands]) (by kernel_rfl) rfl
        have h39 : A.eval (.tmp 39) = .agg #[.int .i64 4, .string LN, .string ⟨#[]⟩, .string ⟨#[]⟩] := hg 10 39 (by decide) rfl (by simp [Op.operands]) (by kernel_rfl) rfl
        obtain ⟨k1, k2, k3, cs, k4, k5⟩ := hC
        have hb' := below_more (Below.refl W.heap.size W) (.cells #[.int .i64 1, .string ⟨#[106, 43]⟩, .string TX, .string ⟨#[]⟩, .int .i64 2, .string ⟨#[106, 43]⟩, .string ⟨#[]⟩, .string ⟨#[]⟩, .int .i64 3, .string ⟨#[106, 43]⟩, .string ⟨#[]⟩, .string NN, .int .i64 4, .string LN, .string ⟨#[]⟩, .string ⟨#[]⟩] 57)
        simp [go_sem] at h30 h31 h35 h39
        exact does_value (v := .slice (some ⟨W.heap.size, 0, none⟩) 4 4) (w' := W.alloc (.cells #[.int .i64 1, .string ⟨#[106, 43]⟩, .string TX, .string ⟨#[]⟩, .int .i64 2, .string ⟨#[106, 43]⟩, .string ⟨#[]⟩, .string ⟨#[]⟩, .int .i64 3, .string ⟨#[106, 43]⟩, .string ⟨#[]⟩, .string NN, .int .i64 4, .string LN, .string ⟨#[]⟩, .string ⟨#[]⟩] 57)) (by simp [execOp, go_sem, h30, h31, h35, h39]) ⟨⟨_, rfl, k1.size, heap_alloc_new W _⟩, ⟨below_via k1 hb', k2.on hb' k2.lt, k3.on hb' k3.lt, cs, k4, k5.on hb' k5.lt⟩, hb'.size, fun g ty cs hq _ => hq.on hb' hq.lt⟩
      · intro A W hC hg hb
        have h7 : A.eval (.tmp 7) = .pointer (some ⟨b7, 0, none⟩) := hb 7 (base_of (by kernel_rfl))
        obtain ⟨k1, k2, k3, cs, k4, k5⟩ := hC
        have hc0 := k2.cell (j := 0) rfl
        have hc1 := k2.cell (j := 1) rfl
        have hc2 := k2.cell (j := 2) rfl
        have hc3 := k2.cell (j := 3) rfl
        have hc4 := k2.cell (j := 4) rfl
        have hc5 := k2.cell (j := 5) rfl
        exact does_value (v := .agg #[.int .i64 (n + 1), .int .i64 tm, .int .i64 vt, .int .i64 s, .int .i64 t, .slice ao l.length cap]) (w' := W) (by simp only [execOp, h7]; simp [go_sem, hc0, hc1, hc2, hc3, hc4, hc5]) ⟨rfl, ⟨k1, k2, k3, cs, k4, k5⟩, Nat.le_refl _, fun _ _ _ h _ => h⟩
      · intro A W hC hg hb
        have h41 : A.eval (.tmp 41) = .agg #[.int .i64 (n + 1), .int .i64 tm, .int .i64 vt, .int .i64 s, .int .i64 t, .slice ao l.length cap] := hg 12 41 (by decide) rfl (by simp [Op.operands, Call.operands]) (by kernel_rfl) rfl
        simp [go_sem] at h41
        refine does_enter (f := 23) (args := #[.agg #[.int .i64 (n + 1), .int .i64 tm, .int .i64 vt, .int .i64 s, .int .i64 t, .slice ao l.length cap]]) (w' := W) (by simp [go_sem, h41]) ?_
        obtain ⟨k1, k2, k3, cs, k4, k5⟩ := hC
        refine (l07Copy_any (n + 1) tm vt s t ao l cap hl W (HA.out.on k1)).mono ?_
        rintro e W' ⟨va', vc', rfl, hvc, ho, hb'⟩
        exact ⟨_, rfl, ⟨va', vc', rfl, hvc, ho.down k1.size (Nat.le_refl _)⟩, ⟨below_via k1 hb', k2.on hb' k2.lt, k3.on hb' k3.lt, cs, k4, k5.on hb' k5.lt⟩, hb'.size, fun g ty cs hq _ => hq.on hb' hq.lt⟩
      · intro A W hC hg hb
        have g11 := hg 11 40 (by decide) rfl (by simp [Op.operands]) (by kernel_rfl) rfl
        obtain ⟨g, h40, hlo, hbl⟩ := g11
        simp [go_sem] at h40
        exact does_value (v := .slice (some ⟨g, 0, none⟩) 4 4) (w' := W) (by simp [execOp, go_sem, h40]) ⟨⟨g, rfl, hlo, hbl⟩, hC, Nat.le_refl _, fun _ _ _ h _ => h⟩
      · intro A W hC hg hb
        have h5 : A.eval (.tmp 5) = .pointer (some ⟨w.heap.size + 1 + 1, 0, none⟩) := hb 5 (base_of (by kernel_rfl))
        have g13 := hg 13 42 (by decide) rfl (by simp [Op.operands]) (by kernel_rfl) rfl
        obtain ⟨va', vc', h42, hvc, ho⟩ := g13
        obtain ⟨k1, k2, k3, cs, k4, k5⟩ := hC
        match cs, k4 with
        | [a0, a1, a2, a3, a4, a5], _ =>
          have c0 := k5.cell (j := 0) rfl
          have c1 := k5.cell (j := 1) rfl
          have c2 := k5.cell (j := 2) rfl
          have c3 := k5.cell (j := 3) rfl
          have c4 := k5.cell (j := 4) rfl
          have c5 := k5.cell (j := 5) rfl
          have f0 := k5.thaw 0
          have f1 := k5.thaw 1
          have f2 := k5.thaw 2
          have f3 := k5.thaw 3
          have f4 := k5.thaw 4
          have f5 := k5.thaw 5
          have hX : BlockIs ((((((W.setCell ⟨w.heap.size + 1 + 1, 0, none⟩ (.int .i64 (n + 1))).setCell ⟨w.heap.size + 1 + 1, 1, none⟩ (.int .i64 tm)).setCell ⟨w.heap.size + 1 + 1, 2, none⟩ (.int .i64 vt)).setCell ⟨w.heap.size + 1 + 1, 3, none⟩ (.int .i64 s)).setCell ⟨w.heap.size + 1 + 1, 4, none⟩ (.int .i64 t)).setCell ⟨w.heap.size + 1 + 1, 5, none⟩ (.slice va' l.length vc')) (w.heap.size + 1 + 1) 30 [.int .i64 (n + 1), .int .i64 tm, .int .i64 vt, .int .i64 s, .int .i64 t, .slice va' l.length vc'] := (((((k5.set 0 (.int .i64 (n + 1))).set 1 (.int .i64 tm)).set 2 (.int .i64 vt)).set 3 (.int .i64 s)).set 4 (.int .i64 t)).set 5 (.slice va' l.length vc')
          have far : ∀ q ty cs, BlockIs W q ty cs → q ≠ w.heap.size + 1 + 1 → BlockIs ((((((W.setCell ⟨w.heap.size + 1 + 1, 0, none⟩ (.int .i64 (n + 1))).setCell ⟨w.heap.size + 1 + 1, 1, none⟩ (.int .i64 tm)).setCell ⟨w.heap.size + 1 + 1, 2, none⟩ (.int .i64 vt)).setCell ⟨w.heap.size + 1 + 1, 3, none⟩ (.int .i64 s)).setCell ⟨w.heap.size + 1 + 1, 4, none⟩ (.int .i64 t)).setCell ⟨w.heap.size + 1 + 1, 5, none⟩ (.slice va' l.length vc')) q ty cs := fun q ty cs hq hne => (((((hq.far (Ne.symm hne) _).far (Ne.symm hne) _).far (Ne.symm hne) _).far (Ne.symm hne) _).far (Ne.symm hne) _).far (Ne.symm hne) _
          refine does_skip (w' := ((((((W.setCell ⟨w.heap.size + 1 + 1, 0, none⟩ (.int .i64 (n + 1))).setCell ⟨w.heap.size + 1 + 1, 1, none⟩ (.int .i64 tm)).setCell ⟨w.heap.size + 1 + 1, 2, none⟩ (.int .i64 vt)).setCell ⟨w.heap.size + 1 + 1, 3, none⟩ (.int .i64 s)).setCell ⟨w.heap.size + 1 + 1, 4, none⟩ (.int .i64 t)).setCell ⟨w.heap.size + 1 + 1, 5, none⟩ (.slice va' l.length vc'))) (by simp only [execOp, h5, h42]; simp [go_sem, c0, c1, c2, c3, c4, c5, f0, f1, f2, f3, f4, f5]) ⟨⟨va', vc', hX, hvc, ?_⟩, ⟨((((((k1).setCell (p := ⟨w.heap.size + 1 + 1, 0, none⟩) (by show _ ≤ w.heap.size + 1 + 1; omega) (.int .i64 (n + 1))).setCell (p := ⟨w.heap.size + 1 + 1, 1, none⟩) (by show _ ≤ w.heap.size + 1 + 1; omega) (.int .i64 tm)).setCell (p := ⟨w.heap.size + 1 + 1, 2, none⟩) (by show _ ≤ w.heap.size + 1 + 1; omega) (.int .i64 vt)).setCell (p := ⟨w.heap.size + 1 + 1, 3, none⟩) (by show _ ≤ w.heap.size + 1 + 1; omega) (.int .i64 s)).setCell (p := ⟨w.heap.size + 1 + 1, 4, none⟩) (by show _ ≤ w.heap.size + 1 + 1; omega) (.int .i64 t)).setCell (p := ⟨w.heap.size + 1 + 1, 5, none⟩) (by show _ ≤ w.heap.size + 1 + 1; omega) (.slice va' l.length vc'), far _ _ _ k2 (by have := HB7.out; omega), far _ _ _ k3 (by omega), _, rfl, hX⟩, by simp [World.size_setCell], fun q ty cs hq hne => far q ty cs hq (by intro e; subst e; exact hne rfl (block_one hq k5).1)⟩
          exact ho.ext (by simp [World.size_setCell]) (fun g r h => far g _ _ h (by intro e; subst e; exact absurd (block_one h k5).1 (by decide)))
      · intro A W hC hg hb
        exact does_value (v := .bool true) (w' := W) (by simp only [execOp]; simp [go_sem]) ⟨rfl, hC, Nat.le_refl _, fun _ _ _ h _ => h⟩
    intro vs w4 hC hg
    obtain ⟨g, hg4, hlo, hbl⟩ := hg 14 (by decide) (fun k => rfl)
    obtain ⟨va', vc', hb5, hvc, ho⟩ := hg 15 (by decide) (fun k => rfl)
    have hg6 := hg 16 (by decide) (fun k => rfl)
    change vs 14 = _ at hg4
    change vs 16 = _ at hg6
    obtain ⟨k1, k2, k3, cs, k4, k5⟩ := hC
    clear hg k2 k3 k4 k5 cs
    have z0 := hb5.cell (j := 0) rfl
    have z1 := hb5.cell (j := 1) rfl
    have z2 := hb5.cell (j := 2) rfl
    have z3 := hb5.cell (j := 3) rfl
    have z4 := hb5.cell (j := 4) rfl
    have z5 := hb5.cell (j := 5) rfl
    have BL := hid k1
    have OL := hid ho
    have AL := hid hbl
    have HA4 : Hid (nextA n tm vt s t l = [⟨1, ⟨#[106, 43]⟩, TX, ⟨#[]⟩⟩, ⟨2, ⟨#[106, 43]⟩, ⟨#[]⟩, ⟨#[]⟩⟩, ⟨3, ⟨#[106, 43]⟩, ⟨#[]⟩, NN⟩, ⟨4, LN, ⟨#[]⟩, ⟨#[]⟩⟩]) := by
      show _ = _
      rw [nextA, HTX.out, hNN.out, hLN.out]
    change Exit.then _ _ _ (laidBy _ vs _ 17 _) w4
    simp only [laidBy, if_true, dstAt, List.getElem?_toArray, List.getElem?_cons_succ, List.getElem?_cons_zero, Option.bind_some]
    simp only [Act.put, List.setIfInBounds_toArray, List.set_cons_succ, List.set_cons_zero]
    rw [hg4, hg6]
    clear hg4 hg6 k1 ho hbl hb5
    go_wp2
    refine bodyPost_ret (v := .tuple #[.slice (some ⟨g, 0, none⟩) 4 4, .agg #[.int .i64 (n + 1), .int .i64 tm, .int .i64 vt, .int .i64 s, .int .i64 t, .slice va' l.length vc'], .bool true]) (by simp [results, Tryz.results24, go_sem, z0, z1, z2, z3, z4, z5]) rfl ?_
    refine Or.inr ⟨HOK.out, g, va', vc', hlo, rfl, ?_, OL.out, BL.out⟩
    rw [HA4.out]
    exact AL.out
end Go.Proofs.YtbifkpkhpaellaaGreatDoor

namespace Go.Proofs.YtbifkpkhpaellaaGreatDoor
open Go.RowKit

set_option maxRecDepth 1000000 in
set_option maxHeartbeats 1000000 in
theorem specReadDecimal_any (s : ByteArray) (hs : s.size ≤ 10) (w : World) :
    Calls Tryz.prog 37 #[.string s] w fun e w' =>
      ((DecOk s.data.toList ∧ e = .returned (.tuple #[.int .i64 (num s.data.toList), .bool true])) ∨ (¬ DecOk s.data.toList ∧ e = .returned (.tuple #[.int .i64 0, .bool false]))) ∧ Below w.heap.size w w' := by
  have hs' : ¬ (10 : Int) < (s.size : Int) := by omega
  go_enter Tryz.func37, Tryz.ntmps37
  go_wp2
  go_loop [4, 5] (fun x i => ∃ (k : Nat), k ≤ s.size ∧ i = .int .i64 k ∧ x = .int .i64 (num (s.data.toList.take k)) ∧ Digits (s.data.toList.take k)) (fun _ i => s.size - (intOf i).toNat)
  case atStart => exact ⟨0, Nat.zero_le _, rfl, rfl, by simp [Digits]⟩
  case round =>
    obtain ⟨k, hk, rfl, rfl, hD⟩ := hrel
    have hnl := num_lt k (s.data.toList.take k) (take_len s k hk) hD
    have hn10 : num (s.data.toList.take k) < 10000000000 := Nat.lt_of_lt_of_le hnl (Nat.pow_le_pow_right (by omega) (Nat.le_trans hk hs))
    clear hnl
    have HD := (show Hid _ from hD)
    clear hD
    by_cases hlt : k < s.size
    · have c0 : (s[k].toNat : Int) ≤ 255 := by have := s[k].toNat_lt; omega
      by_cases h1 : (s[k].toNat : Int) < 48
      · go_wp2
        go_ret2
        exact ⟨Or.inr ⟨digits_at hlt (by omega), rfl⟩, Below.refl _ _⟩
      · by_cases h2 : 57 < (s[k].toNat : Int)
        · go_wp2
          go_ret2
          exact ⟨Or.inr ⟨digits_at hlt (by omega), rfl⟩, Below.refl _ _⟩
        · have HN := (show Hid _ from num_step hlt (by omega))
          have HD2 : Hid (Digits (s.data.toList.take (k + 1))) := by
            rw [take_snoc s k hlt]
            exact Digits.snoc HD.out (by omega)
          go_wp2
          go_round
          case rel => exact ⟨k + 1, by omega, by go_num, by rw [HN.out], HD2.out⟩
          case measure => simp [intOf]; omega
    · have e : Hid (s.data.toList.take k = s.data.toList) := List.take_of_length_le (by simp; omega)
      have HD3 : Hid (Digits s.data.toList) := by have := HD.out; rw [e.out] at this; exact this
      rw [e.out] at hn10
      obtain ⟨N, hN⟩ : ∃ N, N = num s.data.toList := ⟨_, rfl⟩
      have hNe : num (s.data.toList.take k) = N := by rw [e.out, hN]
      rw [hNe]
      rw [← hN] at hn10
      have HN := (show Hid _ from hN)
      clear hN hNe e
      by_cases hbig : 1000000000 < (N : Int)
      · go_wp2
        go_ret2
        exact ⟨Or.inr ⟨fun h => by have := h.2.1; have := HN.out; omega, rfl⟩, Below.refl _ _⟩
      · have HC := (show Hid _ from specDecimal_nat N (by omega))
        go_wp2_with (go_at_call 38; refine (HC.out _).mono ?_; rintro e w' ⟨rfl, hb⟩)
        · have hne : (!dec ↑N == s.toList) = true := by assumption
          have hno : ¬ DecOk s.data.toList := by
            intro h
            have h1 := (dec_num _ h.1).2 h.2.2
            rw [← HN.out] at h1
            have h2 := same_dec.2 h1
            rw [hne] at h2
            cases h2
          go_ret2
          exact ⟨Or.inr ⟨hno, rfl⟩, hb⟩
        · have hne : (!dec ↑N == s.toList) = false := by assumption
          have hyes : DecOk s.data.toList := by
            have h1 := same_dec.1 hne
            have h2 := HN.out
            rw [h2] at h1
            exact ⟨HD3.out, by omega, (dec_num _ HD3.out).1 h1⟩
          go_ret2
          exact ⟨Or.inl ⟨hyes, ret_num HN.out⟩, hb⟩

theorem specReadDecimal_long (s : ByteArray) (hs : 10 < s.size) (w : World) :
    Calls Tryz.prog 37 #[.string s] w fun e w' => e = .returned (.tuple #[.int .i64 0, .bool false]) ∧ Below w.heap.size w w' := by
  go_enter Tryz.func37, Tryz.ntmps37
  go_wp2
  go_ret2
  exact ⟨rfl, Below.refl _ _⟩
end Go.Proofs.YtbifkpkhpaellaaGreatDoor

namespace Go.Proofs.YtbifkpkhpaellaaGreatDoor
open Go.RowKit

/-- what spec.ReadDecimal answers at every text -/
theorem rdecS_all (s : ByteArray) (w : World) :
    Calls Tryz.prog 37 #[.string s] w fun e w' => (∃ x ok, e = .returned (.tuple #[.int .i64 x, .bool ok]) ∧ (ok = true → DecOk s.data.toList ∧ s.data.toList.length ≤ 10 ∧ x = num s.data.toList) ∧ (ok = false → ¬ (DecOk s.data.toList ∧ s.data.toList.length ≤ 10))) ∧ Below w.heap.size w w' := by
  have hl : s.data.toList.length = s.size := Array.length_toList
  by_cases h : s.size ≤ 10
  · refine (specReadDecimal_any s h w).mono ?_
    rintro e w' ⟨(⟨hd, he⟩ | ⟨hd, he⟩), hb⟩
    · exact ⟨⟨_, true, he, fun _ => ⟨hd, by omega, rfl⟩, fun q => by cases q⟩, hb⟩
    · exact ⟨⟨_, false, he, fun q => (by cases q), fun _ q => hd q.1⟩, hb⟩
  · refine (specReadDecimal_long s (by omega) w).mono ?_
    rintro e w' ⟨he, hb⟩
    exact ⟨⟨_, false, he, fun q => (by cases q), fun _ q => by omega⟩, hb⟩

/-- the name of a number that was read of a name -/
theorem jname_back {s : ByteArray} {r : List UInt8} (hs : s.data.toList = s.data.toList.take 1 ++ r) (hsz : 2 ≤ s.size) (hd : DecOk r) :
    (jname (num r : Int) = s ↔ nameNum 106 999 s = some (num r)) ∧ (¬ jname (num r : Int) = s → nameNum 106 999 s = none) := by
  have hdec : dec (num r : Int) = r := (dec_num r hd.1).2 ⟨hd.2.2.1, hd.2.2.2⟩
  have key : jname (num r : Int) = s ↔ nameNum 106 999 s = some (num r) := by
    rw [nameNum_some (by omega)]
    constructor
    · intro e
      cases hq : within (num r : Int) 0 999 with
      | false =>
        rw [jname_no hq] at e
        rw [← e] at hsz
        exact absurd hsz (by decide)
      | true =>
        have := within_iff.1 hq
        rw [jname_yes hq] at e
        refine ⟨by omega, ?_⟩
        rw [← e]
        simp [ByteArray.data_append]
    · rintro ⟨h1, h2⟩
      rw [jname_yes (within_iff.2 ⟨by omega, by omega⟩)]
      apply ByteArray.ext
      apply Array.toList_inj.1
      rw [h2]
      simp [ByteArray.data_append]
  refine ⟨key, fun hn => ?_⟩
  cases hq : nameNum 106 999 s with
  | none => rfl
  | some n =>
    have h2 := (nameNum_some (by omega)).1 hq
    have e : r = dec (n : Int) := by
      have h3 := hs
      rw [h2.2] at h3
      simpa using h3.symm
    have hn2 : num r = n := by rw [e]; exact (dec_back n (by omega)).2.1
    rw [← hn2] at hq
    exact absurd (key.2 hq) hn

set_option maxRecDepth 1000000 in
set_option maxHeartbeats 1000000 in
theorem l07Number_any (s : ByteArray) (hsl : s.size ≤ 1048576) (w : World) : Calls Tryz.prog 18 #[.string s] w fun e w' => e = .returned (.int .i64 (nameAns (nameNum 106 999 s))) ∧ Below w.heap.size w w' := by
  by_cases h2 : (s.size : Int) < 2
  · have HN := hid (nameNum_short (c := 106) (lim := 999) (name := s) (by omega) (by omega))
    go_enter Tryz.func18, Tryz.ntmps18
    go_wp2
    go_ret
    exact ⟨by rw [HN.out]; rfl, Below.refl _ _⟩
  · have hs := slice_from (P := Tryz.prog) Tryz.underlying9 s 1 1 rfl (by omega)
    have hT := tail_list s 1
    have hcat : s.data.toList = s.data.toList.take 1 ++ s.data.toList.drop 1 := (List.take_append_drop 1 _).symm
    have hfst : ∃ c, s.data.toList = c :: s.data.toList.drop 1 := by
      have hz : s.data.toList.length = s.size := Array.length_toList
      match hq : s.data.toList with
      | [] => rw [hq] at hz; simp at hz; omega
      | x :: r => exact ⟨x, rfl⟩
    obtain ⟨T, hTe⟩ : ∃ T, s.extract 1 s.size = T := ⟨_, rfl⟩
    rw [hTe] at hs hT
    rw [← hT] at hcat hfst
    have HC := hid hcat
    have HF := hid hfst
    clear hTe hT hcat hfst
    go_enter Tryz.func18, Tryz.ntmps18
    go_wp2_with fail
    refine (rdecS_all T _).mono ?_
    rintro e w1 ⟨⟨x, ok, rfl, h1, h3⟩, b1⟩
    have B1 := hid b1
    clear b1
    cases ok with
    | false =>
      have HN : Hid (nameNum 106 999 s = none) := by
        obtain ⟨c, hc⟩ := HF.out
        by_cases h106 : c = 106
        · subst h106
          exact nameNum_figs (by omega) hc (fun q => h3 rfl ⟨q.1, q.2.2⟩)
        · exact nameNum_head (by omega) (by rw [hc]; simpa using h106)
      clear h1 h3 HC HF
      go_wp2
      go_ret
      exact ⟨by rw [HN.out]; rfl, B1.out⟩
    | true =>
      obtain ⟨d1, d2, d3⟩ := h1 rfl
      clear h1 h3
      have hb := jname_back HC.out (by omega) d1
      have hnum : (num T.data.toList : Int) ≤ 1000000000 := by have := d1.2.1; omega
      have HD := hid d3
      subst d3
      obtain ⟨n, hn⟩ : ∃ n, num T.data.toList = n := ⟨_, rfl⟩
      rw [hn] at hb hnum ⊢
      have HB := hid hb
      clear hb d1 d2 HC HF hn HD
      go_wp2_with fail
      refine (specJName_any (n : Int) _).mono ?_
      rintro e w2 ⟨rfl, b2⟩
      have B2 := hid (below_via B1.out b2)
      clear b2 B1
      by_cases hsame : jname (n : Int) = s
      · have HN := hid (HB.out.1.1 hsame)
        rw [hsame]
        have hss : (s.toList == s.toList) = true := by simp
        clear HB hsame
        go_wp2
        go_ret
        exact ⟨by rw [HN.out]; rfl, B2.out⟩
      · have HN := hid (HB.out.2 hsame)
        obtain ⟨Z, hZ⟩ : ∃ Z, jname (n : Int) = Z := ⟨_, rfl⟩
        rw [hZ] at hsame ⊢
        have hss : (Z.toList == s.toList) = false := by
          simp only [beq_eq_false_iff_ne, ne_eq]
          intro h
          refine hsame ?_
          rw [ByteArray.toList_eq, ByteArray.toList_eq] at h
          apply ByteArray.ext
          exact Array.toList_inj.1 h
        clear HB hsame hZ
        go_wp2
        go_ret
        exact ⟨by rw [HN.out]; rfl, B2.out⟩
end Go.Proofs.YtbifkpkhpaellaaGreatDoor
