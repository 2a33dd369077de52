/-
  The walk of spec.l06Next: a right log that may come of another one.
-/
import Derived.Test.YtjkgjnpifdafaaaJoint29
import Derived.Test.YtjkgjnpifdafaaaJoint30
import Derived.Test.YtjkgjnpifdafaaaJoint35
import Derived.Test.YtjkgjnpifdafaaaJoint32
import Derived.Test.YtjkgjnpifdafaaaJoint1
namespace Go.Proofs.Ytjkgjnpifdafaaa
open Go.RowKit

theorem row_entries {w : World} {base c : Nat} {va : Option Addr} {L : List EntD} (h : w.ownsRow base 35 3 (.slice va L.length c) L.length (entCells L)) : EntsAt w va L := by
  obtain ⟨va', vc', e, _, ho⟩ := own_of_row h
  cases e
  exact ho.ents
theorem row_capacity {w : World} {base c : Nat} {va : Option Addr} {L : List EntD} (h : w.ownsRow base 35 3 (.slice va L.length c) L.length (entCells L)) : L.length ≤ c := by
  obtain ⟨va', vc', e, hc, _⟩ := own_of_row h
  cases e
  exact hc

theorem own_row {w : World} {base c : Nat} {va : Option Addr} {L : List EntD} (h : w.ownsRow base 35 3 (.slice va L.length c) L.length (entCells L)) : OwnAt w 35 (entCells L) L.length va base w.heap.size := by
  obtain ⟨va', vc', e, _, ho⟩ := own_of_row h
  cases e
  exact ho
theorem lastT_up {t : Int} {l : List EntD} (h : termsOk t l = true) : t ≤ lastT t l := by
  induction l generalizing t with
  | nil => exact Int.le_refl _
  | cons e l ih =>
    rw [termsOk, Bool.and_eq_true, Bool.and_eq_true, decide_eq_true_eq] at h
    exact Int.le_trans h.1.2 (ih h.2)
theorem terms_take {t : Int} {l : List EntD} (h : termsOk t l = true) (k : Nat) : termsOk t (l.take k) = true ∧ lastT t (l.take k) ≤ lastT t l := by
  rw [← List.take_append_drop k l, termsOk_append, Bool.and_eq_true] at h
  refine ⟨h.1, ?_⟩
  have := lastT_up h.2
  rwa [lastT_drop] at this

set_option maxRecDepth 1000000 in
set_option maxHeartbeats 8000000 in
theorem l06Next_any (C base : Nat) (s t : Int) (va : Option Addr) (vc : Nat) (L : List EntD) (hl : L.length ≤ 7) (hok : logOk s t L = true) (hsm : s ≤ 6 ∧ lastT t L ≤ 16) (hT : ∀ d ∈ L, d.Tame) (w : World) (hc : CurAt w C) (ho : w.ownsRow base 35 3 (.slice va L.length vc) L.length (entCells L)) (hCb : C < base) :
    Calls Try.prog 59 #[.pointer (some ⟨C, 0, none⟩), .agg #[.int .i64 s, .int .i64 t, .slice va L.length vc]] w fun e w' => ∃ (s' t' : Int) (va' : Option Addr) (vc' : Nat) (M : List EntD), e = .returned (.agg #[.int .i64 s', .int .i64 t', .slice va' M.length vc']) ∧ M.length ≤ 10 ∧ M.length ≤ vc' ∧ logOk s' t' M = true ∧ (∀ d ∈ M, d.Tame) ∧ OwnAt w' 35 (entCells M) M.length va' w.heap.size w'.heap.size ∧ CurAt w' C ∧ w.grownBy w' (some C) := by
  have hCl := hc.lt
  have hx0 : BlockIs (w.alloc (.cells #[.int .i64 s, .int .i64 t, .slice va L.length vc] 31)) w.heap.size 31 [.int .i64 s, .int .i64 t, .slice va L.length vc] := heap_alloc_new w _
  have hx2 : BlockIs ((w.alloc (.cells #[.int .i64 s, .int .i64 t, .slice va L.length vc] 31)).alloc (.cells #[.int .i64 0, .int .i64 0, .slice none 0 0] 31)) (w.heap.size + 1) 31 [.int .i64 0, .int .i64 0, .slice none 0 0] := by
    have := heap_alloc_new (w.alloc (.cells #[.int .i64 s, .int .i64 t, .slice va L.length vc] 31)) (.cells #[.int .i64 0, .int .i64 0, .slice none 0 0] 31)
    rw [show (w.alloc (.cells #[.int .i64 s, .int .i64 t, .slice va L.length vc] 31)).heap.size = w.heap.size + 1 by simp [World.alloc, -World.alloc_eq]] at this
    exact this
  have hx1 := hx0.on (below_more (Below.refl _ _) (.cells #[.int .i64 0, .int .i64 0, .slice none 0 0] 31)) hx0.lt
  have be := below_more (below_more (Below.refl w.heap.size w) (.cells #[.int .i64 s, .int .i64 t, .slice va L.length vc] 31)) (.cells #[.int .i64 0, .int .i64 0, .slice none 0 0] 31)
  obtain ⟨W0, hW0⟩ : ∃ W, (w.alloc (.cells #[.int .i64 s, .int .i64 t, .slice va L.length vc] 31)).alloc (.cells #[.int .i64 0, .int .i64 0, .slice none 0 0] 31) = W := ⟨_, rfl⟩
  rw [hW0] at be hx1 hx2
  have XP := hid hx1
  have XR := hid hx2
  have KC := hid (hc.below be)
  have GC := hid (grown_below (World.grownBy.refl w (some C)) be)
  have HP := hid (row_below ho be)
  have Nr : Hid (C < w.heap.size + 1) := (show _ < _ by omega)
  have HW0 : Hid (w.heap.size + 1 < W0.heap.size) := hx2.lt
  have HT := hid hT
  have HCB := hid hCb
  have hbd := logOk_iff.1 hok
  clear hx0 hx1 hx2 be hc ho hT hCb
  have zXP0_1 := XP.out.cell (j := 0) rfl
  have yXP0_1 := XP.out.thaw 0
  have zXP1_1 := XP.out.cell (j := 1) rfl
  have yXP1_1 := XP.out.thaw 1
  have zXP2_1 := XP.out.cell (j := 2) rfl
  have yXP2_1 := XP.out.thaw 2
  have zXR0_1 := XR.out.cell (j := 0) rfl
  have yXR0_1 := XR.out.thaw 0
  have zXR1_1 := XR.out.cell (j := 1) rfl
  have yXR1_1 := XR.out.thaw 1
  have zXR2_1 := XR.out.cell (j := 2) rfl
  have yXR2_1 := XR.out.thaw 2
  have HE := hid (row_entries HP.out)
  go_enter Try.func59, Try.ntmps59
  go_wp2_with fail
  refine Calls.mono (specLogLast_any s t (by omega) va L vc (by omega) _ HE.out) ?_
  rintro e w1 ⟨rfl, b1⟩
  clear HE
  have HS1 := hid b1.size
  obtain ⟨tm, htm⟩ : ∃ tm, lastT t L = tm := ⟨_, rfl⟩
  have HTM := hid htm
  have ht0 : 0 ≤ tm := by rw [← htm]; exact (termsOk_lastT hbd.2.1 hbd.2.2.2.2).1
  rw [htm] at hsm ⊢
  clear htm
  have K2 := hid (KC.out.below b1)
  have G2 := hid (grown_below GC.out b1)
  have YXP := hid (XP.out.on b1 XP.out.lt)
  have YXR := hid (XR.out.on b1 XR.out.lt)
  have YHP := hid (row_below HP.out b1)
  clear b1 KC GC XP XR HP zXP0_1 yXP0_1 zXP1_1 yXP1_1 zXP2_1 yXP2_1 zXR0_1 yXR0_1 zXR1_1 yXR1_1 zXR2_1 yXR2_1
  have KC := K2
  have GC := G2
  have XP := YXP
  have XR := YXR
  have HP := YHP
  clear K2 G2 YXP YXR YHP
  have zXP0_2 := XP.out.cell (j := 0) rfl
  have yXP0_2 := XP.out.thaw 0
  have zXP1_2 := XP.out.cell (j := 1) rfl
  have yXP1_2 := XP.out.thaw 1
  have zXP2_2 := XP.out.cell (j := 2) rfl
  have yXP2_2 := XP.out.thaw 2
  have zXR0_2 := XR.out.cell (j := 0) rfl
  have yXR0_2 := XR.out.thaw 0
  have zXR1_2 := XR.out.cell (j := 1) rfl
  have yXR1_2 := XR.out.thaw 1
  have zXR2_2 := XR.out.cell (j := 2) rfl
  have yXR2_2 := XR.out.thaw 2
  go_wp2_with fail
  refine Calls.mono (l01Once_any C 2 (by omega) (by omega) _ KC.out) ?_
  rintro e w2 ⟨b, rfl, k2, q2⟩
  have HSZ : Hid (W0.heap.size ≤ w2.heap.size) := (show _ ≤ _ by have := HS1.out; have := q2.size; omega)
  clear HS1
  have K2 := hid k2
  have G2 := hid (GC.out.trans q2)
  have YXP := hid (XP.out.cur q2 hCl)
  have YXR := hid (XR.out.cur q2 Nr.out)
  have YHP := hid (row_past HP.out q2 HCB.out)
  clear k2 q2 KC GC XP XR HP zXP0_2 yXP0_2 zXP1_2 yXP1_2 zXP2_2 yXP2_2 zXR0_2 yXR0_2 zXR1_2 yXR1_2 zXR2_2 yXR2_2
  have KC := K2
  have GC := G2
  have XP := YXP
  have XR := YXR
  have HP := YHP
  clear K2 G2 YXP YXR YHP
  cases b with
  | false =>
    have zXP0_3 := XP.out.cell (j := 0) rfl
    have yXP0_3 := XP.out.thaw 0
    have zXP1_3 := XP.out.cell (j := 1) rfl
    have yXP1_3 := XP.out.thaw 1
    have zXP2_3 := XP.out.cell (j := 2) rfl
    have yXP2_3 := XP.out.thaw 2
    have zXR0_3 := XR.out.cell (j := 0) rfl
    have yXR0_3 := XR.out.thaw 0
    have zXR1_3 := XR.out.cell (j := 1) rfl
    have yXR1_3 := XR.out.thaw 1
    have zXR2_3 := XR.out.cell (j := 2) rfl
    have yXR2_3 := XR.out.thaw 2
    go_wp2
    have hsl : L.length ≤ vc := row_capacity HP.out
    have htk : (L.take L.length).length = L.length := by simp
    have HPE := hid (row_entries HP.out)
    have HWA : Hid (W0.heap.size ≤ w2.heap.size) := (show _ ≤ _ by have := HSZ.out; omega)
    clear zXP0_3 yXP0_3 zXP1_3 yXP1_3 zXP2_3 yXP2_3 zXR0_3 yXR0_3 zXR1_3 yXR1_3 zXR2_3 yXR2_3
    refine wp_region_each (N := 78) (by kernel_rfl) (by kernel_rfl) rfl (by kernel_rfl) (fun W => Below w2.heap.size w2 W) (fun j v u W => match j with | 0 => v = .pointer (some ⟨w.heap.size, 0, none⟩) | 1 => v = .int .i64 s | 2 => v = .pointer (some ⟨w.heap.size, 1, none⟩) | 3 => v = .int .i64 t | 4 => ∃ g, v = .slice (some ⟨g, 0, none⟩) 0 0 ∧ w2.heap.size ≤ g ∧ BlockIs W g 35 [] | 5 => v = .pointer (some ⟨w.heap.size, 2, none⟩) | 6 => v = .slice va L.length vc | 7 => v = .int .i64 (L.length : Int) | 8 => v = .slice va L.length vc | 9 => W.ownsRow w2.heap.size 35 3 v L.length (entCells (L.take L.length)) | 10 => ∃ va' vc', v = .agg #[.int .i64 s, .int .i64 t, .slice va' L.length vc'] ∧ W.ownsRow w2.heap.size 35 3 (.slice va' L.length vc') L.length (entCells (L.take L.length)) | 11 => ∃ X, v = .pointer (some ⟨X, 0, none⟩) ∧ w2.heap.size ≤ X ∧ BlockIs W X 31 [.int .i64 0, .int .i64 0, .slice none 0 0] | 12 => ∃ X va' vc', u = .pointer (some ⟨X, 0, none⟩) ∧ w2.heap.size ≤ X ∧ BlockIs W X 31 [.int .i64 s, .int .i64 t, .slice va' L.length vc'] ∧ W.ownsRow w2.heap.size 35 3 (.slice va' L.length vc') L.length (entCells (L.take L.length)) | _ => True) (fun i => if i = 12 then 11 else i) (fun j i => decide ((j, i) ∈ ([(4, 9), (11, 12)] : List (Nat × Nat)))) (fun i x y => ∀ g ty cs, BlockIs x g ty cs → (i = 9 → cs ≠ []) → (i = 12 → ty ≠ 31) → BlockIs y g ty cs) (fun i => if i = 12 then 8 else 0) (by kernel_rfl) (fun i hi => by have : 13 ≤ i := hi; simp; omega) ?_ (below_drewN (Below.refl _ _) 1) ?_ ?_
    · intro i j v u x y hij hdd hwt hxy hg
      match j, hg with
      | 0, hg => exact hg
      | 1, hg => exact hg
      | 2, hg => exact hg
      | 3, hg => exact hg
      | 4, hg =>
        obtain ⟨g, e1, e2, e3⟩ := hg
        simp at hdd
        exact ⟨g, e1, e2, hxy _ _ _ e3 (fun e => absurd e hdd) (fun _ => by decide)⟩
      | 5, hg => exact hg
      | 6, hg => exact hg
      | 7, hg => exact hg
      | 8, hg => exact hg
      | 9, hg =>
        exact row_from hg fun g cs _ h => hxy _ _ _ h (fun e => absurd e hij) (fun _ => by decide)
      | 10, hg =>
        obtain ⟨va', vc', e1, e2⟩ := hg
        have h9 : i ≠ 9 := by rintro rfl; exact Bool.noConfusion (hwt.symm.trans (by kernel_rfl : waitsB _ 10 9 = true))
        exact ⟨va', vc', e1, row_from e2 fun g cs _ h => hxy _ _ _ h (fun e => absurd e h9) (fun _ => by decide)⟩
      | 11, hg =>
        obtain ⟨X, e1, e2, e3⟩ := hg
        simp at hdd
        exact ⟨X, e1, e2, hxy _ _ _ e3 (fun _ => by simp) (fun e => absurd e hdd)⟩
      | 12, hg =>
        obtain ⟨X, va', vc', e1, e2, e3, e4⟩ := hg
        have h9 : i ≠ 9 := by rintro rfl; exact Bool.noConfusion (hwt.symm.trans (by kernel_rfl : waitsB _ 12 9 = true))
        exact ⟨X, va', vc', e1, e2, hxy _ _ _ e3 (fun _ => by simp) (fun e => absurd e hij), row_from e4 fun g cs _ h => hxy _ _ _ h (fun e => absurd e h9) (fun _ => by decide)⟩
      | n + 13, _ => exact trivial
    · refine ⟨?_, ?_, ?_, ?_, ?_, ?_, ?_, ?_, ?_, ?_, ?_, ?_, ?_, trivial⟩
      · intro A W hC hg hb
        have h3 : A.eval (.tmp 3) = .pointer (some ⟨w.heap.size, 0, none⟩) := hb 3 (base_of (by kernel_rfl))
        exact does_value (v := .pointer (some ⟨w.heap.size, 0, none⟩)) (w' := W) (by simp only [execOp, h3]; simp [go_sem]) ⟨rfl, hC, fun _ _ _ h _ _ => h⟩
      · intro A W hC hg hb
        have h24 : A.eval (.tmp 24) = .pointer (some ⟨w.heap.size, 0, none⟩) := hg 0 24 (by decide) rfl (by simp [Op.operands]) (by kernel_rfl) rfl
        have hc := (XP.out.on hC XP.out.lt).cell (j := 0) rfl
        exact does_value (v := .int .i64 s) (w' := W) (by simp only [execOp, h24]; simp [go_sem, hc]) ⟨rfl, hC, fun _ _ _ h _ _ => h⟩
      · intro A W hC hg hb
        have h3 : A.eval (.tmp 3) = .pointer (some ⟨w.heap.size, 0, none⟩) := hb 3 (base_of (by kernel_rfl))
        exact does_value (v := .pointer (some ⟨w.heap.size, 1, none⟩)) (w' := W) (by simp only [execOp, h3]; simp [go_sem]) ⟨rfl, hC, fun _ _ _ h _ _ => h⟩
      · intro A W hC hg hb
        have h26 : A.eval (.tmp 26) = .pointer (some ⟨w.heap.size, 1, none⟩) := hg 2 26 (by decide) rfl (by simp [Op.operands]) (by kernel_rfl) rfl
        have hc := (XP.out.on hC XP.out.lt).cell (j := 1) rfl
        exact does_value (v := .int .i64 t) (w' := W) (by simp only [execOp, h26]; simp [go_sem, hc]) ⟨rfl, hC, fun _ _ _ h _ _ => h⟩
      · intro A W hC hg hb
        exact does_value (v := .slice (some ⟨W.heap.size, 0, none⟩) 0 0) (w' := W.alloc (.cells #[] 35)) (by simp [execOp, go_sem]) ⟨⟨_, rfl, hC.size, heap_alloc_new W _⟩, below_more hC _, fun _ _ _ h _ _ => h.on (below_more (Below.refl _ W) _) h.lt⟩
      · intro A W hC hg hb
        have h3 : A.eval (.tmp 3) = .pointer (some ⟨w.heap.size, 0, none⟩) := hb 3 (base_of (by kernel_rfl))
        exact does_value (v := .pointer (some ⟨w.heap.size, 2, none⟩)) (w' := W) (by simp only [execOp, h3]; simp [go_sem]) ⟨rfl, hC, fun _ _ _ h _ _ => h⟩
      · intro A W hC hg hb
        have h29 : A.eval (.tmp 29) = .pointer (some ⟨w.heap.size, 2, none⟩) := hg 5 29 (by decide) rfl (by simp [Op.operands]) (by kernel_rfl) rfl
        have hc := (XP.out.on hC XP.out.lt).cell (j := 2) rfl
        exact does_value (v := .slice va L.length vc) (w' := W) (by simp only [execOp, h29]; simp [go_sem, hc]) ⟨rfl, hC, fun _ _ _ h _ _ => h⟩
      · intro A W hC hg hb
        have h7 : A.eval (.tmp 7) = .int .i64 (L.length : Int) := hb 7 (base_of (by kernel_rfl))
        exact does_value (v := .int .i64 (L.length : Int)) (w' := W) (by simp only [execOp, h7]; simp [go_sem]) ⟨rfl, hC, fun _ _ _ h _ _ => h⟩
      · intro A W hC hg hb
        have h30 : A.eval (.tmp 30) = .slice va L.length vc := hg 6 30 (by decide) rfl (by simp [Op.operands]) (by kernel_rfl) rfl
        have h31 : A.eval (.tmp 31) = .int .i64 (L.length : Int) := hg 7 31 (by decide) rfl (by simp [Op.operands]) (by kernel_rfl) rfl
        simp [go_sem] at h30 h31
        exact does_value (v := .slice va L.length vc) (w' := W) (by simp [execOp, go_sem, h30, h31]; intro hq; exact absurd hsl (by omega)) ⟨rfl, hC, fun _ _ _ h _ _ => h⟩
      · intro A W hC hg hb
        have g4 := hg 4 28 (by decide) rfl (by simp [Op.operands, Call.operands]) (by kernel_rfl) rfl
        have h32 : A.eval (.tmp 32) = .slice va L.length vc := hg 8 32 (by decide) rfl (by simp [Op.operands, Call.operands]) (by kernel_rfl) rfl
        obtain ⟨g, h28, hlo, hbl⟩ := g4
        obtain ⟨v', W', hr, h2, h3⟩ := append_ents hbl (c := vc) (by rw [List.length_take]; omega) ((HPE.out.on hC).take L.length)
        rw [htk] at hr h2
        refine does_value (v := v') (w' := W') (by simp only [execOp, resolve, invoke, builtin, Sem.run_bind, Sem.run_pure, Result.andThen_ok, List.map_toArray, List.map_cons, List.map_nil, h28, h32, hr]) ⟨row_down h2 hlo, hC.grown h3 hC.size (fun j hj => by cases hj; exact hlo), fun q ty cs hq hne _ => ?_⟩
        have hqg : q ≠ g := by intro e; subst e; exact hne rfl (block_one hq hbl).2
        unfold BlockIs
        rw [h3.block q hq.lt (by simpa using hqg)]
        exact hq
      · intro A W hC hg hb
        have h25 : A.eval (.tmp 25) = .int .i64 s := hg 1 25 (by decide) rfl (by simp [Op.operands]) (by kernel_rfl) rfl
        have h27 : A.eval (.tmp 27) = .int .i64 t := hg 3 27 (by decide) rfl (by simp [Op.operands]) (by kernel_rfl) rfl
        have g9 := hg 9 33 (by decide) rfl (by simp [Op.operands]) (by kernel_rfl) rfl
        have hrow := g9
        obtain ⟨va', vc', h33⟩ := row_shape hrow
        rw [h33] at hrow
        simp [go_sem] at h25 h27 h33
        exact does_value (v := .agg #[.int .i64 s, .int .i64 t, .slice va' L.length vc']) (w' := W) (by simp [execOp, go_sem, h25, h27, h33]) ⟨⟨va', vc', rfl, hrow⟩, hC, fun _ _ _ h _ _ => h⟩
      · intro A W hC hg hb
        exact does_value (v := .pointer (some ⟨W.heap.size, 0, none⟩)) (w' := W.alloc (.cells #[.int .i64 0, .int .i64 0, .slice none 0 0] 31)) (by simp [execOp, go_sem]) ⟨⟨_, rfl, hC.size, heap_alloc_new W _⟩, below_more hC _, fun _ _ _ h _ _ => h.on (below_more (Below.refl _ W) _) h.lt⟩
      · intro A W hC hg hb
        have g11 := hg 11 8 (by decide) rfl (by simp [Op.operands]) (by kernel_rfl) rfl
        have g10 := hg 10 34 (by decide) rfl (by simp [Op.operands]) (by kernel_rfl) rfl
        obtain ⟨X, h8, hlo, hX⟩ := g11
        obtain ⟨va', vc', h34, hrow⟩ := g10
        have c0 := hX.cell (j := 0) rfl
        have c1 := hX.cell (j := 1) rfl
        have c2 := hX.cell (j := 2) rfl
        have f0 := hX.thaw 0
        have f1 := hX.thaw 1
        have f2 := hX.thaw 2
        have far : ∀ q ty cs, BlockIs W q ty cs → ty ≠ 31 → BlockIs (((W.setCell ⟨X, 0, none⟩ (.int .i64 s)).setCell ⟨X, 1, none⟩ (.int .i64 t)).setCell ⟨X, 2, none⟩ (.slice va' L.length vc')) q ty cs := fun q ty cs hq hne => by
          have hqX : X ≠ q := by intro e; subst e; exact hne (block_one hq hX).1
          exact ((hq.far hqX _).far hqX _).far hqX _
        exact does_skip (w' := ((W.setCell ⟨X, 0, none⟩ (.int .i64 s)).setCell ⟨X, 1, none⟩ (.int .i64 t)).setCell ⟨X, 2, none⟩ (.slice va' L.length vc')) (by simp only [execOp, h8, h34]; simp [go_sem, c0, c1, c2, f0, f1, f2]) ⟨⟨X, va', vc', h8, hlo, ((hX.set 0 _).set 1 _).set 2 _, row_from hrow fun g cs _ h => far g _ _ h (by decide)⟩, ((hC.setCell hlo _).setCell hlo _).setCell hlo _, fun q ty cs hq _ hne => far q ty cs hq (hne rfl)⟩
    · intro vs wB hC hg
      obtain ⟨X, va', vc', hu, hXw, hX, hrow⟩ := hg 12 (by decide) (fun k => by simp)
      change vs 11 = _ at hu
      clear hg
      change Exit.then _ _ _ (laidBy _ vs _ 13 _) wB
      simp only [laidBy, if_true, dstAt, List.getElem?_toArray, List.getElem?_cons_succ, List.getElem?_cons_zero, Option.bind_some]
      simp only [Act.put, List.setIfInBounds_toArray, List.set_cons_succ, List.set_cons_zero]
      rw [hu]
      clear hu
      have HXW : Hid (w.heap.size + 2 ≤ X) := (show _ ≤ _ by have := HW0.out; have := HWA.out; omega)
      have Nl : Hid (C < X) := (show _ < _ by have := HXW.out; omega)
      have Ml : Hid (w.heap.size ≤ X) := (show _ ≤ _ by have := HXW.out; omega)
      have Arl : Hid (w.heap.size + 1 < X) := (show _ < _ by have := HXW.out; omega)
      have HTM2 : Hid (termsOk t (L.take L.length) = true ∧ lastT t (L.take L.length) ≤ tm) := (show _ ∧ _ by rw [← HTM.out]; exact terms_take hbd.2.2.2.2 L.length)
      have HTA : Hid (∀ d ∈ L.take L.length, d.Tame) := fun d h => HT.out d (List.mem_of_mem_take h)
      have HLM : Hid ((L.take L.length).length ≤ 7 + 0) := (show _ ≤ _ by rw [htk]; omega)
      obtain ⟨M, hM⟩ : ∃ M, L.take L.length = M := ⟨_, rfl⟩
      rw [hM] at hrow HTM2 HTA HLM htk
      rw [← htk] at hX hrow
      have K2 := hid (KC.out.below hC)
      have G2 := hid (grown_below GC.out hC)
      have R2 := hid (XR.out.on hC XR.out.lt)
      have XB := hid hX
      have HO := hid (row_down hrow (show w.heap.size + 2 ≤ _ by have := HW0.out; have := HWA.out; omega))
      clear KC GC XR XP HP HPE hX hrow hC hM hXw HTM HT hl hok
      have KC := K2
      have GC := G2
      have XR := R2
      clear K2 G2 R2
      have hs6 : 0 ≤ s ∧ s ≤ 6 := ⟨hbd.1.1, hsm.1⟩
      have ht6 := hbd.2.1
      have htm6 := hsm.2
      clear hbd hsm
      go_wp2
      go_loopw [6, 9] (fun tv i wr => ∃ (k : Nat) (tm : Int) (L : List EntD) (va : Option Addr) (vc : Nat), k ≤ 3 ∧ i = .int .i64 k ∧ tv = .int .i64 tm ∧ 0 ≤ tm ∧ tm ≤ 16 + k ∧ Hid (L.length ≤ 7 + k) ∧ Hid (termsOk t L = true ∧ lastT t L ≤ tm) ∧ Hid (∀ d ∈ L, d.Tame) ∧ Hid (CurAt wr C) ∧ Hid (w.grownBy wr (some C)) ∧ Hid (BlockIs wr (w.heap.size + 1) 31 [.int .i64 0, .int .i64 0, .slice none 0 0]) ∧ Hid (BlockIs wr X 31 [.int .i64 s, .int .i64 t, .slice va L.length vc]) ∧ Hid (wr.ownsRow (w.heap.size + 2) 35 3 (.slice va L.length vc) L.length (entCells L))) (fun _ i _ => 4 - (intOf i).toNat)
      case atStart => exact ⟨0, tm, M, va', vc', by omega, rfl, rfl, by omega, by omega, HLM, HTM2, HTA, KC, GC, XR, XB, HO⟩
      case round =>
        clear KC GC XR XB HO HLM HTM2 HTA ht0 htm6 hsl htk
        obtain ⟨k, tm, L, va, vc, hk, rfl, rfl, ht0, ht1, HLk, HTO, HT, KC, GC, XR, XB, HO⟩ := hrel
        go_wp2_with fail
        refine Calls.mono (l01Below_any C 4 (by omega) (by omega) _ KC.out) ?_
        rintro e w4 ⟨y, rfl, y0, y1, k4, q4⟩
        have K2 := hid k4
        have G2 := hid (GC.out.trans q4)
        have R2 := hid (XR.out.cur q4 Nr.out)
        have B2 := hid (XB.out.cur q4 Nl.out)
        have H2 := hid (row_past HO.out q4 (by have := Nr.out; omega))
        clear k4 q4 KC GC XR XB HO
        have KC := K2
        have GC := G2
        have XR := R2
        have XB := B2
        have HO := H2
        clear K2 G2 R2 B2 H2
        by_cases hlt : (k : Int) < y
        · go_wp2
          refine wp_region_from (N := 78) (by kernel_rfl) (by kernel_rfl) rfl (by kernel_rfl) (fun W => CurAt W C ∧ w.grownBy W (some C) ∧ BlockIs W (w.heap.size + 1) 31 [.int .i64 0, .int .i64 0, .slice none 0 0]) (fun j v u W => match j with | 0 => v = .pointer (some ⟨X, 2, none⟩) | 1 => v = .slice va L.length vc | 2 => v = .pointer (some ⟨C, 0, none⟩) | 3 => v = .int .i64 tm | 4 => v = .pointer (some ⟨C, 0, none⟩) | 5 => ∃ z : Int, v = .int .i64 z ∧ 0 ≤ z ∧ z < 2 | 6 => ∃ z : Int, v = .int .i64 (tm + z) ∧ 0 ≤ z ∧ z < 2 | 7 => ∃ d : EntD, v = .agg #[.int .i64 d.term, .int .i64 d.kind, .string d.data] ∧ (∃ z : Int, 0 ≤ z ∧ z < 2 ∧ d.Short (tm + z)) | 8 => ∃ (g : Nat) (d : EntD), v = .slice (some ⟨g, 0, none⟩) 1 1 ∧ (∃ z : Int, 0 ≤ z ∧ z < 2 ∧ d.Short (tm + z)) ∧ w.heap.size + 2 ≤ g ∧ BlockIs W g 35 (entEnc d) | 9 => ∃ (va' : Option Addr) (vc' : Nat) (d : EntD), v = .slice va' (L.length + 1) vc' ∧ (∃ z : Int, 0 ≤ z ∧ z < 2 ∧ d.Short (tm + z)) ∧ W.ownsRow (w.heap.size + 2) 35 3 (.slice va' (L.length + 1) vc') (L.length + 1) (entCells (L ++ [d])) | 10 => v = .pointer (some ⟨X, 2, none⟩) | 11 => ∃ (va' : Option Addr) (vc' : Nat) (d : EntD), u = .slice va' (L.length + 1) vc' ∧ (∃ z : Int, 0 ≤ z ∧ z < 2 ∧ d.Short (tm + z)) ∧ W.ownsRow (w.heap.size + 2) 35 3 (.slice va' (L.length + 1) vc') (L.length + 1) (entCells (L ++ [d])) ∧ BlockIs W (X) 31 [.int .i64 s, .int .i64 t, .slice va' (L.length + 1) vc'] | _ => True) (fun i => if i = 11 then 9 else i) (fun j i => decide ((j, i) ∈ ([(8, 9)] : List (Nat × Nat)))) (fun i x y => x.heap.size ≤ y.heap.size ∧ ∀ g ty cs, BlockIs x g ty cs → w.heap.size + 2 ≤ g → (i = 9 → ty ≠ 35) → (i = 11 → ty ≠ 31) → BlockIs y g ty cs) (fun m W => match m with | 0 => W.ownsRow (w.heap.size + 2) 35 3 (.slice va L.length vc) L.length (entCells L) | 1 => BlockIs W (X) 31 [.int .i64 s, .int .i64 t, .slice va L.length vc] | _ => True) (fun m k => decide ((m, k) ∈ ([(0, 9), (1, 11)] : List (Nat × Nat)))) ?_ (fun i => if i = 11 then 50 else 0) (by kernel_rfl) (fun i hi => by have : 12 ≤ i := hi; simp; omega) ?_ ⟨KC.out.below (below_drewN (Below.refl _ _) 1), grown_below GC.out (below_drewN (Below.refl _ _) 1), XR.out.on (below_drewN (Below.refl _ _) 1) XR.out.lt⟩ (fun m => match m with | 0 => row_below HO.out (below_drewN (Below.refl _ _) 1) | 1 => XB.out.on (below_drewN (Below.refl _ _) 1) XB.out.lt | _ + 2 => trivial) ?_ ?_
          · intro i m x y hen hxy hm
            match m, hen, hm with
            | 0, hen, hm =>
              simp at hen
              exact row_from hm fun g cs hg h => hxy.2 _ _ _ h (by have o1 := Nl.out; have o2 := HXW.out; have o3 := Nr.out; omega) (fun e => absurd e hen) (fun _ => by decide)
            | 1, hen, hm =>
              simp at hen
              exact hxy.2 _ _ _ hm (by have o1 := Nl.out; have o2 := HXW.out; have o3 := Nr.out; omega) (fun _ => by decide) (fun e => absurd e hen)
            | n + 2, _, _ => exact trivial
          · intro i j v u x y hij hdd hwt hxy hg
            match j, hg with
            | 0, hg => exact hg
            | 1, hg => exact hg
            | 2, hg => exact hg
            | 3, hg => exact hg
            | 4, hg => exact hg
            | 5, hg => exact hg
            | 6, hg => exact hg
            | 7, hg => exact hg
            | 8, hg =>
              obtain ⟨g, d, e1, hd, hlt, e2⟩ := hg
              simp at hdd
              exact ⟨g, d, e1, hd, hlt, hxy.2 _ _ _ e2 hlt (fun e => absurd e hdd) (fun _ => by decide)⟩
            | 9, hg =>
              obtain ⟨va', vc', d, e1, hd, e2⟩ := hg
              exact ⟨va', vc', d, e1, hd, row_from e2 fun g cs hg h => hxy.2 _ _ _ h (by have o1 := Nl.out; have o2 := HXW.out; have o3 := Nr.out; omega) (fun e => absurd e hij) (fun _ => by decide)⟩
            | 10, hg => exact hg
            | 11, hg =>
              obtain ⟨va', vc', d, e1, hd, e2, e3⟩ := hg
              have h6 : i ≠ 9 := by rintro rfl; exact Bool.noConfusion (hwt.symm.trans (by kernel_rfl : waitsB _ 11 9 = true))
              exact ⟨va', vc', d, e1, hd, row_from e2 fun g cs hg h => hxy.2 _ _ _ h (by have o1 := Nl.out; have o2 := HXW.out; have o3 := Nr.out; omega) (fun e => absurd e h6) (fun _ => by decide), hxy.2 _ _ _ e3 (by have o1 := Nl.out; have o2 := HXW.out; have o3 := Nr.out; omega) (fun _ => by decide) (fun e => absurd e hij)⟩
            | n + 12, _ => exact trivial
          · refine ⟨?_, ?_, ?_, ?_, ?_, ?_, ?_, ?_, ?_, ?_, ?_, ?_, trivial⟩
            · intro A W hC hI hg hb
              have h8 : A.eval (.tmp 8) = .pointer (some ⟨X, 0, none⟩) := hb 8 (base_of (by kernel_rfl))
              exact does_value (v := .pointer (some ⟨X, 2, none⟩)) (w' := W) (by simp only [execOp, h8]; simp [go_sem]) ⟨rfl, hC, Nat.le_refl _, fun _ _ _ h _ _ _ => h⟩
            · intro A W hC hI hg hb
              have h41 : A.eval (.tmp 41) = .pointer (some ⟨X, 2, none⟩) := hg 0 41 (by decide) rfl (by simp [Op.operands]) (by kernel_rfl) rfl
              have hb1 : BlockIs W (X) 31 [.int .i64 s, .int .i64 t, .slice va L.length vc] := hI 1 (by kernel_rfl)
              have hc := hb1.cell (j := 2) rfl
              exact does_value (v := .slice va L.length vc) (w' := W) (by simp only [execOp, h41]; simp [go_sem, hc]) ⟨rfl, hC, Nat.le_refl _, fun _ _ _ h _ _ _ => h⟩
            · intro A W hC hI hg hb
              have h0 : A.eval (.tmp 0) = .pointer (some ⟨C, 0, none⟩) := hb 0 (base_of (by kernel_rfl))
              exact does_value (v := .pointer (some ⟨C, 0, none⟩)) (w' := W) (by simp only [execOp, h0]; simp [go_sem]) ⟨rfl, hC, Nat.le_refl _, fun _ _ _ h _ _ _ => h⟩
            · intro A W hC hI hg hb
              have h6 : A.eval (.tmp 6) = .int .i64 tm := hb 6 (base_of (by kernel_rfl))
              exact does_value (v := .int .i64 tm) (w' := W) (by simp only [execOp, h6]; simp [go_sem]) ⟨rfl, hC, Nat.le_refl _, fun _ _ _ h _ _ _ => h⟩
            · intro A W hC hI hg hb
              have h0 : A.eval (.tmp 0) = .pointer (some ⟨C, 0, none⟩) := hb 0 (base_of (by kernel_rfl))
              exact does_value (v := .pointer (some ⟨C, 0, none⟩)) (w' := W) (by simp only [execOp, h0]; simp [go_sem]) ⟨rfl, hC, Nat.le_refl _, fun _ _ _ h _ _ _ => h⟩
            · intro A W hC hI hg hb
              have h45 : A.eval (.tmp 45) = .pointer (some ⟨C, 0, none⟩) := hg 4 45 (by decide) rfl (by simp [Op.operands, Call.operands]) (by kernel_rfl) rfl
              simp [go_sem] at h45
              refine does_enter (f := 53) (args := #[.pointer (some ⟨C, 0, none⟩), .int .i64 2]) (w' := W) (by simp [go_sem, h45]) ?_
              obtain ⟨hk, hgr, hr⟩ := hC
              refine (l01Below_any C 2 (by omega) (by omega) W hk).mono ?_
              rintro e W' ⟨z, rfl, z0, z1, k', q'⟩
              exact ⟨_, rfl, ⟨z, rfl, z0, z1⟩, ⟨k', hgr.trans q', hr.cur q' Nr.out⟩, q'.size, fun g ty cs h hg _ _ => h.cur q' (by have o1 := Nl.out; have o2 := HXW.out; have o3 := Nr.out; omega)⟩
            · intro A W hC hI hg hb
              have h44 : A.eval (.tmp 44) = .int .i64 tm := hg 3 44 (by decide) rfl (by simp [Op.operands]) (by kernel_rfl) rfl
              have g5 := hg 5 46 (by decide) rfl (by simp [Op.operands]) (by kernel_rfl) rfl
              obtain ⟨z, h46, z0, z1⟩ := g5
              simp [go_sem] at h44 h46
              have hw : IntKind.i64.wrap (tm + z) = tm + z := by rw [IntKind.wrap_i64]; omega
              exact does_value (v := .int .i64 (tm + z)) (w' := W) (by simp [execOp, go_sem, h44, h46, hw]) ⟨⟨z, rfl, z0, z1⟩, hC, Nat.le_refl _, fun _ _ _ h _ _ _ => h⟩
            · intro A W hC hI hg hb
              have h43 : A.eval (.tmp 43) = .pointer (some ⟨C, 0, none⟩) := hg 2 43 (by decide) rfl (by simp [Op.operands, Call.operands]) (by kernel_rfl) rfl
              have g6 := hg 6 47 (by decide) rfl (by simp [Op.operands, Call.operands]) (by kernel_rfl) rfl
              obtain ⟨z, h47, z0, z1⟩ := g6
              simp [go_sem] at h43 h47
              refine does_enter (f := 52) (args := #[.pointer (some ⟨C, 0, none⟩), .int .i64 (tm + z)]) (w' := W) (by simp [go_sem, h43, h47]) ?_
              obtain ⟨hk, hgr, hr⟩ := hC
              refine (l05Right_any C (tm + z) W hk).mono ?_
              rintro e W' ⟨d, rfl, hd, k', q'⟩
              exact ⟨_, rfl, ⟨d, rfl, z, z0, z1, hd⟩, ⟨k', hgr.trans q', hr.cur q' Nr.out⟩, q'.size, fun g ty cs h hg _ _ => h.cur q' (by have o1 := Nl.out; have o2 := HXW.out; have o3 := Nr.out; omega)⟩
            · intro A W hC hI hg hb
              have g7 := hg 7 48 (by decide) rfl (by simp [Op.operands]) (by kernel_rfl) rfl
              obtain ⟨d, h48, hd⟩ := g7
              simp [go_sem] at h48
              have hb1 : BlockIs W (X) 31 [.int .i64 s, .int .i64 t, .slice va L.length vc] := hI 1 (by kernel_rfl)
              have ba := below_more (Below.refl W.heap.size W) (.cells #[.int .i64 d.term, .int .i64 d.kind, .string d.data] 35)
              exact does_value (v := .slice (some ⟨W.heap.size, 0, none⟩) 1 1) (w' := W.alloc (.cells #[.int .i64 d.term, .int .i64 d.kind, .string d.data] 35)) (by simp [execOp, go_sem, h48]) ⟨⟨_, d, rfl, hd, by have := hb1.lt; have o1 := Nl.out; have o2 := HXW.out; have o3 := Nr.out; omega, heap_alloc_new W _⟩, ⟨hC.1.below ba, grown_below hC.2.1 ba, hC.2.2.on ba hC.2.2.lt⟩, ba.size, fun g ty cs h _ _ _ => h.on ba h.lt⟩
            · intro A W hC hI hg hb
              have h42 : A.eval (.tmp 42) = .slice va L.length vc := hg 1 42 (by decide) rfl (by simp [Op.operands, Call.operands]) (by kernel_rfl) rfl
              have g8 := hg 8 49 (by decide) rfl (by simp [Op.operands, Call.operands]) (by kernel_rfl) rfl
              obtain ⟨g, d, h49, hd, hlt, hbl⟩ := g8
              have hb1 : BlockIs W (X) 31 [.int .i64 s, .int .i64 t, .slice va L.length vc] := hI 1 (by kernel_rfl)
              have hrow : W.ownsRow (w.heap.size + 2) 35 3 (.slice va L.length vc) L.length (entCells L) := hI 0 (by kernel_rfl)
              obtain ⟨v', W', hr, h2, h3⟩ := append_one (by have := HLk.out; omega) (by have := hb1.lt; have o1 := Nl.out; have o2 := HXW.out; have o3 := Nr.out; omega) hrow hbl
              obtain ⟨va', vc', rfl⟩ := row_shape h2
              rw [← entCells_snoc] at h2
              have hown : ∀ j, (Value.slice va L.length vc).ownBlock = some j → w.heap.size + 2 ≤ j := fun j hj => (row_block hrow hj).elim fun _ h => h.2
              refine does_value (v := .slice va' (L.length + 1) vc') (w' := W') (by simp only [execOp, resolve, invoke, builtin, Sem.run_bind, Sem.run_pure, Result.andThen_ok, List.map_toArray, List.map_cons, List.map_nil, h42, h49, hr]) ⟨⟨va', vc', d, rfl, hd, h2⟩, ⟨hC.1.kept h3 (fun j hj => by have := hown j hj; have o1 := Nl.out; have o2 := HXW.out; have o3 := Nr.out; omega), grown_row hC.2.1 h3 (fun j hj => by have := hown j hj; have o1 := Nl.out; have o2 := HXW.out; have o3 := Nr.out; omega), ?_⟩, h3.size, fun p ty cs hp _ hne _ => ?_⟩
              · unfold BlockIs
                rw [h3.block _ hC.2.2.lt (fun e => by have := hown _ e.symm; have o1 := Nl.out; have o2 := HXW.out; have o3 := Nr.out; omega)]
                exact hC.2.2
              · have hpg : some p ≠ (Value.slice va L.length vc).ownBlock := by
                  intro e
                  obtain ⟨cs', hb', _⟩ := row_block hrow e.symm
                  exact hne rfl (block_one hp hb').1
                unfold BlockIs
                rw [h3.block p hp.lt hpg]
                exact hp
            · intro A W hC hI hg hb
              have h8 : A.eval (.tmp 8) = .pointer (some ⟨X, 0, none⟩) := hb 8 (base_of (by kernel_rfl))
              exact does_value (v := .pointer (some ⟨X, 2, none⟩)) (w' := W) (by simp only [execOp, h8]; simp [go_sem]) ⟨rfl, hC, Nat.le_refl _, fun _ _ _ h _ _ _ => h⟩
            · intro A W hC hI hg hb
              have h51 : A.eval (.tmp 51) = .pointer (some ⟨X, 2, none⟩) := hg 10 51 (by decide) rfl (by simp [Op.operands]) (by kernel_rfl) rfl
              have g9 := hg 9 50 (by decide) rfl (by simp [Op.operands]) (by kernel_rfl) rfl
              obtain ⟨va', vc', d, h50, hd, hrow⟩ := g9
              have hb1 : BlockIs W (X) 31 [.int .i64 s, .int .i64 t, .slice va L.length vc] := hI 1 (by kernel_rfl)
              have c2 := hb1.cell (j := 2) rfl
              have f2 := hb1.thaw 2
              have far : ∀ p ty cs, BlockIs W p ty cs → ty ≠ 31 → BlockIs (W.setCell ⟨X, 2, none⟩ (.slice va' (L.length + 1) vc')) p ty cs := fun p ty cs hp hne => hp.far (by intro e; subst e; exact hne (block_one hp hb1).1) _
              exact does_skip (w' := W.setCell ⟨X, 2, none⟩ (.slice va' (L.length + 1) vc')) (by simp only [execOp, h51, h50]; simp [go_sem, c2, f2]) ⟨⟨va', vc', d, h50, hd, row_from hrow fun g cs _ h => far g _ _ h (by decide), hb1.set 2 _⟩, ⟨hC.1.set Nl.out, grown_far hC.2.1 Ml.out, hC.2.2.far (by have o1 := Nl.out; have o2 := HXW.out; have o3 := Nr.out; omega) _⟩, by simp [World.size_setCell], fun p ty cs hp _ _ hne => far p ty cs hp (hne rfl)⟩
          · intro vs wE hC hI hg
            obtain ⟨va', vc', d, hu, hd, ho, hb⟩ := hg 11 (by decide) (fun k => by simp)
            change vs 9 = _ at hu
            clear hg hI
            obtain ⟨hk, hgr, hr⟩ := hC
            change Exit.then _ _ _ (laidBy _ vs _ 12 _) wE
            simp only [laidBy, if_true, dstAt, List.getElem?_toArray, List.getElem?_cons_succ, List.getElem?_cons_zero, Option.bind_some]
            simp only [Act.put, List.setIfInBounds_toArray, List.set_cons_succ, List.set_cons_zero]
            clear hu KC GC XR XB HO
            have KC := hid hk
            have GC := hid hgr
            have XR := hid hr
            have XB := hid hb
            have HO := hid ho
            clear hk hgr hr hb ho
            obtain ⟨z, z0, z1, hd⟩ := hd
            have HT2 : Hid (∀ f ∈ L ++ [d], f.Tame) := fun f hf => (List.mem_append.1 hf).elim (HT.out f) fun q => by
              rw [List.mem_singleton.1 q]
              obtain ⟨p1, p2, p3, p4, _⟩ := hd
              exact ⟨by omega, by omega, by omega⟩
            have HTN : Hid (termsOk t (L ++ [d]) = true ∧ lastT t (L ++ [d]) ≤ tm + z) := terms_more HTO.out.1 (Int.le_trans HTO.out.2 (by omega)) hd (within_iff.2 (by omega))
            have HL : (L ++ [d]).length = L.length + 1 := by simp
            rw [← HL] at XB HO
            obtain ⟨M, hM⟩ : ∃ M, L ++ [d] = M := ⟨_, rfl⟩
            rw [hM] at XB HO HT2 HL HTN
            have HLM : Hid (M.length ≤ 7 + (k + 1)) := (show _ ≤ _ by have := HLk.out; omega)
            clear hM HL HLk HTO hd
            have zb0 := XB.out.cell (j := 0) rfl
            have zb1 := XB.out.cell (j := 1) rfl
            have zb2 := XB.out.cell (j := 2) rfl
            have HE := hid (row_entries HO.out)
            go_wp2_with fail
            refine Calls.mono (specLogLast_any s t (by omega) va' M vc' (by have := HLM.out; omega) _ HE.out) ?_
            rintro e w6 ⟨rfl, b6⟩
            clear HE zb0 zb1 zb2
            have K2 := hid (KC.out.below b6)
            have G2 := hid (grown_below GC.out b6)
            have R2 := hid (XR.out.on b6 XR.out.lt)
            have B2 := hid (XB.out.on b6 XB.out.lt)
            have H2 := hid (row_below HO.out b6)
            clear b6 KC GC XR XB HO
            have KC := K2
            have GC := G2
            have XR := R2
            have XB := B2
            have HO := H2
            clear K2 G2 R2 B2 H2
            have hq0 := termsOk_lastT ht6 HTN.out.1
            have HTP : Hid (termsOk t M = true ∧ lastT t M ≤ lastT t M) := ⟨HTN.out.1, Int.le_refl _⟩
            have hq1 := HTN.out.2
            obtain ⟨tq, htq⟩ : ∃ x, lastT t M = x := ⟨_, rfl⟩
            rw [htq] at hq0 hq1 ⊢
            rw [show lastT t M ≤ lastT t M ↔ lastT t M ≤ tq by rw [htq]] at HTP
            clear htq HTN
            go_wp2
            go_roundw
            case rel => exact ⟨k + 1, tq, M, va', vc', by omega, by go_num, rfl, by omega, by omega, HLM, HTP, HT2, KC, GC, XR, XB, HO⟩
            case measure => simp [intOf]; omega
        · go_wp2_with fail
          refine Calls.mono (l01Once_any C 4 (by omega) (by omega) _ KC.out) ?_
          rintro e w5 ⟨b, rfl, k5, q5⟩
          have K2 := hid k5
          have G2 := hid (GC.out.trans q5)
          have R2 := hid (XR.out.cur q5 Nr.out)
          have B2 := hid (XB.out.cur q5 Nl.out)
          have H2 := hid (row_past HO.out q5 (by have := Nr.out; omega))
          clear k5 q5 KC GC XR XB HO
          have KC := K2
          have GC := G2
          have XR := R2
          have XB := B2
          have HO := H2
          clear K2 G2 R2 B2 H2
          have hlen : L.length ≤ 10 := by have := HLk.out; omega
          have HOK : Hid (logOk s t L = true) := logOk_iff.2 ⟨by omega, ht6, by omega, by omega, HTO.out.1⟩
          clear HLk HTO
          cases b with
          | false =>
            have HOW := hid (own_row HO.out)
            have HCAP := hid (row_capacity HO.out)
            have zr0 := XR.out.cell (j := 0) rfl
            have yr0 := XR.out.thaw 0
            have zr1 := XR.out.cell (j := 1) rfl
            have yr1 := XR.out.thaw 1
            have zr2 := XR.out.cell (j := 2) rfl
            have yr2 := XR.out.thaw 2
            have zb0 := XB.out.cell (j := 0) rfl
            have zb1 := XB.out.cell (j := 1) rfl
            have zb2 := XB.out.cell (j := 2) rfl
            have KL := hid (((KC.out.set (b := w.heap.size + 1) (j := 0) (v := .int .i64 s) Nr.out).set (b := w.heap.size + 1) (j := 1) (v := .int .i64 t) Nr.out).set (b := w.heap.size + 1) (j := 2) (v := .slice va L.length vc) Nr.out)
            have GL := hid (grown_far (b := w.heap.size + 1) (j := 2) (v := .slice va L.length vc) (grown_far (b := w.heap.size + 1) (j := 1) (v := .int .i64 t) (grown_far (b := w.heap.size + 1) (j := 0) (v := .int .i64 s) GC.out (Nat.le_add_right _ 1)) (Nat.le_add_right _ 1)) (Nat.le_add_right _ 1))
            have HL := hid (OwnAt.down (OwnAt.far (b := w.heap.size + 1) (j := 2) (OwnAt.far (b := w.heap.size + 1) (j := 1) (OwnAt.far (b := w.heap.size + 1) (j := 0) HOW.out (show w.heap.size + 1 < w.heap.size + 2 by omega) (.int .i64 s)) (show w.heap.size + 1 < w.heap.size + 2 by omega) (.int .i64 t)) (show w.heap.size + 1 < w.heap.size + 2 by omega) (.slice va L.length vc)) (show w.heap.size ≤ w.heap.size + 2 by omega) (Nat.le_refl _))
            clear KC GC XR XB HO
            go_wp2
            refine bodyPost_ret (v := .agg #[.int .i64 s, .int .i64 t, .slice va L.length vc]) (by simp [results, Try.results59, go_sem, zr0, zr1, zr2]) rfl ?_
            exact ⟨s, t, va, vc, L, rfl, hlen, HCAP.out, HOK.out, HT.out, HL.out, KL.out, GL.out⟩
          | true =>
            have zb0 := XB.out.cell (j := 0) rfl
            have zb1 := XB.out.cell (j := 1) rfl
            have zb2 := XB.out.cell (j := 2) rfl
            go_wp2_with fail
            refine Calls.mono (l01Below_any C ((L.length : Int) + 1) (by omega) (by omega) _ KC.out) ?_
            rintro e w7 ⟨y7, rfl, y70, y71, k7, q7⟩
            clear zb0 zb1 zb2
            have K2 := hid k7
            have G2 := hid (GC.out.trans q7)
            have R2 := hid (XR.out.cur q7 Nr.out)
            have B2 := hid (XB.out.cur q7 Nl.out)
            have H2 := hid (row_past HO.out q7 (by have := Nr.out; omega))
            clear k7 q7 KC GC XR XB HO
            have KC := K2
            have GC := G2
            have XR := R2
            have XB := B2
            have HO := H2
            clear K2 G2 R2 B2 H2
            obtain ⟨kq, rfl⟩ := Int.eq_ofNat_of_zero_le y70
            have hkq : kq ≤ L.length := by omega
            clear y70 y71
            obtain ⟨tq, htq⟩ : ∃ x, lastT t (L.take kq) = x := ⟨_, rfl⟩
            obtain ⟨D, hD⟩ : ∃ D, L.drop kq = D := ⟨_, rfl⟩
            have HLT : Hid (logTerm s t L (s + kq) = tq) := (show _ = _ by rw [← htq]; exact logTerm_take hkq)
            have HBA : Hid (behindAns s t L (s + kq) tq = D) := (show _ = _ by rw [behindAns_some HOK.out (within_iff.2 (by omega)) HLT.out, ← hD]; congr 1; omega)
            have HOD : Hid (logOk (s + kq) tq D = true) := (show _ = _ by rw [← htq, ← hD]; exact logOk_behind HOK.out hkq)
            have HDT : Hid (∀ d ∈ D, d.Tame) := (show ∀ d ∈ D, _ by rw [← hD]; exact fun d h => HT.out d (List.mem_of_mem_drop h))
            have HDL : Hid (D.length ≤ 10) := (show _ ≤ _ by rw [← hD, List.length_drop]; omega)
            have HSM : Hid (∀ f ∈ L, f.data.size ≤ 1048576) := fun f hf => by have := (HT.out f hf).2.2; omega
            clear htq hD HOK
            go_wp2
            refine wp_region_from (N := 78) (by kernel_rfl) (by kernel_rfl) rfl (by kernel_rfl) (fun W => CurAt W C ∧ w.grownBy W (some C) ∧ BlockIs W (w.heap.size + 1) 31 [.int .i64 0, .int .i64 0, .slice none 0 0] ∧ W.ownsRow (w.heap.size + 2) 35 3 (.slice va L.length vc) L.length (entCells L)) (fun j v u W => match j with | 0 => v = .agg #[.int .i64 s, .int .i64 t, .slice va L.length vc] | 1 => v = .pointer (some ⟨X, 0, none⟩) | 2 => v = .int .i64 s | 3 => v = .int .i64 (kq : Int) | 4 => v = .int .i64 (s + (kq : Int)) | 5 => v = .agg #[.int .i64 s, .int .i64 t, .slice va L.length vc] | 6 => v = .pointer (some ⟨X, 0, none⟩) | 7 => v = .int .i64 s | 8 => v = .int .i64 (kq : Int) | 9 => v = .int .i64 (s + (kq : Int)) | 10 => v = .int .i64 tq | 11 => ∃ vo vc', v = .agg #[.int .i64 (s + (kq : Int)), .int .i64 tq, .slice vo D.length vc'] ∧ D.length ≤ vc' ∧ OwnAt W 35 (entCells D) D.length vo (w.heap.size + 2) W.heap.size | 12 => ∃ vo vc', u = .agg #[.int .i64 (s + (kq : Int)), .int .i64 tq, .slice vo D.length vc'] ∧ D.length ≤ vc' ∧ BlockIs W X 31 [.int .i64 (s + (kq : Int)), .int .i64 tq, .slice vo D.length vc'] ∧ OwnAt W 35 (entCells D) D.length vo (w.heap.size + 2) W.heap.size | _ => True) (fun i => if i = 12 then 11 else i) (fun _ _ => false) (fun i x y => x.heap.size ≤ y.heap.size ∧ ∀ g ty cs, BlockIs x g ty cs → (i = 12 → ty ≠ 31) → BlockIs y g ty cs) (fun m W => match m with | 0 => BlockIs W X 31 [.int .i64 s, .int .i64 t, .slice va L.length vc] | _ => True) (fun m k => decide ((m, k) ∈ ([(0, 12)] : List (Nat × Nat)))) ?_ (fun i => if i = 12 then 76 else 0) (by kernel_rfl) (fun i hi => by have : 13 ≤ i := hi; simp; omega) ?_ ⟨KC.out.below (below_drewN (Below.refl _ _) 1), grown_below GC.out (below_drewN (Below.refl _ _) 1), XR.out.on (below_drewN (Below.refl _ _) 1) XR.out.lt, row_below HO.out (below_drewN (Below.refl _ _) 1)⟩ (fun m => match m with | 0 => XB.out.on (below_drewN (Below.refl _ _) 1) XB.out.lt | _ + 1 => trivial) ?_ ?_
            · intro i m x y hen hxy hm
              match m, hen, hm with
              | 0, hen, hm =>
                simp at hen
                exact hxy.2 _ _ _ hm (fun e => absurd e hen)
              | n + 1, _, _ => exact trivial
            · intro i j v u x y hij hdd hwt hxy hg
              match j, hg with
              | 0, hg => exact hg
              | 1, hg => exact hg
              | 2, hg => exact hg
              | 3, hg => exact hg
              | 4, hg => exact hg
              | 5, hg => exact hg
              | 6, hg => exact hg
              | 7, hg => exact hg
              | 8, hg => exact hg
              | 9, hg => exact hg
              | 10, hg => exact hg
              | 11, hg =>
                obtain ⟨vo, vc', e1, e2, e3⟩ := hg
                exact ⟨vo, vc', e1, e2, e3.ext hxy.1 fun g r h => hxy.2 _ _ _ h (fun _ => by decide)⟩
              | 12, hg =>
                obtain ⟨vo, vc', e1, e2, e3, e4⟩ := hg
                exact ⟨vo, vc', e1, e2, hxy.2 _ _ _ e3 (fun e => absurd e hij), e4.ext hxy.1 fun g r h => hxy.2 _ _ _ h (fun _ => by decide)⟩
              | n + 13, _ => exact trivial
            · refine ⟨?_, ?_, ?_, ?_, ?_, ?_, ?_, ?_, ?_, ?_, ?_, ?_, ?_, trivial⟩
              · intro A W hC hI hg hb
                have h8 : A.eval (.tmp 8) = .pointer (some ⟨X, 0, none⟩) := hb 8 (base_of (by kernel_rfl))
                have hb1 : BlockIs W X 31 [.int .i64 s, .int .i64 t, .slice va L.length vc] := hI 0 (by kernel_rfl)
                have c0 := hb1.cell (j := 0) rfl
                have c1 := hb1.cell (j := 1) rfl
                have c2 := hb1.cell (j := 2) rfl
                exact does_value (v := .agg #[.int .i64 s, .int .i64 t, .slice va L.length vc]) (w' := W) (by simp only [execOp, h8]; simp [go_sem, c0, c1, c2]) ⟨rfl, hC, Nat.le_refl _, fun _ _ _ h _ => h⟩
              · intro A W hC hI hg hb
                have h8 : A.eval (.tmp 8) = .pointer (some ⟨X, 0, none⟩) := hb 8 (base_of (by kernel_rfl))
                exact does_value (v := .pointer (some ⟨X, 0, none⟩)) (w' := W) (by simp only [execOp, h8]; simp [go_sem]) ⟨rfl, hC, Nat.le_refl _, fun _ _ _ h _ => h⟩
              · intro A W hC hI hg hb
                have h66 : A.eval (.tmp 66) = .pointer (some ⟨X, 0, none⟩) := hg 1 66 (by decide) rfl (by simp [Op.operands]) (by kernel_rfl) rfl
                have hb1 : BlockIs W X 31 [.int .i64 s, .int .i64 t, .slice va L.length vc] := hI 0 (by kernel_rfl)
                have c0 := hb1.cell (j := 0) rfl
                exact does_value (v := .int .i64 s) (w' := W) (by simp only [execOp, h66]; simp [go_sem, c0]) ⟨rfl, hC, Nat.le_refl _, fun _ _ _ h _ => h⟩
              · intro A W hC hI hg hb
                have h7 : A.eval (.tmp 7) = .int .i64 (kq : Int) := hb 7 (base_of (by kernel_rfl))
                exact does_value (v := .int .i64 (kq : Int)) (w' := W) (by simp only [execOp, h7]; simp [go_sem]) ⟨rfl, hC, Nat.le_refl _, fun _ _ _ h _ => h⟩
              · intro A W hC hI hg hb
                have h67 : A.eval (.tmp 67) = .int .i64 s := hg 2 67 (by decide) rfl (by simp [Op.operands]) (by kernel_rfl) rfl
                have h68 : A.eval (.tmp 68) = .int .i64 (kq : Int) := hg 3 68 (by decide) rfl (by simp [Op.operands]) (by kernel_rfl) rfl
                have hw : IntKind.i64.wrap (s + (kq : Int)) = s + (kq : Int) := by rw [IntKind.wrap_i64]; omega
                simp [go_sem] at h67 h68
                exact does_value (v := .int .i64 (s + (kq : Int))) (w' := W) (by simp [execOp, go_sem, h67, h68, hw]) ⟨rfl, hC, Nat.le_refl _, fun _ _ _ h _ => h⟩
              · intro A W hC hI hg hb
                have h8 : A.eval (.tmp 8) = .pointer (some ⟨X, 0, none⟩) := hb 8 (base_of (by kernel_rfl))
                have hb1 : BlockIs W X 31 [.int .i64 s, .int .i64 t, .slice va L.length vc] := hI 0 (by kernel_rfl)
                have c0 := hb1.cell (j := 0) rfl
                have c1 := hb1.cell (j := 1) rfl
                have c2 := hb1.cell (j := 2) rfl
                exact does_value (v := .agg #[.int .i64 s, .int .i64 t, .slice va L.length vc]) (w' := W) (by simp only [execOp, h8]; simp [go_sem, c0, c1, c2]) ⟨rfl, hC, Nat.le_refl _, fun _ _ _ h _ => h⟩
              · intro A W hC hI hg hb
                have h8 : A.eval (.tmp 8) = .pointer (some ⟨X, 0, none⟩) := hb 8 (base_of (by kernel_rfl))
                exact does_value (v := .pointer (some ⟨X, 0, none⟩)) (w' := W) (by simp only [execOp, h8]; simp [go_sem]) ⟨rfl, hC, Nat.le_refl _, fun _ _ _ h _ => h⟩
              · intro A W hC hI hg hb
                have h71 : A.eval (.tmp 71) = .pointer (some ⟨X, 0, none⟩) := hg 6 71 (by decide) rfl (by simp [Op.operands]) (by kernel_rfl) rfl
                have hb1 : BlockIs W X 31 [.int .i64 s, .int .i64 t, .slice va L.length vc] := hI 0 (by kernel_rfl)
                have c0 := hb1.cell (j := 0) rfl
                exact does_value (v := .int .i64 s) (w' := W) (by simp only [execOp, h71]; simp [go_sem, c0]) ⟨rfl, hC, Nat.le_refl _, fun _ _ _ h _ => h⟩
              · intro A W hC hI hg hb
                have h7 : A.eval (.tmp 7) = .int .i64 (kq : Int) := hb 7 (base_of (by kernel_rfl))
                exact does_value (v := .int .i64 (kq : Int)) (w' := W) (by simp only [execOp, h7]; simp [go_sem]) ⟨rfl, hC, Nat.le_refl _, fun _ _ _ h _ => h⟩
              · intro A W hC hI hg hb
                have h72 : A.eval (.tmp 72) = .int .i64 s := hg 7 72 (by decide) rfl (by simp [Op.operands]) (by kernel_rfl) rfl
                have h73 : A.eval (.tmp 73) = .int .i64 (kq : Int) := hg 8 73 (by decide) rfl (by simp [Op.operands]) (by kernel_rfl) rfl
                have hw : IntKind.i64.wrap (s + (kq : Int)) = s + (kq : Int) := by rw [IntKind.wrap_i64]; omega
                simp [go_sem] at h72 h73
                exact does_value (v := .int .i64 (s + (kq : Int))) (w' := W) (by simp [execOp, go_sem, h72, h73, hw]) ⟨rfl, hC, Nat.le_refl _, fun _ _ _ h _ => h⟩
              · intro A W hC hI hg hb
                have h70 : A.eval (.tmp 70) = .agg #[.int .i64 s, .int .i64 t, .slice va L.length vc] := hg 5 70 (by decide) rfl (by simp [Op.operands, Call.operands]) (by kernel_rfl) rfl
                have h74 : A.eval (.tmp 74) = .int .i64 (s + (kq : Int)) := hg 9 74 (by decide) rfl (by simp [Op.operands, Call.operands]) (by kernel_rfl) rfl
                simp [go_sem] at h70 h74
                refine does_enter (f := 45) (args := #[.agg #[.int .i64 s, .int .i64 t, .slice va L.length vc], .int .i64 (s + (kq : Int))]) (w' := W) (by simp [go_sem, h70, h74]) ?_
                obtain ⟨hk, hgr, hr, hrow⟩ := hC
                refine (specLogTerm_any s t (s + (kq : Int)) va L vc (by omega) (by omega) W (row_entries hrow)).mono ?_
                rintro e W' ⟨rfl, b'⟩
                rw [HLT.out]
                exact ⟨_, rfl, rfl, ⟨hk.below b', grown_below hgr b', hr.on b' hr.lt, row_below hrow b'⟩, b'.size, fun g ty cs h _ => h.on b' h.lt⟩
              · intro A W hC hI hg hb
                have h65 : A.eval (.tmp 65) = .agg #[.int .i64 s, .int .i64 t, .slice va L.length vc] := hg 0 65 (by decide) rfl (by simp [Op.operands, Call.operands]) (by kernel_rfl) rfl
                have h69 : A.eval (.tmp 69) = .int .i64 (s + (kq : Int)) := hg 4 69 (by decide) rfl (by simp [Op.operands, Call.operands]) (by kernel_rfl) rfl
                have h75 : A.eval (.tmp 75) = .int .i64 tq := hg 10 75 (by decide) rfl (by simp [Op.operands, Call.operands]) (by kernel_rfl) rfl
                simp [go_sem] at h65 h69 h75
                refine does_enter (f := 18) (args := #[.agg #[.int .i64 s, .int .i64 t, .slice va L.length vc], .int .i64 (s + (kq : Int)), .int .i64 tq]) (w' := W) (by simp [go_sem, h65, h69, h75]) ?_
                obtain ⟨hk, hgr, hr, hrow⟩ := hC
                have hb1 : BlockIs W X 31 [.int .i64 s, .int .i64 t, .slice va L.length vc] := hI 0 (by kernel_rfl)
                refine (specLogBehind_cap s t (s + (kq : Int)) tq va L vc (by omega) HSM.out (row_capacity hrow) W (row_entries hrow)).mono ?_
                rintro e W' ⟨vo, vc', rfl, hcp, hown, b'⟩
                rw [HBA.out] at hcp hown ⊢
                exact ⟨_, rfl, ⟨vo, vc', rfl, hcp, hown.down (show _ ≤ _ by have := hb1.lt; have := HXW.out; omega) (Nat.le_refl _)⟩, ⟨hk.below b', grown_below hgr b', hr.on b' hr.lt, row_below hrow b'⟩, b'.size, fun g ty cs h _ => h.on b' h.lt⟩
              · intro A W hC hI hg hb
                have h8 : A.eval (.tmp 8) = .pointer (some ⟨X, 0, none⟩) := hb 8 (base_of (by kernel_rfl))
                have g11 := hg 11 76 (by decide) rfl (by simp [Op.operands]) (by kernel_rfl) rfl
                obtain ⟨vo, vc', h76, hcp, hown⟩ := g11
                have hb1 : BlockIs W X 31 [.int .i64 s, .int .i64 t, .slice va L.length vc] := hI 0 (by kernel_rfl)
                have c0 := hb1.cell (j := 0) rfl
                have c1 := hb1.cell (j := 1) rfl
                have c2 := hb1.cell (j := 2) rfl
                have f0 := hb1.thaw 0
                have f1 := hb1.thaw 1
                have f2 := hb1.thaw 2
                obtain ⟨hk, hgr, hr, hrow⟩ := hC
                have far : ∀ p ty cs, BlockIs W p ty cs → ty ≠ 31 → BlockIs (((W.setCell ⟨X, 0, none⟩ (.int .i64 (s + (kq : Int)))).setCell ⟨X, 1, none⟩ (.int .i64 tq)).setCell ⟨X, 2, none⟩ (.slice vo D.length vc')) p ty cs := fun p ty cs hp hne => by
                  have hpX : X ≠ p := by intro e; subst e; exact hne (block_one hp hb1).1
                  exact ((hp.far hpX _).far hpX _).far hpX _
                exact does_skip (w' := ((W.setCell ⟨X, 0, none⟩ (.int .i64 (s + (kq : Int)))).setCell ⟨X, 1, none⟩ (.int .i64 tq)).setCell ⟨X, 2, none⟩ (.slice vo D.length vc')) (by simp only [execOp, h8, h76]; simp [go_sem, c0, c1, c2, f0, f1, f2]) ⟨⟨vo, vc', h76, hcp, ((hb1.set 0 _).set 1 _).set 2 _, hown.ext (by simp [World.size_setCell]) fun g r h => far g _ _ h (by decide)⟩, ⟨((hk.set Nl.out).set Nl.out).set Nl.out, grown_far (grown_far (grown_far hgr Ml.out) Ml.out) Ml.out, ((hr.far (by have := Arl.out; omega) _).far (by have := Arl.out; omega) _).far (by have := Arl.out; omega) _, row_from hrow fun g cs _ h => far g _ _ h (by decide)⟩, by simp [World.size_setCell], fun p ty cs hp hne => far p ty cs hp (hne rfl)⟩
            · intro vs wE hC hI hg
              obtain ⟨vo, vc', hu, hcp, hX, hO⟩ := hg 12 (by decide) (fun k => by simp)
              change vs 11 = _ at hu
              clear hg hI
              obtain ⟨hk, hgr, hr, _⟩ := hC
              change Exit.then _ _ _ (laidBy _ vs _ 13 _) wE
              simp only [laidBy, if_true, dstAt, List.getElem?_toArray, List.getElem?_cons_succ, List.getElem?_cons_zero, Option.bind_some]
              simp only [Act.put, List.setIfInBounds_toArray, List.set_cons_succ, List.set_cons_zero]
              clear hu KC GC XR XB HO HT HLT HBA HSM
              have KC := hid hk
              have GC := hid hgr
              have XR := hid hr
              have XB := hid hX
              have HO := hid hO
              clear hk hgr hr hX hO
              have zr0 := XR.out.cell (j := 0) rfl
              have yr0 := XR.out.thaw 0
              have zr1 := XR.out.cell (j := 1) rfl
              have yr1 := XR.out.thaw 1
              have zr2 := XR.out.cell (j := 2) rfl
              have yr2 := XR.out.thaw 2
              have zb0 := XB.out.cell (j := 0) rfl
              have zb1 := XB.out.cell (j := 1) rfl
              have zb2 := XB.out.cell (j := 2) rfl
              have KL := hid (((KC.out.set (b := w.heap.size + 1) (j := 0) (v := .int .i64 (s + (kq : Int))) Nr.out).set (b := w.heap.size + 1) (j := 1) (v := .int .i64 tq) Nr.out).set (b := w.heap.size + 1) (j := 2) (v := .slice vo D.length vc') Nr.out)
              have GL := hid (grown_far (b := w.heap.size + 1) (j := 2) (v := .slice vo D.length vc') (grown_far (b := w.heap.size + 1) (j := 1) (v := .int .i64 tq) (grown_far (b := w.heap.size + 1) (j := 0) (v := .int .i64 (s + (kq : Int))) GC.out (Nat.le_add_right _ 1)) (Nat.le_add_right _ 1)) (Nat.le_add_right _ 1))
              have HL := hid (OwnAt.down (OwnAt.far (b := w.heap.size + 1) (j := 2) (OwnAt.far (b := w.heap.size + 1) (j := 1) (OwnAt.far (b := w.heap.size + 1) (j := 0) HO.out (show w.heap.size + 1 < w.heap.size + 2 by omega) (.int .i64 (s + (kq : Int)))) (show w.heap.size + 1 < w.heap.size + 2 by omega) (.int .i64 tq)) (show w.heap.size + 1 < w.heap.size + 2 by omega) (.slice vo D.length vc')) (show w.heap.size ≤ w.heap.size + 2 by omega) (Nat.le_refl _))
              clear KC GC XR XB HO
              go_wp2
              refine bodyPost_ret (v := .agg #[.int .i64 (s + (kq : Int)), .int .i64 tq, .slice vo D.length vc']) (by simp [results, Try.results59, go_sem, zr0, zr1, zr2]) rfl ?_
              exact ⟨s + kq, tq, vo, vc', D, rfl, HDL.out, hcp, HOD.out, HDT.out, HL.out, KL.out, GL.out⟩
  | true =>
    have zXP0_3 := XP.out.cell (j := 0) rfl
    have yXP0_3 := XP.out.thaw 0
    have zXP1_3 := XP.out.cell (j := 1) rfl
    have yXP1_3 := XP.out.thaw 1
    have zXP2_3 := XP.out.cell (j := 2) rfl
    have yXP2_3 := XP.out.thaw 2
    have zXR0_3 := XR.out.cell (j := 0) rfl
    have yXR0_3 := XR.out.thaw 0
    have zXR1_3 := XR.out.cell (j := 1) rfl
    have yXR1_3 := XR.out.thaw 1
    have zXR2_3 := XR.out.cell (j := 2) rfl
    have yXR2_3 := XR.out.thaw 2
    go_wp2_with fail
    refine Calls.mono (l01Below_any C ((L.length : Int) + 1) (by omega) (by omega) _ KC.out) ?_
    rintro e w3 ⟨y, rfl, y0, y1, k3, q3⟩
    obtain ⟨kk, rfl⟩ := Int.eq_ofNat_of_zero_le y0
    have hkk : kk ≤ L.length := by omega
    clear y0 y1
    have HS3 := hid q3.size
    have K2 := hid k3
    have G2 := hid (GC.out.trans q3)
    have YXP := hid (XP.out.cur q3 hCl)
    have YXR := hid (XR.out.cur q3 Nr.out)
    have YHP := hid (row_past HP.out q3 HCB.out)
    clear k3 q3 KC GC XP XR HP zXP0_3 yXP0_3 zXP1_3 yXP1_3 zXP2_3 yXP2_3 zXR0_3 yXR0_3 zXR1_3 yXR1_3 zXR2_3 yXR2_3
    have KC := K2
    have GC := G2
    have XP := YXP
    have XR := YXR
    have HP := YHP
    clear K2 G2 YXP YXR YHP
    have zXP0_4 := XP.out.cell (j := 0) rfl
    have yXP0_4 := XP.out.thaw 0
    have zXP1_4 := XP.out.cell (j := 1) rfl
    have yXP1_4 := XP.out.thaw 1
    have zXP2_4 := XP.out.cell (j := 2) rfl
    have yXP2_4 := XP.out.thaw 2
    have zXR0_4 := XR.out.cell (j := 0) rfl
    have yXR0_4 := XR.out.thaw 0
    have zXR1_4 := XR.out.cell (j := 1) rfl
    have yXR1_4 := XR.out.thaw 1
    have zXR2_4 := XR.out.cell (j := 2) rfl
    have yXR2_4 := XR.out.thaw 2
    go_wp2
    have hsl : L.length ≤ vc := row_capacity HP.out
    have htk : (L.take kk).length = kk := by simp; omega
    have HPE := hid (row_entries HP.out)
    have HWA : Hid (W0.heap.size ≤ w3.heap.size) := (show _ ≤ _ by have := HSZ.out; have := HS3.out; omega)
    clear HS3 zXP0_4 yXP0_4 zXP1_4 yXP1_4 zXP2_4 yXP2_4 zXR0_4 yXR0_4 zXR1_4 yXR1_4 zXR2_4 yXR2_4
    refine wp_region_each (N := 78) (by kernel_rfl) (by kernel_rfl) rfl (by kernel_rfl) (fun W => Below w3.heap.size w3 W) (fun j v u W => match j with | 0 => v = .pointer (some ⟨w.heap.size, 0, none⟩) | 1 => v = .int .i64 s | 2 => v = .pointer (some ⟨w.heap.size, 1, none⟩) | 3 => v = .int .i64 t | 4 => ∃ g, v = .slice (some ⟨g, 0, none⟩) 0 0 ∧ w3.heap.size ≤ g ∧ BlockIs W g 35 [] | 5 => v = .pointer (some ⟨w.heap.size, 2, none⟩) | 6 => v = .slice va L.length vc | 7 => v = .int .i64 (kk : Int) | 8 => v = .slice va kk vc | 9 => W.ownsRow w3.heap.size 35 3 v kk (entCells (L.take kk)) | 10 => ∃ va' vc', v = .agg #[.int .i64 s, .int .i64 t, .slice va' kk vc'] ∧ W.ownsRow w3.heap.size 35 3 (.slice va' kk vc') kk (entCells (L.take kk)) | 11 => ∃ X, v = .pointer (some ⟨X, 0, none⟩) ∧ w3.heap.size ≤ X ∧ BlockIs W X 31 [.int .i64 0, .int .i64 0, .slice none 0 0] | 12 => ∃ X va' vc', u = .pointer (some ⟨X, 0, none⟩) ∧ w3.heap.size ≤ X ∧ BlockIs W X 31 [.int .i64 s, .int .i64 t, .slice va' kk vc'] ∧ W.ownsRow w3.heap.size 35 3 (.slice va' kk vc') kk (entCells (L.take kk)) | _ => True) (fun i => if i = 12 then 11 else i) (fun j i => decide ((j, i) ∈ ([(4, 9), (11, 12)] : List (Nat × Nat)))) (fun i x y => ∀ g ty cs, BlockIs x g ty cs → (i = 9 → cs ≠ []) → (i = 12 → ty ≠ 31) → BlockIs y g ty cs) (fun i => if i = 12 then 8 else 0) (by kernel_rfl) (fun i hi => by have : 13 ≤ i := hi; simp; omega) ?_ (below_drewN (Below.refl _ _) 1) ?_ ?_
    · intro i j v u x y hij hdd hwt hxy hg
      match j, hg with
      | 0, hg => exact hg
      | 1, hg => exact hg
      | 2, hg => exact hg
      | 3, hg => exact hg
      | 4, hg =>
        obtain ⟨g, e1, e2, e3⟩ := hg
        simp at hdd
        exact ⟨g, e1, e2, hxy _ _ _ e3 (fun e => absurd e hdd) (fun _ => by decide)⟩
      | 5, hg => exact hg
      | 6, hg => exact hg
      | 7, hg => exact hg
      | 8, hg => exact hg
      | 9, hg =>
        exact row_from hg fun g cs _ h => hxy _ _ _ h (fun e => absurd e hij) (fun _ => by decide)
      | 10, hg =>
        obtain ⟨va', vc', e1, e2⟩ := hg
        have h9 : i ≠ 9 := by rintro rfl; exact Bool.noConfusion (hwt.symm.trans (by kernel_rfl : waitsB _ 10 9 = true))
        exact ⟨va', vc', e1, row_from e2 fun g cs _ h => hxy _ _ _ h (fun e => absurd e h9) (fun _ => by decide)⟩
      | 11, hg =>
        obtain ⟨X, e1, e2, e3⟩ := hg
        simp at hdd
        exact ⟨X, e1, e2, hxy _ _ _ e3 (fun _ => by simp) (fun e => absurd e hdd)⟩
      | 12, hg =>
        obtain ⟨X, va', vc', e1, e2, e3, e4⟩ := hg
        have h9 : i ≠ 9 := by rintro rfl; exact Bool.noConfusion (hwt.symm.trans (by kernel_rfl : waitsB _ 12 9 = true))
        exact ⟨X, va', vc', e1, e2, hxy _ _ _ e3 (fun _ => by simp) (fun e => absurd e hij), row_from e4 fun g cs _ h => hxy _ _ _ h (fun e => absurd e h9) (fun _ => by decide)⟩
      | n + 13, _ => exact trivial
    · refine ⟨?_, ?_, ?_, ?_, ?_, ?_, ?_, ?_, ?_, ?_, ?_, ?_, ?_, trivial⟩
      · intro A W hC hg hb
        have h3 : A.eval (.tmp 3) = .pointer (some ⟨w.heap.size, 0, none⟩) := hb 3 (base_of (by kernel_rfl))
        exact does_value (v := .pointer (some ⟨w.heap.size, 0, none⟩)) (w' := W) (by simp only [execOp, h3]; simp [go_sem]) ⟨rfl, hC, fun _ _ _ h _ _ => h⟩
      · intro A W hC hg hb
        have h24 : A.eval (.tmp 24) = .pointer (some ⟨w.heap.size, 0, none⟩) := hg 0 24 (by decide) rfl (by simp [Op.operands]) (by kernel_rfl) rfl
        have hc := (XP.out.on hC XP.out.lt).cell (j := 0) rfl
        exact does_value (v := .int .i64 s) (w' := W) (by simp only [execOp, h24]; simp [go_sem, hc]) ⟨rfl, hC, fun _ _ _ h _ _ => h⟩
      · intro A W hC hg hb
        have h3 : A.eval (.tmp 3) = .pointer (some ⟨w.heap.size, 0, none⟩) := hb 3 (base_of (by kernel_rfl))
        exact does_value (v := .pointer (some ⟨w.heap.size, 1, none⟩)) (w' := W) (by simp only [execOp, h3]; simp [go_sem]) ⟨rfl, hC, fun _ _ _ h _ _ => h⟩
      · intro A W hC hg hb
        have h26 : A.eval (.tmp 26) = .pointer (some ⟨w.heap.size, 1, none⟩) := hg 2 26 (by decide) rfl (by simp [Op.operands]) (by kernel_rfl) rfl
        have hc := (XP.out.on hC XP.out.lt).cell (j := 1) rfl
        exact does_value (v := .int .i64 t) (w' := W) (by simp only [execOp, h26]; simp [go_sem, hc]) ⟨rfl, hC, fun _ _ _ h _ _ => h⟩
      · intro A W hC hg hb
        exact does_value (v := .slice (some ⟨W.heap.size, 0, none⟩) 0 0) (w' := W.alloc (.cells #[] 35)) (by simp [execOp, go_sem]) ⟨⟨_, rfl, hC.size, heap_alloc_new W _⟩, below_more hC _, fun _ _ _ h _ _ => h.on (below_more (Below.refl _ W) _) h.lt⟩
      · intro A W hC hg hb
        have h3 : A.eval (.tmp 3) = .pointer (some ⟨w.heap.size, 0, none⟩) := hb 3 (base_of (by kernel_rfl))
        exact does_value (v := .pointer (some ⟨w.heap.size, 2, none⟩)) (w' := W) (by simp only [execOp, h3]; simp [go_sem]) ⟨rfl, hC, fun _ _ _ h _ _ => h⟩
      · intro A W hC hg hb
        have h29 : A.eval (.tmp 29) = .pointer (some ⟨w.heap.size, 2, none⟩) := hg 5 29 (by decide) rfl (by simp [Op.operands]) (by kernel_rfl) rfl
        have hc := (XP.out.on hC XP.out.lt).cell (j := 2) rfl
        exact does_value (v := .slice va L.length vc) (w' := W) (by simp only [execOp, h29]; simp [go_sem, hc]) ⟨rfl, hC, fun _ _ _ h _ _ => h⟩
      · intro A W hC hg hb
        have h7 : A.eval (.tmp 7) = .int .i64 (kk : Int) := hb 7 (base_of (by kernel_rfl))
        exact does_value (v := .int .i64 (kk : Int)) (w' := W) (by simp only [execOp, h7]; simp [go_sem]) ⟨rfl, hC, fun _ _ _ h _ _ => h⟩
      · intro A W hC hg hb
        have h30 : A.eval (.tmp 30) = .slice va L.length vc := hg 6 30 (by decide) rfl (by simp [Op.operands]) (by kernel_rfl) rfl
        have h31 : A.eval (.tmp 31) = .int .i64 (kk : Int) := hg 7 31 (by decide) rfl (by simp [Op.operands]) (by kernel_rfl) rfl
        simp [go_sem] at h30 h31
        exact does_value (v := .slice va kk vc) (w' := W) (by simp [execOp, go_sem, h30, h31]; intro hq; exact absurd hsl (by omega)) ⟨rfl, hC, fun _ _ _ h _ _ => h⟩
      · intro A W hC hg hb
        have g4 := hg 4 28 (by decide) rfl (by simp [Op.operands, Call.operands]) (by kernel_rfl) rfl
        have h32 : A.eval (.tmp 32) = .slice va kk vc := hg 8 32 (by decide) rfl (by simp [Op.operands, Call.operands]) (by kernel_rfl) rfl
        obtain ⟨g, h28, hlo, hbl⟩ := g4
        obtain ⟨v', W', hr, h2, h3⟩ := append_ents hbl (c := vc) (by rw [List.length_take]; omega) ((HPE.out.on hC).take kk)
        rw [htk] at hr h2
        refine does_value (v := v') (w' := W') (by simp only [execOp, resolve, invoke, builtin, Sem.run_bind, Sem.run_pure, Result.andThen_ok, List.map_toArray, List.map_cons, List.map_nil, h28, h32, hr]) ⟨row_down h2 hlo, hC.grown h3 hC.size (fun j hj => by cases hj; exact hlo), fun q ty cs hq hne _ => ?_⟩
        have hqg : q ≠ g := by intro e; subst e; exact hne rfl (block_one hq hbl).2
        unfold BlockIs
        rw [h3.block q hq.lt (by simpa using hqg)]
        exact hq
      · intro A W hC hg hb
        have h25 : A.eval (.tmp 25) = .int .i64 s := hg 1 25 (by decide) rfl (by simp [Op.operands]) (by kernel_rfl) rfl
        have h27 : A.eval (.tmp 27) = .int .i64 t := hg 3 27 (by decide) rfl (by simp [Op.operands]) (by kernel_rfl) rfl
        have g9 := hg 9 33 (by decide) rfl (by simp [Op.operands]) (by kernel_rfl) rfl
        have hrow := g9
        obtain ⟨va', vc', h33⟩ := row_shape hrow
        rw [h33] at hrow
        simp [go_sem] at h25 h27 h33
        exact does_value (v := .agg #[.int .i64 s, .int .i64 t, .slice va' kk vc']) (w' := W) (by simp [execOp, go_sem, h25, h27, h33]) ⟨⟨va', vc', rfl, hrow⟩, hC, fun _ _ _ h _ _ => h⟩
      · intro A W hC hg hb
        exact does_value (v := .pointer (some ⟨W.heap.size, 0, none⟩)) (w' := W.alloc (.cells #[.int .i64 0, .int .i64 0, .slice none 0 0] 31)) (by simp [execOp, go_sem]) ⟨⟨_, rfl, hC.size, heap_alloc_new W _⟩, below_more hC _, fun _ _ _ h _ _ => h.on (below_more (Below.refl _ W) _) h.lt⟩
      · intro A W hC hg hb
        have g11 := hg 11 8 (by decide) rfl (by simp [Op.operands]) (by kernel_rfl) rfl
        have g10 := hg 10 34 (by decide) rfl (by simp [Op.operands]) (by kernel_rfl) rfl
        obtain ⟨X, h8, hlo, hX⟩ := g11
        obtain ⟨va', vc', h34, hrow⟩ := g10
        have c0 := hX.cell (j := 0) rfl
        have c1 := hX.cell (j := 1) rfl
        have c2 := hX.cell (j := 2) rfl
        have f0 := hX.thaw 0
        have f1 := hX.thaw 1
        have f2 := hX.thaw 2
        have far : ∀ q ty cs, BlockIs W q ty cs → ty ≠ 31 → BlockIs (((W.setCell ⟨X, 0, none⟩ (.int .i64 s)).setCell ⟨X, 1, none⟩ (.int .i64 t)).setCell ⟨X, 2, none⟩ (.slice va' kk vc')) q ty cs := fun q ty cs hq hne => by
          have hqX : X ≠ q := by intro e; subst e; exact hne (block_one hq hX).1
          exact ((hq.far hqX _).far hqX _).far hqX _
        exact does_skip (w' := ((W.setCell ⟨X, 0, none⟩ (.int .i64 s)).setCell ⟨X, 1, none⟩ (.int .i64 t)).setCell ⟨X, 2, none⟩ (.slice va' kk vc')) (by simp only [execOp, h8, h34]; simp [go_sem, c0, c1, c2, f0, f1, f2]) ⟨⟨X, va', vc', h8, hlo, ((hX.set 0 _).set 1 _).set 2 _, row_from hrow fun g cs _ h => far g _ _ h (by decide)⟩, ((hC.setCell hlo _).setCell hlo _).setCell hlo _, fun q ty cs hq _ hne => far q ty cs hq (hne rfl)⟩
    · intro vs wB hC hg
      obtain ⟨X, va', vc', hu, hXw, hX, hrow⟩ := hg 12 (by decide) (fun k => by simp)
      change vs 11 = _ at hu
      clear hg
      change Exit.then _ _ _ (laidBy _ vs _ 13 _) wB
      simp only [laidBy, if_true, dstAt, List.getElem?_toArray, List.getElem?_cons_succ, List.getElem?_cons_zero, Option.bind_some]
      simp only [Act.put, List.setIfInBounds_toArray, List.set_cons_succ, List.set_cons_zero]
      rw [hu]
      clear hu
      have HXW : Hid (w.heap.size + 2 ≤ X) := (show _ ≤ _ by have := HW0.out; have := HWA.out; omega)
      have Nl : Hid (C < X) := (show _ < _ by have := HXW.out; omega)
      have Ml : Hid (w.heap.size ≤ X) := (show _ ≤ _ by have := HXW.out; omega)
      have Arl : Hid (w.heap.size + 1 < X) := (show _ < _ by have := HXW.out; omega)
      have HTM2 : Hid (termsOk t (L.take kk) = true ∧ lastT t (L.take kk) ≤ tm) := (show _ ∧ _ by rw [← HTM.out]; exact terms_take hbd.2.2.2.2 kk)
      have HTA : Hid (∀ d ∈ L.take kk, d.Tame) := fun d h => HT.out d (List.mem_of_mem_take h)
      have HLM : Hid ((L.take kk).length ≤ 7 + 0) := (show _ ≤ _ by rw [htk]; omega)
      obtain ⟨M, hM⟩ : ∃ M, L.take kk = M := ⟨_, rfl⟩
      rw [hM] at hrow HTM2 HTA HLM htk
      rw [← htk] at hX hrow
      have K2 := hid (KC.out.below hC)
      have G2 := hid (grown_below GC.out hC)
      have R2 := hid (XR.out.on hC XR.out.lt)
      have XB := hid hX
      have HO := hid (row_down hrow (show w.heap.size + 2 ≤ _ by have := HW0.out; have := HWA.out; omega))
      clear KC GC XR XP HP HPE hX hrow hC hM hXw HTM HT hl hok
      have KC := K2
      have GC := G2
      have XR := R2
      clear K2 G2 R2
      have hs6 : 0 ≤ s ∧ s ≤ 6 := ⟨hbd.1.1, hsm.1⟩
      have ht6 := hbd.2.1
      have htm6 := hsm.2
      clear hbd hsm
      go_wp2
      go_loopw [6, 9] (fun tv i wr => ∃ (k : Nat) (tm : Int) (L : List EntD) (va : Option Addr) (vc : Nat), k ≤ 3 ∧ i = .int .i64 k ∧ tv = .int .i64 tm ∧ 0 ≤ tm ∧ tm ≤ 16 + k ∧ Hid (L.length ≤ 7 + k) ∧ Hid (termsOk t L = true ∧ lastT t L ≤ tm) ∧ Hid (∀ d ∈ L, d.Tame) ∧ Hid (CurAt wr C) ∧ Hid (w.grownBy wr (some C)) ∧ Hid (BlockIs wr (w.heap.size + 1) 31 [.int .i64 0, .int .i64 0, .slice none 0 0]) ∧ Hid (BlockIs wr X 31 [.int .i64 s, .int .i64 t, .slice va L.length vc]) ∧ Hid (wr.ownsRow (w.heap.size + 2) 35 3 (.slice va L.length vc) L.length (entCells L))) (fun _ i _ => 4 - (intOf i).toNat)
      case atStart => exact ⟨0, tm, M, va', vc', by omega, rfl, rfl, by omega, by omega, HLM, HTM2, HTA, KC, GC, XR, XB, HO⟩
      case round =>
        clear KC GC XR XB HO HLM HTM2 HTA ht0 htm6 hsl htk
        obtain ⟨k, tm, L, va, vc, hk, rfl, rfl, ht0, ht1, HLk, HTO, HT, KC, GC, XR, XB, HO⟩ := hrel
        go_wp2_with fail
        refine Calls.mono (l01Below_any C 4 (by omega) (by omega) _ KC.out) ?_
        rintro e w4 ⟨y, rfl, y0, y1, k4, q4⟩
        have K2 := hid k4
        have G2 := hid (GC.out.trans q4)
        have R2 := hid (XR.out.cur q4 Nr.out)
        have B2 := hid (XB.out.cur q4 Nl.out)
        have H2 := hid (row_past HO.out q4 (by have := Nr.out; omega))
        clear k4 q4 KC GC XR XB HO
        have KC := K2
        have GC := G2
        have XR := R2
        have XB := B2
        have HO := H2
        clear K2 G2 R2 B2 H2
        by_cases hlt : (k : Int) < y
        · go_wp2
          refine wp_region_from (N := 78) (by kernel_rfl) (by kernel_rfl) rfl (by kernel_rfl) (fun W => CurAt W C ∧ w.grownBy W (some C) ∧ BlockIs W (w.heap.size + 1) 31 [.int .i64 0, .int .i64 0, .slice none 0 0]) (fun j v u W => match j with | 0 => v = .pointer (some ⟨X, 2, none⟩) | 1 => v = .slice va L.length vc | 2 => v = .pointer (some ⟨C, 0, none⟩) | 3 => v = .int .i64 tm | 4 => v = .pointer (some ⟨C, 0, none⟩) | 5 => ∃ z : Int, v = .int .i64 z ∧ 0 ≤ z ∧ z < 2 | 6 => ∃ z : Int, v = .int .i64 (tm + z) ∧ 0 ≤ z ∧ z < 2 | 7 => ∃ d : EntD, v = .agg #[.int .i64 d.term, .int .i64 d.kind, .string d.data] ∧ (∃ z : Int, 0 ≤ z ∧ z < 2 ∧ d.Short (tm + z)) | 8 => ∃ (g : Nat) (d : EntD), v = .slice (some ⟨g, 0, none⟩) 1 1 ∧ (∃ z : Int, 0 ≤ z ∧ z < 2 ∧ d.Short (tm + z)) ∧ w.heap.size + 2 ≤ g ∧ BlockIs W g 35 (entEnc d) | 9 => ∃ (va' : Option Addr) (vc' : Nat) (d : EntD), v = .slice va' (L.length + 1) vc' ∧ (∃ z : Int, 0 ≤ z ∧ z < 2 ∧ d.Short (tm + z)) ∧ W.ownsRow (w.heap.size + 2) 35 3 (.slice va' (L.length + 1) vc') (L.length + 1) (entCells (L ++ [d])) | 10 => v = .pointer (some ⟨X, 2, none⟩) | 11 => ∃ (va' : Option Addr) (vc' : Nat) (d : EntD), u = .slice va' (L.length + 1) vc' ∧ (∃ z : Int, 0 ≤ z ∧ z < 2 ∧ d.Short (tm + z)) ∧ W.ownsRow (w.heap.size + 2) 35 3 (.slice va' (L.length + 1) vc') (L.length + 1) (entCells (L ++ [d])) ∧ BlockIs W (X) 31 [.int .i64 s, .int .i64 t, .slice va' (L.length + 1) vc'] | _ => True) (fun i => if i = 11 then 9 else i) (fun j i => decide ((j, i) ∈ ([(8, 9)] : List (Nat × Nat)))) (fun i x y => x.heap.size ≤ y.heap.size ∧ ∀ g ty cs, BlockIs x g ty cs → w.heap.size + 2 ≤ g → (i = 9 → ty ≠ 35) → (i = 11 → ty ≠ 31) → BlockIs y g ty cs) (fun m W => match m with | 0 => W.ownsRow (w.heap.size + 2) 35 3 (.slice va L.length vc) L.length (entCells L) | 1 => BlockIs W (X) 31 [.int .i64 s, .int .i64 t, .slice va L.length vc] | _ => True) (fun m k => decide ((m, k) ∈ ([(0, 9), (1, 11)] : List (Nat × Nat)))) ?_ (fun i => if i = 11 then 50 else 0) (by kernel_rfl) (fun i hi => by have : 12 ≤ i := hi; simp; omega) ?_ ⟨KC.out.below (below_drewN (Below.refl _ _) 1), grown_below GC.out (below_drewN (Below.refl _ _) 1), XR.out.on (below_drewN (Below.refl _ _) 1) XR.out.lt⟩ (fun m => match m with | 0 => row_below HO.out (below_drewN (Below.refl _ _) 1) | 1 => XB.out.on (below_drewN (Below.refl _ _) 1) XB.out.lt | _ + 2 => trivial) ?_ ?_
          · intro i m x y hen hxy hm
            match m, hen, hm with
            | 0, hen, hm =>
              simp at hen
              exact row_from hm fun g cs hg h => hxy.2 _ _ _ h (by have o1 := Nl.out; have o2 := HXW.out; have o3 := Nr.out; omega) (fun e => absurd e hen) (fun _ => by decide)
            | 1, hen, hm =>
              simp at hen
              exact hxy.2 _ _ _ hm (by have o1 := Nl.out; have o2 := HXW.out; have o3 := Nr.out; omega) (fun _ => by decide) (fun e => absurd e hen)
            | n + 2, _, _ => exact trivial
          · intro i j v u x y hij hdd hwt hxy hg
            match j, hg with
            | 0, hg => exact hg
            | 1, hg => exact hg
            | 2, hg => exact hg
            | 3, hg => exact hg
            | 4, hg => exact hg
            | 5, hg => exact hg
            | 6, hg => exact hg
            | 7, hg => exact hg
            | 8, hg =>
              obtain ⟨g, d, e1, hd, hlt, e2⟩ := hg
              simp at hdd
              exact ⟨g, d, e1, hd, hlt, hxy.2 _ _ _ e2 hlt (fun e => absurd e hdd) (fun _ => by decide)⟩
            | 9, hg =>
              obtain ⟨va', vc', d, e1, hd, e2⟩ := hg
              exact ⟨va', vc', d, e1, hd, row_from e2 fun g cs hg h => hxy.2 _ _ _ h (by have o1 := Nl.out; have o2 := HXW.out; have o3 := Nr.out; omega) (fun e => absurd e hij) (fun _ => by decide)⟩
            | 10, hg => exact hg
            | 11, hg =>
              obtain ⟨va', vc', d, e1, hd, e2, e3⟩ := hg
              have h6 : i ≠ 9 := by rintro rfl; exact Bool.noConfusion (hwt.symm.trans (by kernel_rfl : waitsB _ 11 9 = true))
              exact ⟨va', vc', d, e1, hd, row_from e2 fun g cs hg h => hxy.2 _ _ _ h (by have o1 := Nl.out; have o2 := HXW.out; have o3 := Nr.out; omega) (fun e => absurd e h6) (fun _ => by decide), hxy.2 _ _ _ e3 (by have o1 := Nl.out; have o2 := HXW.out; have o3 := Nr.out; omega) (fun _ => by decide) (fun e => absurd e hij)⟩
            | n + 12, _ => exact trivial
          · refine ⟨?_, ?_, ?_, ?_, ?_, ?_, ?_, ?_, ?_, ?_, ?_, ?_, trivial⟩
            · intro A W hC hI hg hb
              have h8 : A.eval (.tmp 8) = .pointer (some ⟨X, 0, none⟩) := hb 8 (base_of (by kernel_rfl))
              exact does_value (v := .pointer (some ⟨X, 2, none⟩)) (w' := W) (by simp only [execOp, h8]; simp [go_sem]) ⟨rfl, hC, Nat.le_refl _, fun _ _ _ h _ _ _ => h⟩
            · intro A W hC hI hg hb
              have h41 : A.eval (.tmp 41) = .pointer (some ⟨X, 2, none⟩) := hg 0 41 (by decide) rfl (by simp [Op.operands]) (by kernel_rfl) rfl
              have hb1 : BlockIs W (X) 31 [.int .i64 s, .int .i64 t, .slice va L.length vc] := hI 1 (by kernel_rfl)
              have hc := hb1.cell (j := 2) rfl
              exact does_value (v := .slice va L.length vc) (w' := W) (by simp only [execOp, h41]; simp [go_sem, hc]) ⟨rfl, hC, Nat.le_refl _, fun _ _ _ h _ _ _ => h⟩
            · intro A W hC hI hg hb
              have h0 : A.eval (.tmp 0) = .pointer (some ⟨C, 0, none⟩) := hb 0 (base_of (by kernel_rfl))
              exact does_value (v := .pointer (some ⟨C, 0, none⟩)) (w' := W) (by simp only [execOp, h0]; simp [go_sem]) ⟨rfl, hC, Nat.le_refl _, fun _ _ _ h _ _ _ => h⟩
            · intro A W hC hI hg hb
              have h6 : A.eval (.tmp 6) = .int .i64 tm := hb 6 (base_of (by kernel_rfl))
              exact does_value (v := .int .i64 tm) (w' := W) (by simp only [execOp, h6]; simp [go_sem]) ⟨rfl, hC, Nat.le_refl _, fun _ _ _ h _ _ _ => h⟩
            · intro A W hC hI hg hb
              have h0 : A.eval (.tmp 0) = .pointer (some ⟨C, 0, none⟩) := hb 0 (base_of (by kernel_rfl))
              exact does_value (v := .pointer (some ⟨C, 0, none⟩)) (w' := W) (by simp only [execOp, h0]; simp [go_sem]) ⟨rfl, hC, Nat.le_refl _, fun _ _ _ h _ _ _ => h⟩
            · intro A W hC hI hg hb
              have h45 : A.eval (.tmp 45) = .pointer (some ⟨C, 0, none⟩) := hg 4 45 (by decide) rfl (by simp [Op.operands, Call.operands]) (by kernel_rfl) rfl
              simp [go_sem] at h45
              refine does_enter (f := 53) (args := #[.pointer (some ⟨C, 0, none⟩), .int .i64 2]) (w' := W) (by simp [go_sem, h45]) ?_
              obtain ⟨hk, hgr, hr⟩ := hC
              refine (l01Below_any C 2 (by omega) (by omega) W hk).mono ?_
              rintro e W' ⟨z, rfl, z0, z1, k', q'⟩
              exact ⟨_, rfl, ⟨z, rfl, z0, z1⟩, ⟨k', hgr.trans q', hr.cur q' Nr.out⟩, q'.size, fun g ty cs h hg _ _ => h.cur q' (by have o1 := Nl.out; have o2 := HXW.out; have o3 := Nr.out; omega)⟩
            · intro A W hC hI hg hb
              have h44 : A.eval (.tmp 44) = .int .i64 tm := hg 3 44 (by decide) rfl (by simp [Op.operands]) (by kernel_rfl) rfl
              have g5 := hg 5 46 (by decide) rfl (by simp [Op.operands]) (by kernel_rfl) rfl
              obtain ⟨z, h46, z0, z1⟩ := g5
              simp [go_sem] at h44 h46
              have hw : IntKind.i64.wrap (tm + z) = tm + z := by rw [IntKind.wrap_i64]; omega
              exact does_value (v := .int .i64 (tm + z)) (w' := W) (by simp [execOp, go_sem, h44, h46, hw]) ⟨⟨z, rfl, z0, z1⟩, hC, Nat.le_refl _, fun _ _ _ h _ _ _ => h⟩
            · intro A W hC hI hg hb
              have h43 : A.eval (.tmp 43) = .pointer (some ⟨C, 0, none⟩) := hg 2 43 (by decide) rfl (by simp [Op.operands, Call.operands]) (by kernel_rfl) rfl
              have g6 := hg 6 47 (by decide) rfl (by simp [Op.operands, Call.operands]) (by kernel_rfl) rfl
              obtain ⟨z, h47, z0, z1⟩ := g6
              simp [go_sem] at h43 h47
              refine does_enter (f := 52) (args := #[.pointer (some ⟨C, 0, none⟩), .int .i64 (tm + z)]) (w' := W) (by simp [go_sem, h43, h47]) ?_
              obtain ⟨hk, hgr, hr⟩ := hC
              refine (l05Right_any C (tm + z) W hk).mono ?_
              rintro e W' ⟨d, rfl, hd, k', q'⟩
              exact ⟨_, rfl, ⟨d, rfl, z, z0, z1, hd⟩, ⟨k', hgr.trans q', hr.cur q' Nr.out⟩, q'.size, fun g ty cs h hg _ _ => h.cur q' (by have o1 := Nl.out; have o2 := HXW.out; have o3 := Nr.out; omega)⟩
            · intro A W hC hI hg hb
              have g7 := hg 7 48 (by decide) rfl (by simp [Op.operands]) (by kernel_rfl) rfl
              obtain ⟨d, h48, hd⟩ := g7
              simp [go_sem] at h48
              have hb1 : BlockIs W (X) 31 [.int .i64 s, .int .i64 t, .slice va L.length vc] := hI 1 (by kernel_rfl)
              have ba := below_more (Below.refl W.heap.size W) (.cells #[.int .i64 d.term, .int .i64 d.kind, .string d.data] 35)
              exact does_value (v := .slice (some ⟨W.heap.size, 0, none⟩) 1 1) (w' := W.alloc (.cells #[.int .i64 d.term, .int .i64 d.kind, .string d.data] 35)) (by simp [execOp, go_sem, h48]) ⟨⟨_, d, rfl, hd, by have := hb1.lt; have o1 := Nl.out; have o2 := HXW.out; have o3 := Nr.out; omega, heap_alloc_new W _⟩, ⟨hC.1.below ba, grown_below hC.2.1 ba, hC.2.2.on ba hC.2.2.lt⟩, ba.size, fun g ty cs h _ _ _ => h.on ba h.lt⟩
            · intro A W hC hI hg hb
              have h42 : A.eval (.tmp 42) = .slice va L.length vc := hg 1 42 (by decide) rfl (by simp [Op.operands, Call.operands]) (by kernel_rfl) rfl
              have g8 := hg 8 49 (by decide) rfl (by simp [Op.operands, Call.operands]) (by kernel_rfl) rfl
              obtain ⟨g, d, h49, hd, hlt, hbl⟩ := g8
              have hb1 : BlockIs W (X) 31 [.int .i64 s, .int .i64 t, .slice va L.length vc] := hI 1 (by kernel_rfl)
              have hrow : W.ownsRow (w.heap.size + 2) 35 3 (.slice va L.length vc) L.length (entCells L) := hI 0 (by kernel_rfl)
              obtain ⟨v', W', hr, h2, h3⟩ := append_one (by have := HLk.out; omega) (by have := hb1.lt; have o1 := Nl.out; have o2 := HXW.out; have o3 := Nr.out; omega) hrow hbl
              obtain ⟨va', vc', rfl⟩ := row_shape h2
              rw [← entCells_snoc] at h2
              have hown : ∀ j, (Value.slice va L.length vc).ownBlock = some j → w.heap.size + 2 ≤ j := fun j hj => (row_block hrow hj).elim fun _ h => h.2
              refine does_value (v := .slice va' (L.length + 1) vc') (w' := W') (by simp only [execOp, resolve, invoke, builtin, Sem.run_bind, Sem.run_pure, Result.andThen_ok, List.map_toArray, List.map_cons, List.map_nil, h42, h49, hr]) ⟨⟨va', vc', d, rfl, hd, h2⟩, ⟨hC.1.kept h3 (fun j hj => by have := hown j hj; have o1 := Nl.out; have o2 := HXW.out; have o3 := Nr.out; omega), grown_row hC.2.1 h3 (fun j hj => by have := hown j hj; have o1 := Nl.out; have o2 := HXW.out; have o3 := Nr.out; omega), ?_⟩, h3.size, fun p ty cs hp _ hne _ => ?_⟩
              · unfold BlockIs
                rw [h3.block _ hC.2.2.lt (fun e => by have := hown _ e.symm; have o1 := Nl.out; have o2 := HXW.out; have o3 := Nr.out; omega)]
                exact hC.2.2
              · have hpg : some p ≠ (Value.slice va L.length vc).ownBlock := by
                  intro e
                  obtain ⟨cs', hb', _⟩ := row_block hrow e.symm
                  exact hne rfl (block_one hp hb').1
                unfold BlockIs
                rw [h3.block p hp.lt hpg]
                exact hp
            · intro A W hC hI hg hb
              have h8 : A.eval (.tmp 8) = .pointer (some ⟨X, 0, none⟩) := hb 8 (base_of (by kernel_rfl))
              exact does_value (v := .pointer (some ⟨X, 2, none⟩)) (w' := W) (by simp only [execOp, h8]; simp [go_sem]) ⟨rfl, hC, Nat.le_refl _, fun _ _ _ h _ _ _ => h⟩
            · intro A W hC hI hg hb
              have h51 : A.eval (.tmp 51) = .pointer (some ⟨X, 2, none⟩) := hg 10 51 (by decide) rfl (by simp [Op.operands]) (by kernel_rfl) rfl
              have g9 := hg 9 50 (by decide) rfl (by simp [Op.operands]) (by kernel_rfl) rfl
              obtain ⟨va', vc', d, h50, hd, hrow⟩ := g9
              have hb1 : BlockIs W (X) 31 [.int .i64 s, .int .i64 t, .slice va L.length vc] := hI 1 (by kernel_rfl)
              have c2 := hb1.cell (j := 2) rfl
              have f2 := hb1.thaw 2
              have far : ∀ p ty cs, BlockIs W p ty cs → ty ≠ 31 → BlockIs (W.setCell ⟨X, 2, none⟩ (.slice va' (L.length + 1) vc')) p ty cs := fun p ty cs hp hne => hp.far (by intro e; subst e; exact hne (block_one hp hb1).1) _
              exact does_skip (w' := W.setCell ⟨X, 2, none⟩ (.slice va' (L.length + 1) vc')) (by simp only [execOp, h51, h50]; simp [go_sem, c2, f2]) ⟨⟨va', vc', d, h50, hd, row_from hrow fun g cs _ h => far g _ _ h (by decide), hb1.set 2 _⟩, ⟨hC.1.set Nl.out, grown_far hC.2.1 Ml.out, hC.2.2.far (by have o1 := Nl.out; have o2 := HXW.out; have o3 := Nr.out; omega) _⟩, by simp [World.size_setCell], fun p ty cs hp _ _ hne => far p ty cs hp (hne rfl)⟩
          · intro vs wE hC hI hg
            obtain ⟨va', vc', d, hu, hd, ho, hb⟩ := hg 11 (by decide) (fun k => by simp)
            change vs 9 = _ at hu
            clear hg hI
            obtain ⟨hk, hgr, hr⟩ := hC
            change Exit.then _ _ _ (laidBy _ vs _ 12 _) wE
            simp only [laidBy, if_true, dstAt, List.getElem?_toArray, List.getElem?_cons_succ, List.getElem?_cons_zero, Option.bind_some]
            simp only [Act.put, List.setIfInBounds_toArray, List.set_cons_succ, List.set_cons_zero]
            clear hu KC GC XR XB HO
            have KC := hid hk
            have GC := hid hgr
            have XR := hid hr
            have XB := hid hb
            have HO := hid ho
            clear hk hgr hr hb ho
            obtain ⟨z, z0, z1, hd⟩ := hd
            have HT2 : Hid (∀ f ∈ L ++ [d], f.Tame) := fun f hf => (List.mem_append.1 hf).elim (HT.out f) fun q => by
              rw [List.mem_singleton.1 q]
              obtain ⟨p1, p2, p3, p4, _⟩ := hd
              exact ⟨by omega, by omega, by omega⟩
            have HTN : Hid (termsOk t (L ++ [d]) = true ∧ lastT t (L ++ [d]) ≤ tm + z) := terms_more HTO.out.1 (Int.le_trans HTO.out.2 (by omega)) hd (within_iff.2 (by omega))
            have HL : (L ++ [d]).length = L.length + 1 := by simp
            rw [← HL] at XB HO
            obtain ⟨M, hM⟩ : ∃ M, L ++ [d] = M := ⟨_, rfl⟩
            rw [hM] at XB HO HT2 HL HTN
            have HLM : Hid (M.length ≤ 7 + (k + 1)) := (show _ ≤ _ by have := HLk.out; omega)
            clear hM HL HLk HTO hd
            have zb0 := XB.out.cell (j := 0) rfl
            have zb1 := XB.out.cell (j := 1) rfl
            have zb2 := XB.out.cell (j := 2) rfl
            have HE := hid (row_entries HO.out)
            go_wp2_with fail
            refine Calls.mono (specLogLast_any s t (by omega) va' M vc' (by have := HLM.out; omega) _ HE.out) ?_
            rintro e w6 ⟨rfl, b6⟩
            clear HE zb0 zb1 zb2
            have K2 := hid (KC.out.below b6)
            have G2 := hid (grown_below GC.out b6)
            have R2 := hid (XR.out.on b6 XR.out.lt)
            have B2 := hid (XB.out.on b6 XB.out.lt)
            have H2 := hid (row_below HO.out b6)
            clear b6 KC GC XR XB HO
            have KC := K2
            have GC := G2
            have XR := R2
            have XB := B2
            have HO := H2
            clear K2 G2 R2 B2 H2
            have hq0 := termsOk_lastT ht6 HTN.out.1
            have HTP : Hid (termsOk t M = true ∧ lastT t M ≤ lastT t M) := ⟨HTN.out.1, Int.le_refl _⟩
            have hq1 := HTN.out.2
            obtain ⟨tq, htq⟩ : ∃ x, lastT t M = x := ⟨_, rfl⟩
            rw [htq] at hq0 hq1 ⊢
            rw [show lastT t M ≤ lastT t M ↔ lastT t M ≤ tq by rw [htq]] at HTP
            clear htq HTN
            go_wp2
            go_roundw
            case rel => exact ⟨k + 1, tq, M, va', vc', by omega, by go_num, rfl, by omega, by omega, HLM, HTP, HT2, KC, GC, XR, XB, HO⟩
            case measure => simp [intOf]; omega
        · go_wp2_with fail
          refine Calls.mono (l01Once_any C 4 (by omega) (by omega) _ KC.out) ?_
          rintro e w5 ⟨b, rfl, k5, q5⟩
          have K2 := hid k5
          have G2 := hid (GC.out.trans q5)
          have R2 := hid (XR.out.cur q5 Nr.out)
          have B2 := hid (XB.out.cur q5 Nl.out)
          have H2 := hid (row_past HO.out q5 (by have := Nr.out; omega))
          clear k5 q5 KC GC XR XB HO
          have KC := K2
          have GC := G2
          have XR := R2
          have XB := B2
          have HO := H2
          clear K2 G2 R2 B2 H2
          have hlen : L.length ≤ 10 := by have := HLk.out; omega
          have HOK : Hid (logOk s t L = true) := logOk_iff.2 ⟨by omega, ht6, by omega, by omega, HTO.out.1⟩
          clear HLk HTO
          cases b with
          | false =>
            have HOW := hid (own_row HO.out)
            have HCAP := hid (row_capacity HO.out)
            have zr0 := XR.out.cell (j := 0) rfl
            have yr0 := XR.out.thaw 0
            have zr1 := XR.out.cell (j := 1) rfl
            have yr1 := XR.out.thaw 1
            have zr2 := XR.out.cell (j := 2) rfl
            have yr2 := XR.out.thaw 2
            have zb0 := XB.out.cell (j := 0) rfl
            have zb1 := XB.out.cell (j := 1) rfl
            have zb2 := XB.out.cell (j := 2) rfl
            have KL := hid (((KC.out.set (b := w.heap.size + 1) (j := 0) (v := .int .i64 s) Nr.out).set (b := w.heap.size + 1) (j := 1) (v := .int .i64 t) Nr.out).set (b := w.heap.size + 1) (j := 2) (v := .slice va L.length vc) Nr.out)
            have GL := hid (grown_far (b := w.heap.size + 1) (j := 2) (v := .slice va L.length vc) (grown_far (b := w.heap.size + 1) (j := 1) (v := .int .i64 t) (grown_far (b := w.heap.size + 1) (j := 0) (v := .int .i64 s) GC.out (Nat.le_add_right _ 1)) (Nat.le_add_right _ 1)) (Nat.le_add_right _ 1))
            have HL := hid (OwnAt.down (OwnAt.far (b := w.heap.size + 1) (j := 2) (OwnAt.far (b := w.heap.size + 1) (j := 1) (OwnAt.far (b := w.heap.size + 1) (j := 0) HOW.out (show w.heap.size + 1 < w.heap.size + 2 by omega) (.int .i64 s)) (show w.heap.size + 1 < w.heap.size + 2 by omega) (.int .i64 t)) (show w.heap.size + 1 < w.heap.size + 2 by omega) (.slice va L.length vc)) (show w.heap.size ≤ w.heap.size + 2 by omega) (Nat.le_refl _))
            clear KC GC XR XB HO
            go_wp2
            refine bodyPost_ret (v := .agg #[.int .i64 s, .int .i64 t, .slice va L.length vc]) (by simp [results, Try.results59, go_sem, zr0, zr1, zr2]) rfl ?_
            exact ⟨s, t, va, vc, L, rfl, hlen, HCAP.out, HOK.out, HT.out, HL.out, KL.out, GL.out⟩
          | true =>
            have zb0 := XB.out.cell (j := 0) rfl
            have zb1 := XB.out.cell (j := 1) rfl
            have zb2 := XB.out.cell (j := 2) rfl
            go_wp2_with fail
            refine Calls.mono (l01Below_any C ((L.length : Int) + 1) (by omega) (by omega) _ KC.out) ?_
            rintro e w7 ⟨y7, rfl, y70, y71, k7, q7⟩
            clear zb0 zb1 zb2
            have K2 := hid k7
            have G2 := hid (GC.out.trans q7)
            have R2 := hid (XR.out.cur q7 Nr.out)
            have B2 := hid (XB.out.cur q7 Nl.out)
            have H2 := hid (row_past HO.out q7 (by have := Nr.out; omega))
            clear k7 q7 KC GC XR XB HO
            have KC := K2
            have GC := G2
            have XR := R2
            have XB := B2
            have HO := H2
            clear K2 G2 R2 B2 H2
            obtain ⟨kq, rfl⟩ := Int.eq_ofNat_of_zero_le y70
            have hkq : kq ≤ L.length := by omega
            clear y70 y71
            obtain ⟨tq, htq⟩ : ∃ x, lastT t (L.take kq) = x := ⟨_, rfl⟩
            obtain ⟨D, hD⟩ : ∃ D, L.drop kq = D := ⟨_, rfl⟩
            have HLT : Hid (logTerm s t L (s + kq) = tq) := (show _ = _ by rw [← htq]; exact logTerm_take hkq)
            have HBA : Hid (behindAns s t L (s + kq) tq = D) := (show _ = _ by rw [behindAns_some HOK.out (within_iff.2 (by omega)) HLT.out, ← hD]; congr 1; omega)
            have HOD : Hid (logOk (s + kq) tq D = true) := (show _ = _ by rw [← htq, ← hD]; exact logOk_behind HOK.out hkq)
            have HDT : Hid (∀ d ∈ D, d.Tame) := (show ∀ d ∈ D, _ by rw [← hD]; exact fun d h => HT.out d (List.mem_of_mem_drop h))
            have HDL : Hid (D.length ≤ 10) := (show _ ≤ _ by rw [← hD, List.length_drop]; omega)
            have HSM : Hid (∀ f ∈ L, f.data.size ≤ 1048576) := fun f hf => by have := (HT.out f hf).2.2; omega
            clear htq hD HOK
            go_wp2
            refine wp_region_from (N := 78) (by kernel_rfl) (by kernel_rfl) rfl (by kernel_rfl) (fun W => CurAt W C ∧ w.grownBy W (some C) ∧ BlockIs W (w.heap.size + 1) 31 [.int .i64 0, .int .i64 0, .slice none 0 0] ∧ W.ownsRow (w.heap.size + 2) 35 3 (.slice va L.length vc) L.length (entCells L)) (fun j v u W => match j with | 0 => v = .agg #[.int .i64 s, .int .i64 t, .slice va L.length vc] | 1 => v = .pointer (some ⟨X, 0, none⟩) | 2 => v = .int .i64 s | 3 => v = .int .i64 (kq : Int) | 4 => v = .int .i64 (s + (kq : Int)) | 5 => v = .agg #[.int .i64 s, .int .i64 t, .slice va L.length vc] | 6 => v = .pointer (some ⟨X, 0, none⟩) | 7 => v = .int .i64 s | 8 => v = .int .i64 (kq : Int) | 9 => v = .int .i64 (s + (kq : Int)) | 10 => v = .int .i64 tq | 11 => ∃ vo vc', v = .agg #[.int .i64 (s + (kq : Int)), .int .i64 tq, .slice vo D.length vc'] ∧ D.length ≤ vc' ∧ OwnAt W 35 (entCells D) D.length vo (w.heap.size + 2) W.heap.size | 12 => ∃ vo vc', u = .agg #[.int .i64 (s + (kq : Int)), .int .i64 tq, .slice vo D.length vc'] ∧ D.length ≤ vc' ∧ BlockIs W X 31 [.int .i64 (s + (kq : Int)), .int .i64 tq, .slice vo D.length vc'] ∧ OwnAt W 35 (entCells D) D.length vo (w.heap.size + 2) W.heap.size | _ => True) (fun i => if i = 12 then 11 else i) (fun _ _ => false) (fun i x y => x.heap.size ≤ y.heap.size ∧ ∀ g ty cs, BlockIs x g ty cs → (i = 12 → ty ≠ 31) → BlockIs y g ty cs) (fun m W => match m with | 0 => BlockIs W X 31 [.int .i64 s, .int .i64 t, .slice va L.length vc] | _ => True) (fun m k => decide ((m, k) ∈ ([(0, 12)] : List (Nat × Nat)))) ?_ (fun i => if i = 12 then 76 else 0) (by kernel_rfl) (fun i hi => by have : 13 ≤ i := hi; simp; omega) ?_ ⟨KC.out.below (below_drewN (Below.refl _ _) 1), grown_below GC.out (below_drewN (Below.refl _ _) 1), XR.out.on (below_drewN (Below.refl _ _) 1) XR.out.lt, row_below HO.out (below_drewN (Below.refl _ _) 1)⟩ (fun m => match m with | 0 => XB.out.on (below_drewN (Below.refl _ _) 1) XB.out.lt | _ + 1 => trivial) ?_ ?_
            · intro i m x y hen hxy hm
              match m, hen, hm with
              | 0, hen, hm =>
                simp at hen
                exact hxy.2 _ _ _ hm (fun e => absurd e hen)
              | n + 1, _, _ => exact trivial
            · intro i j v u x y hij hdd hwt hxy hg
              match j, hg with
              | 0, hg => exact hg
              | 1, hg => exact hg
              | 2, hg => exact hg
              | 3, hg => exact hg
              | 4, hg => exact hg
              | 5, hg => exact hg
              | 6, hg => exact hg
              | 7, hg => exact hg
              | 8, hg => exact hg
              | 9, hg => exact hg
              | 10, hg => exact hg
              | 11, hg =>
                obtain ⟨vo, vc', e1, e2, e3⟩ := hg
                exact ⟨vo, vc', e1, e2, e3.ext hxy.1 fun g r h => hxy.2 _ _ _ h (fun _ => by decide)⟩
              | 12, hg =>
                obtain ⟨vo, vc', e1, e2, e3, e4⟩ := hg
                exact ⟨vo, vc', e1, e2, hxy.2 _ _ _ e3 (fun e => absurd e hij), e4.ext hxy.1 fun g r h => hxy.2 _ _ _ h (fun _ => by decide)⟩
              | n + 13, _ => exact trivial
            · refine ⟨?_, ?_, ?_, ?_, ?_, ?_, ?_, ?_, ?_, ?_, ?_, ?_, ?_, trivial⟩
              · intro A W hC hI hg hb
                have h8 : A.eval (.tmp 8) = .pointer (some ⟨X, 0, none⟩) := hb 8 (base_of (by kernel_rfl))
                have hb1 : BlockIs W X 31 [.int .i64 s, .int .i64 t, .slice va L.length vc] := hI 0 (by kernel_rfl)
                have c0 := hb1.cell (j := 0) rfl
                have c1 := hb1.cell (j := 1) rfl
                have c2 := hb1.cell (j := 2) rfl
                exact does_value (v := .agg #[.int .i64 s, .int .i64 t, .slice va L.length vc]) (w' := W) (by simp only [execOp, h8]; simp [go_sem, c0, c1, c2]) ⟨rfl, hC, Nat.le_refl _, fun _ _ _ h _ => h⟩
              · intro A W hC hI hg hb
                have h8 : A.eval (.tmp 8) = .pointer (some ⟨X, 0, none⟩) := hb 8 (base_of (by kernel_rfl))
                exact does_value (v := .pointer (some ⟨X, 0, none⟩)) (w' := W) (by simp only [execOp, h8]; simp [go_sem]) ⟨rfl, hC, Nat.le_refl _, fun _ _ _ h _ => h⟩
              · intro A W hC hI hg hb
                have h66 : A.eval (.tmp 66) = .pointer (some ⟨X, 0, none⟩) := hg 1 66 (by decide) rfl (by simp [Op.operands]) (by kernel_rfl) rfl
                have hb1 : BlockIs W X 31 [.int .i64 s, .int .i64 t, .slice va L.length vc] := hI 0 (by kernel_rfl)
                have c0 := hb1.cell (j := 0) rfl
                exact does_value (v := .int .i64 s) (w' := W) (by simp only [execOp, h66]; simp [go_sem, c0]) ⟨rfl, hC, Nat.le_refl _, fun _ _ _ h _ => h⟩
              · intro A W hC hI hg hb
                have h7 : A.eval (.tmp 7) = .int .i64 (kq : Int) := hb 7 (base_of (by kernel_rfl))
                exact does_value (v := .int .i64 (kq : Int)) (w' := W) (by simp only [execOp, h7]; simp [go_sem]) ⟨rfl, hC, Nat.le_refl _, fun _ _ _ h _ => h⟩
              · intro A W hC hI hg hb
                have h67 : A.eval (.tmp 67) = .int .i64 s := hg 2 67 (by decide) rfl (by simp [Op.operands]) (by kernel_rfl) rfl
                have h68 : A.eval (.tmp 68) = .int .i64 (kq : Int) := hg 3 68 (by decide) rfl (by simp [Op.operands]) (by kernel_rfl) rfl
                have hw : IntKind.i64.wrap (s + (kq : Int)) = s + (kq : Int) := by rw [IntKind.wrap_i64]; omega
                simp [go_sem] at h67 h68
                exact does_value (v := .int .i64 (s + (kq : Int))) (w' := W) (by simp [execOp, go_sem, h67, h68, hw]) ⟨rfl, hC, Nat.le_refl _, fun _ _ _ h _ => h⟩
              · intro A W hC hI hg hb
                have h8 : A.eval (.tmp 8) = .pointer (some ⟨X, 0, none⟩) := hb 8 (base_of (by kernel_rfl))
                have hb1 : BlockIs W X 31 [.int .i64 s, .int .i64 t, .slice va L.length vc] := hI 0 (by kernel_rfl)
                have c0 := hb1.cell (j := 0) rfl
                have c1 := hb1.cell (j := 1) rfl
                have c2 := hb1.cell (j := 2) rfl
                exact does_value (v := .agg #[.int .i64 s, .int .i64 t, .slice va L.length vc]) (w' := W) (by simp only [execOp, h8]; simp [go_sem, c0, c1, c2]) ⟨rfl, hC, Nat.le_refl _, fun _ _ _ h _ => h⟩
              · intro A W hC hI hg hb
                have h8 : A.eval (.tmp 8) = .pointer (some ⟨X, 0, none⟩) := hb 8 (base_of (by kernel_rfl))
                exact does_value (v := .pointer (some ⟨X, 0, none⟩)) (w' := W) (by simp only [execOp, h8]; simp [go_sem]) ⟨rfl, hC, Nat.le_refl _, fun _ _ _ h _ => h⟩
              · intro A W hC hI hg hb
                have h71 : A.eval (.tmp 71) = .pointer (some ⟨X, 0, none⟩) := hg 6 71 (by decide) rfl (by simp [Op.operands]) (by kernel_rfl) rfl
                have hb1 : BlockIs W X 31 [.int .i64 s, .int .i64 t, .slice va L.length vc] := hI 0 (by kernel_rfl)
                have c0 := hb1.cell (j := 0) rfl
                exact does_value (v := .int .i64 s) (w' := W) (by simp only [execOp, h71]; simp [go_sem, c0]) ⟨rfl, hC, Nat.le_refl _, fun _ _ _ h _ => h⟩
              · intro A W hC hI hg hb
                have h7 : A.eval (.tmp 7) = .int .i64 (kq : Int) := hb 7 (base_of (by kernel_rfl))
                exact does_value (v := .int .i64 (kq : Int)) (w' := W) (by simp only [execOp, h7]; simp [go_sem]) ⟨rfl, hC, Nat.le_refl _, fun _ _ _ h _ => h⟩
              · intro A W hC hI hg hb
                have h72 : A.eval (.tmp 72) = .int .i64 s := hg 7 72 (by decide) rfl (by simp [Op.operands]) (by kernel_rfl) rfl
                have h73 : A.eval (.tmp 73) = .int .i64 (kq : Int) := hg 8 73 (by decide) rfl (by simp [Op.operands]) (by kernel_rfl) rfl
                have hw : IntKind.i64.wrap (s + (kq : Int)) = s + (kq : Int) := by rw [IntKind.wrap_i64]; omega
                simp [go_sem] at h72 h73
                exact does_value (v := .int .i64 (s + (kq : Int))) (w' := W) (by simp [execOp, go_sem, h72, h73, hw]) ⟨rfl, hC, Nat.le_refl _, fun _ _ _ h _ => h⟩
              · intro A W hC hI hg hb
                have h70 : A.eval (.tmp 70) = .agg #[.int .i64 s, .int .i64 t, .slice va L.length vc] := hg 5 70 (by decide) rfl (by simp [Op.operands, Call.operands]) (by kernel_rfl) rfl
                have h74 : A.eval (.tmp 74) = .int .i64 (s + (kq : Int)) := hg 9 74 (by decide) rfl (by simp [Op.operands, Call.operands]) (by kernel_rfl) rfl
                simp [go_sem] at h70 h74
                refine does_enter (f := 45) (args := #[.agg #[.int .i64 s, .int .i64 t, .slice va L.length vc], .int .i64 (s + (kq : Int))]) (w' := W) (by simp [go_sem, h70, h74]) ?_
                obtain ⟨hk, hgr, hr, hrow⟩ := hC
                refine (specLogTerm_any s t (s + (kq : Int)) va L vc (by omega) (by omega) W (row_entries hrow)).mono ?_
                rintro e W' ⟨rfl, b'⟩
                rw [HLT.out]
                exact ⟨_, rfl, rfl, ⟨hk.below b', grown_below hgr b', hr.on b' hr.lt, row_below hrow b'⟩, b'.size, fun g ty cs h _ => h.on b' h.lt⟩
              · intro A W hC hI hg hb
                have h65 : A.eval (.tmp 65) = .agg #[.int .i64 s, .int .i64 t, .slice va L.length vc] := hg 0 65 (by decide) rfl (by simp [Op.operands, Call.operands]) (by kernel_rfl) rfl
                have h69 : A.eval (.tmp 69) = .int .i64 (s + (kq : Int)) := hg 4 69 (by decide) rfl (by simp [Op.operands, Call.operands]) (by kernel_rfl) rfl
                have h75 : A.eval (.tmp 75) = .int .i64 tq := hg 10 75 (by decide) rfl (by simp [Op.operands, Call.operands]) (by kernel_rfl) rfl
                simp [go_sem] at h65 h69 h75
                refine does_enter (f := 18) (args := #[.agg #[.int .i64 s, .int .i64 t, .slice va L.length vc], .int .i64 (s + (kq : Int)), .int .i64 tq]) (w' := W) (by simp [go_sem, h65, h69, h75]) ?_
                obtain ⟨hk, hgr, hr, hrow⟩ := hC
                have hb1 : BlockIs W X 31 [.int .i64 s, .int .i64 t, .slice va L.length vc] := hI 0 (by kernel_rfl)
                refine (specLogBehind_cap s t (s + (kq : Int)) tq va L vc (by omega) HSM.out (row_capacity hrow) W (row_entries hrow)).mono ?_
                rintro e W' ⟨vo, vc', rfl, hcp, hown, b'⟩
                rw [HBA.out] at hcp hown ⊢
                exact ⟨_, rfl, ⟨vo, vc', rfl, hcp, hown.down (show _ ≤ _ by have := hb1.lt; have := HXW.out; omega) (Nat.le_refl _)⟩, ⟨hk.below b', grown_below hgr b', hr.on b' hr.lt, row_below hrow b'⟩, b'.size, fun g ty cs h _ => h.on b' h.lt⟩
              · intro A W hC hI hg hb
                have h8 : A.eval (.tmp 8) = .pointer (some ⟨X, 0, none⟩) := hb 8 (base_of (by kernel_rfl))
                have g11 := hg 11 76 (by decide) rfl (by simp [Op.operands]) (by kernel_rfl) rfl
                obtain ⟨vo, vc', h76, hcp, hown⟩ := g11
                have hb1 : BlockIs W X 31 [.int .i64 s, .int .i64 t, .slice va L.length vc] := hI 0 (by kernel_rfl)
                have c0 := hb1.cell (j := 0) rfl
                have c1 := hb1.cell (j := 1) rfl
                have c2 := hb1.cell (j := 2) rfl
                have f0 := hb1.thaw 0
                have f1 := hb1.thaw 1
                have f2 := hb1.thaw 2
                obtain ⟨hk, hgr, hr, hrow⟩ := hC
                have far : ∀ p ty cs, BlockIs W p ty cs → ty ≠ 31 → BlockIs (((W.setCell ⟨X, 0, none⟩ (.int .i64 (s + (kq : Int)))).setCell ⟨X, 1, none⟩ (.int .i64 tq)).setCell ⟨X, 2, none⟩ (.slice vo D.length vc')) p ty cs := fun p ty cs hp hne => by
                  have hpX : X ≠ p := by intro e; subst e; exact hne (block_one hp hb1).1
                  exact ((hp.far hpX _).far hpX _).far hpX _
                exact does_skip (w' := ((W.setCell ⟨X, 0, none⟩ (.int .i64 (s + (kq : Int)))).setCell ⟨X, 1, none⟩ (.int .i64 tq)).setCell ⟨X, 2, none⟩ (.slice vo D.length vc')) (by simp only [execOp, h8, h76]; simp [go_sem, c0, c1, c2, f0, f1, f2]) ⟨⟨vo, vc', h76, hcp, ((hb1.set 0 _).set 1 _).set 2 _, hown.ext (by simp [World.size_setCell]) fun g r h => far g _ _ h (by decide)⟩, ⟨((hk.set Nl.out).set Nl.out).set Nl.out, grown_far (grown_far (grown_far hgr Ml.out) Ml.out) Ml.out, ((hr.far (by have := Arl.out; omega) _).far (by have := Arl.out; omega) _).far (by have := Arl.out; omega) _, row_from hrow fun g cs _ h => far g _ _ h (by decide)⟩, by simp [World.size_setCell], fun p ty cs hp hne => far p ty cs hp (hne rfl)⟩
            · intro vs wE hC hI hg
              obtain ⟨vo, vc', hu, hcp, hX, hO⟩ := hg 12 (by decide) (fun k => by simp)
              change vs 11 = _ at hu
              clear hg hI
              obtain ⟨hk, hgr, hr, _⟩ := hC
              change Exit.then _ _ _ (laidBy _ vs _ 13 _) wE
              simp only [laidBy, if_true, dstAt, List.getElem?_toArray, List.getElem?_cons_succ, List.getElem?_cons_zero, Option.bind_some]
              simp only [Act.put, List.setIfInBounds_toArray, List.set_cons_succ, List.set_cons_zero]
              clear hu KC GC XR XB HO HT HLT HBA HSM
              have KC := hid hk
              have GC := hid hgr
              have XR := hid hr
              have XB := hid hX
              have HO := hid hO
              clear hk hgr hr hX hO
              have zr0 := XR.out.cell (j := 0) rfl
              have yr0 := XR.out.thaw 0
              have zr1 := XR.out.cell (j := 1) rfl
              have yr1 := XR.out.thaw 1
              have zr2 := XR.out.cell (j := 2) rfl
              have yr2 := XR.out.thaw 2
              have zb0 := XB.out.cell (j := 0) rfl
              have zb1 := XB.out.cell (j := 1) rfl
              have zb2 := XB.out.cell (j := 2) rfl
              have KL := hid (((KC.out.set (b := w.heap.size + 1) (j := 0) (v := .int .i64 (s + (kq : Int))) Nr.out).set (b := w.heap.size + 1) (j := 1) (v := .int .i64 tq) Nr.out).set (b := w.heap.size + 1) (j := 2) (v := .slice vo D.length vc') Nr.out)
              have GL := hid (grown_far (b := w.heap.size + 1) (j := 2) (v := .slice vo D.length vc') (grown_far (b := w.heap.size + 1) (j := 1) (v := .int .i64 tq) (grown_far (b := w.heap.size + 1) (j := 0) (v := .int .i64 (s + (kq : Int))) GC.out (Nat.le_add_right _ 1)) (Nat.le_add_right _ 1)) (Nat.le_add_right _ 1))
              have HL := hid (OwnAt.down (OwnAt.far (b := w.heap.size + 1) (j := 2) (OwnAt.far (b := w.heap.size + 1) (j := 1) (OwnAt.far (b := w.heap.size + 1) (j := 0) HO.out (show w.heap.size + 1 < w.heap.size + 2 by omega) (.int .i64 (s + (kq : Int)))) (show w.heap.size + 1 < w.heap.size + 2 by omega) (.int .i64 tq)) (show w.heap.size + 1 < w.heap.size + 2 by omega) (.slice vo D.length vc')) (show w.heap.size ≤ w.heap.size + 2 by omega) (Nat.le_refl _))
              clear KC GC XR XB HO
              go_wp2
              refine bodyPost_ret (v := .agg #[.int .i64 (s + (kq : Int)), .int .i64 tq, .slice vo D.length vc']) (by simp [results, Try.results59, go_sem, zr0, zr1, zr2]) rfl ?_
              exact ⟨s + kq, tq, vo, vc', D, rfl, HDL.out, hcp, HOD.out, HDT.out, HL.out, KL.out, GL.out⟩
end Go.Proofs.Ytjkgjnpifdafaaa
