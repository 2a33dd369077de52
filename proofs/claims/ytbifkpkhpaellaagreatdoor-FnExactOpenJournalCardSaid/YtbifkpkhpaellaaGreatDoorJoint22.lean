/-
  The walk of spec.LogPut: what it answers, in memory of its own.
-/
import Derived.Test.YtbifkpkhpaellaaGreatDoorJoint14
import Derived.Test.YtbifkpkhpaellaaGreatDoorJoint19
import Derived.Test.YtbifkpkhpaellaaGreatDoorJoint13
import Derived.Lib.QuietBelow
namespace Go.Proofs.YtbifkpkhpaellaaGreatDoor
open Go.RowKit Go.Sort

set_option maxRecDepth 1000000 in
set_option maxHeartbeats 4000000 in
theorem specLogPut_any (s t i : Int) (d : EntD) (ao : Option Addr) (l : List EntD) (cap : Nat) (hl : l.length ≤ 1048576) (hsm : ∀ f ∈ l, f.data.size ≤ 1048576) (hdd : d.data.size ≤ 1048576) (hcap : l.length ≤ cap) (w : World) (ha : EntsAt w ao l) :
    Calls Tryz.prog 65 #[.agg #[.int .i64 s, .int .i64 t, .slice ao l.length cap], .int .i64 i, .agg #[.int .i64 d.term, .int .i64 d.kind, .string d.data]] w (PutDid w (putAns s t l i d).1.1 (putAns s t l i d).1.2.1 (putAns s t l i d).1.2.2 (putAns s t l i d).2) := by
  have HA := hid ha
  have HSM := hid hsm
  have h3 := four_log w (.cells #[.int .i64 s, .int .i64 t, .slice ao l.length cap] 28) (.cells #[.int .i64 d.term, .int .i64 d.kind, .string d.data] 110) (.cells #[.int .i64 0, .int .i64 0, .slice none 0 0] 28)
  obtain ⟨hb0, hx0', hx1', hx2'⟩ := h3
  have HB := hid hb0
  have HX0 := hid (show BlockIs _ w.heap.size 28 [.int .i64 s, .int .i64 t, .slice ao l.length cap] from hx0')
  have HX1 := hid (show BlockIs _ (w.heap.size + 1) 110 [.int .i64 d.term, .int .i64 d.kind, .string d.data] from hx1')
  have HX2 := hid (show BlockIs _ (w.heap.size + 1 + 1) 28 [.int .i64 0, .int .i64 0, .slice none 0 0] from hx2')
  clear ha hb0 hx0' hx1' hx2' hsm
  go_enter Tryz.func65, Tryz.ntmps65
  go_wp2
  obtain ⟨W, hW⟩ : ∃ W, ((w.alloc (.cells #[.int .i64 s, .int .i64 t, .slice ao l.length cap] 28)).alloc (.cells #[.int .i64 d.term, .int .i64 d.kind, .string d.data] 110)).alloc (.cells #[.int .i64 0, .int .i64 0, .slice none 0 0] 28) = W := ⟨_, rfl⟩
  rw [hW] at HB HX0 HX1 HX2 ⊢
  clear hW
  have X0 := cell_regrown (HX0.out.cell (j := 0) rfl)
  have X1 := cell_regrown (HX0.out.cell (j := 1) rfl)
  have X2 := cell_regrown (HX0.out.cell (j := 2) rfl)
  have CO' := fun d os => Calls.regrown_of (w := W) (d := d) (os := os) (specLogOk_any s t ao l cap hl HSM.out _ (HA.out.on (below_via HB.out (below_regrown W d os))))
  cases hO : logOk s t l with
  | false =>
    have hr := hid (putAns_no (s := s) (t := t) (l := l) (i := i) (e := d) (by simp [hO]))
    rw [hO] at CO'
    have CO := hid CO'
    clear CO' hO
    refine wp_region_quiet_below (by kernel_rfl) (by kernel_rfl) ?_
    repeat (first | go_big_quiet_step (first | (go_at_call 41; exact CO.out _ _) | fail) | quiet_step (first | (go_at_call 41; exact CO.out _ _) | fail))
    refine wpQuiet_nil ?_
    intro _ hw'
    obtain ⟨⟨dq, osq⟩, hw''⟩ := hw'
    subst hw''
    have b1 := below_regrown W dq osq
    generalize grow (redrawn W dq) osq = w1 at b1 ⊢
    have B1 := hid (below_via HB.out b1)
    have Y0 := hid (HX0.out.on b1 HX0.out.lt)
    have Y1 := hid (HX1.out.on b1 HX1.out.lt)
    have Y2 := hid (HX2.out.on b1 HX2.out.lt)
    have c20 := Y2.out.cell (j := 0) rfl
    have c21 := Y2.out.cell (j := 1) rfl
    have c22 := Y2.out.cell (j := 2) rfl
    have f20 := Y2.out.thaw 0
    have f21 := Y2.out.thaw 1
    have f22 := Y2.out.thaw 2
    have BL := hid (((B1.out.setCell (p := ⟨w.heap.size + 1 + 1, 0, none⟩) (by show _ ≤ _ + 1 + 1; omega) (.int .i64 0)).setCell (p := ⟨w.heap.size + 1 + 1, 1, none⟩) (by show _ ≤ _ + 1 + 1; omega) (.int .i64 0)).setCell (p := ⟨w.heap.size + 1 + 1, 2, none⟩) (by show _ ≤ _ + 1 + 1; omega) (.slice none 0 0))
    clear b1 HB HX0 HX1 HX2 X0 X1 X2 CO
    go_wp2
    refine bodyPost_ret (v := .tuple #[.agg #[.int .i64 0, .int .i64 0, .slice none 0 0], .bool false]) (by simp [results, Tryz.results65, go_sem, c20, c21, c22]) rfl ?_
    rw [hr.out]
    exact putDid_no rfl BL.out
  | true =>
    have hbd := logOk_iff.1 hO
    rw [hO] at CO'
    have CO := hid CO'
    have CL := hid (fun d os => Calls.regrown_of (w := W) (d := d) (os := os) (l06Last_any s t ao l cap (by omega) hl _))
    have CI' := fun d os => Calls.regrown_of (w := W) (d := d) (os := os) ((l01In_any i (s + 1) (s + l.length + 1) _).mono (fun e w' h => And.intro h.1 (h.2 ▸ Below.refl _ _)))
    clear CO'
    cases hI : within i (s + 1) (s + l.length + 1) with
    | false =>
      have hr := hid (putAns_no (s := s) (t := t) (l := l) (i := i) (e := d) (by simp [hI]))
      rw [hI] at CI'
      have CI := hid CI'
      clear CI' hI hO
      refine wp_region_quiet_below (by kernel_rfl) (by kernel_rfl) ?_
      repeat (first | go_big_quiet_step (first | (go_at_call 41; exact CO.out _ _) | (go_at_call 85; exact CL.out _ _) | (go_at_call 36; exact CI.out _ _) | fail) | quiet_step (first | (go_at_call 41; exact CO.out _ _) | (go_at_call 85; exact CL.out _ _) | (go_at_call 36; exact CI.out _ _) | fail))
      refine wpQuiet_nil ?_
      intro _ hw'
      obtain ⟨⟨dq, osq⟩, hw''⟩ := hw'
      subst hw''
      have b1 := below_regrown W dq osq
      generalize grow (redrawn W dq) osq = w1 at b1 ⊢
      have B1 := hid (below_via HB.out b1)
      have Y0 := hid (HX0.out.on b1 HX0.out.lt)
      have Y1 := hid (HX1.out.on b1 HX1.out.lt)
      have Y2 := hid (HX2.out.on b1 HX2.out.lt)
      have c20 := Y2.out.cell (j := 0) rfl
      have c21 := Y2.out.cell (j := 1) rfl
      have c22 := Y2.out.cell (j := 2) rfl
      have f20 := Y2.out.thaw 0
      have f21 := Y2.out.thaw 1
      have f22 := Y2.out.thaw 2
      have BL := hid (((B1.out.setCell (p := ⟨w.heap.size + 1 + 1, 0, none⟩) (by show _ ≤ _ + 1 + 1; omega) (.int .i64 0)).setCell (p := ⟨w.heap.size + 1 + 1, 1, none⟩) (by show _ ≤ _ + 1 + 1; omega) (.int .i64 0)).setCell (p := ⟨w.heap.size + 1 + 1, 2, none⟩) (by show _ ≤ _ + 1 + 1; omega) (.slice none 0 0))
      clear b1 HB HX0 HX1 HX2 X0 X1 X2 CO CL CI
      go_wp2
      refine bodyPost_ret (v := .tuple #[.agg #[.int .i64 0, .int .i64 0, .slice none 0 0], .bool false]) (by simp [results, Tryz.results65, go_sem, c20, c21, c22]) rfl ?_
      rw [hr.out]
      exact putDid_no rfl BL.out
    | true =>
      rw [hI] at CI'
      have CI := hid CI'
      clear CI'
      have hii := within_iff.1 hI
      refine wp_region_quiet_below (by kernel_rfl) (by kernel_rfl) ?_
      repeat (first | go_big_quiet_step (first | (go_at_call 41; exact CO.out _ _) | (go_at_call 85; exact CL.out _ _) | (go_at_call 36; exact CI.out _ _) | fail) | quiet_step (first | (go_at_call 41; exact CO.out _ _) | (go_at_call 85; exact CL.out _ _) | (go_at_call 36; exact CI.out _ _) | fail))
      refine wpQuiet_nil ?_
      intro _ hw'
      obtain ⟨⟨dq, osq⟩, hw''⟩ := hw'
      subst hw''
      have b1 := below_regrown W dq osq
      generalize grow (redrawn W dq) osq = w1 at b1 ⊢
      have B1 := hid (below_via HB.out b1)
      have Y0 := hid (HX0.out.on b1 HX0.out.lt)
      have Y1 := hid (HX1.out.on b1 HX1.out.lt)
      have Y2 := hid (HX2.out.on b1 HX2.out.lt)
      obtain ⟨k, hk⟩ : ∃ k : Nat, (i - s - 1).toNat = k := ⟨_, rfl⟩
      have hkl : k ≤ l.length := by omega
      have hk1 : i - s = (k : Int) + 1 := by omega
      have hk2 : IntKind.i64.wrap ((k : Int) + 1) = (k : Int) + 1 := by rw [IntKind.wrap_i64]; omega
      have hk3 : IntKind.i64.wrap (k : Int) = (k : Int) := by rw [IntKind.wrap_i64]; omega
      have htk : (l.take k).length = k := by simp; omega
      have hpos : 0 < (l.take k ++ [d]).length := by simp
      have hsl : k ≤ cap := by omega
      clear b1 HB HX0 HX1 HX2 X0 X1 X2 CO CL CI
      go_wp2
      refine wp_region_each (N := 47) (by kernel_rfl) (by kernel_rfl) rfl (by kernel_rfl) (fun W => Below w1.heap.size w1 W) (fun j v u W => match j with | 0 => v = .pointer (some ⟨w.heap.size, 0, none⟩) | 1 => v = .int .i64 s | 2 => v = .pointer (some ⟨w.heap.size, 1, none⟩) | 3 => v = .int .i64 t | 4 => ∃ g, v = .slice (some ⟨g, 0, none⟩) 0 0 ∧ w1.heap.size ≤ g ∧ BlockIs W g 110 [] | 5 => v = .pointer (some ⟨w.heap.size, 2, none⟩) | 6 => v = .slice ao l.length cap | 7 => v = .int .i64 i | 8 => v = .pointer (some ⟨w.heap.size, 0, none⟩) | 9 => v = .int .i64 s | 10 => v = .int .i64 ((k : Int) + 1) | 11 => v = .int .i64 (k : Int) | 12 => v = .slice ao k cap | 13 => W.ownsRow w1.heap.size 110 3 v k (entCells (l.take k)) | 14 => v = .agg #[.int .i64 d.term, .int .i64 d.kind, .string d.data] | 15 => ∃ g, v = .slice (some ⟨g, 0, none⟩) 1 1 ∧ BlockIs W g 110 (entEnc d) | 16 => ∃ va vc, v = .slice va (l.take k ++ [d]).length vc ∧ (l.take k ++ [d]).length ≤ vc ∧ OwnAt W 110 (entCells (l.take k ++ [d])) (l.take k ++ [d]).length va w1.heap.size W.heap.size | 17 => ∃ va vc, v = .agg #[.int .i64 s, .int .i64 t, .slice va (l.take k ++ [d]).length vc] ∧ (l.take k ++ [d]).length ≤ vc ∧ OwnAt W 110 (entCells (l.take k ++ [d])) (l.take k ++ [d]).length va w1.heap.size W.heap.size | 18 => ∃ X, v = .pointer (some ⟨X, 0, none⟩) ∧ w1.heap.size ≤ X ∧ BlockIs W X 28 [.int .i64 0, .int .i64 0, .slice none 0 0] | 19 => ∃ X va vc, u = .pointer (some ⟨X, 0, none⟩) ∧ w1.heap.size ≤ X ∧ (l.take k ++ [d]).length ≤ vc ∧ BlockIs W X 28 [.int .i64 s, .int .i64 t, .slice va (l.take k ++ [d]).length vc] ∧ OwnAt W 110 (entCells (l.take k ++ [d])) (l.take k ++ [d]).length va w1.heap.size W.heap.size | _ => True) (fun i => if i = 19 then 18 else i) (fun j i => decide ((j, i) ∈ ([(4, 13), (4, 16), (13, 16), (15, 16), (18, 19)] : List (Nat × Nat)))) (fun i x y => x.heap.size ≤ y.heap.size ∧ ∀ g ty cs, BlockIs x g ty cs → (i = 13 → cs ≠ []) → (i = 16 → ty ≠ 110) → (i = 19 → ty ≠ 28) → BlockIs y g ty cs) (fun i => if i = 19 then 8 else 0) (by kernel_rfl) (fun i hi => by have : 20 ≤ i := hi; simp; omega) ?_ (below_drewN (Below.refl _ _) 1) ?_ ?_
      · intro i j v u x y hij hdd hwt hxy hg
        match j, hg with
        | 0, hg => exact hg
        | 1, hg => exact hg
        | 2, hg => exact hg
        | 3, hg => exact hg
        | 4, hg =>
          obtain ⟨g, e1, e2, e3⟩ := hg
          simp at hdd
          exact ⟨g, e1, e2, hxy.2 _ _ _ e3 (fun e => absurd e hdd.1) (fun e => absurd e hdd.2) (fun _ => by decide)⟩
        | 5, hg => exact hg
        | 6, hg => exact hg
        | 7, hg => exact hg
        | 8, hg => exact hg
        | 9, hg => exact hg
        | 10, hg => exact hg
        | 11, hg => exact hg
        | 12, hg => exact hg
        | 13, hg =>
          simp at hdd
          exact row_ext hg fun g cs h => hxy.2 _ _ _ h (fun e => absurd e hij) (fun e => absurd e hdd) (fun _ => by decide)
        | 14, hg => exact hg
        | 15, hg =>
          obtain ⟨g, e1, e2⟩ := hg
          simp at hdd
          exact ⟨g, e1, hxy.2 _ _ _ e2 (fun _ => by simp [entEnc]) (fun e => absurd e hdd) (fun _ => by decide)⟩
        | 16, hg =>
          obtain ⟨va, vc, e1, e2, e3⟩ := hg
          exact ⟨va, vc, e1, e2, e3.ext hxy.1 fun g r h => hxy.2 _ _ _ h (fun _ => entCells_ne hpos _) (fun e => absurd e hij) (fun _ => by decide)⟩
        | 17, hg =>
          obtain ⟨va, vc, e1, e2, e3⟩ := hg
          have h16 : i ≠ 16 := by rintro rfl; exact Bool.noConfusion (hwt.symm.trans (by kernel_rfl : waitsB _ 17 16 = true))
          exact ⟨va, vc, e1, e2, e3.ext hxy.1 fun g r h => hxy.2 _ _ _ h (fun _ => entCells_ne hpos _) (fun e => absurd e h16) (fun _ => by decide)⟩
        | 18, hg =>
          obtain ⟨X, e1, e2, e3⟩ := hg
          simp at hdd
          exact ⟨X, e1, e2, hxy.2 _ _ _ e3 (fun _ => by simp) (fun _ => by decide) (fun e => absurd e hdd)⟩
        | 19, hg =>
          obtain ⟨X, va, vc, e1, e2, e3, e4, e5⟩ := hg
          have h16 : i ≠ 16 := by rintro rfl; exact Bool.noConfusion (hwt.symm.trans (by kernel_rfl : waitsB _ 19 16 = true))
          exact ⟨X, va, vc, e1, e2, e3, hxy.2 _ _ _ e4 (fun _ => by simp) (fun e => absurd e h16) (fun e => absurd e hij), e5.ext hxy.1 fun g r h => hxy.2 _ _ _ h (fun _ => entCells_ne hpos _) (fun e => absurd e h16) (fun _ => by decide)⟩
        | n + 20, _ => exact trivial
      · refine ⟨?_, ?_, ?_, ?_, ?_, ?_, ?_, ?_, ?_, ?_, ?_, ?_, ?_, ?_, ?_, ?_, ?_, ?_, ?_, ?_, trivial⟩
        · intro A W hC hg hb
          have h3 : A.eval (.tmp 3) = .pointer (some ⟨w.heap.size, 0, none⟩) := hb 3 (base_of (by kernel_rfl))
          exact does_value (v := .pointer (some ⟨w.heap.size, 0, none⟩)) (w' := W) (by simp only [execOp, h3]; simp [go_sem]) ⟨rfl, hC, Nat.le_refl _, fun _ _ _ h _ _ _ => h⟩
        · intro A W hC hg hb
          have h24 : A.eval (.tmp 24) = .pointer (some ⟨w.heap.size, 0, none⟩) := hg 0 24 (by decide) rfl (by simp [Op.operands]) (by kernel_rfl) rfl
          have hc := (Y0.out.on hC Y0.out.lt).cell (j := 0) rfl
          exact does_value (v := .int .i64 s) (w' := W) (by simp only [execOp, h24]; simp [go_sem, hc]) ⟨rfl, hC, Nat.le_refl _, fun _ _ _ h _ _ _ => h⟩
        · intro A W hC hg hb
          have h3 : A.eval (.tmp 3) = .pointer (some ⟨w.heap.size, 0, none⟩) := hb 3 (base_of (by kernel_rfl))
          exact does_value (v := .pointer (some ⟨w.heap.size, 1, none⟩)) (w' := W) (by simp only [execOp, h3]; simp [go_sem]) ⟨rfl, hC, Nat.le_refl _, fun _ _ _ h _ _ _ => h⟩
        · intro A W hC hg hb
          have h26 : A.eval (.tmp 26) = .pointer (some ⟨w.heap.size, 1, none⟩) := hg 2 26 (by decide) rfl (by simp [Op.operands]) (by kernel_rfl) rfl
          have hc := (Y0.out.on hC Y0.out.lt).cell (j := 1) rfl
          exact does_value (v := .int .i64 t) (w' := W) (by simp only [execOp, h26]; simp [go_sem, hc]) ⟨rfl, hC, Nat.le_refl _, fun _ _ _ h _ _ _ => h⟩
        · intro A W hC hg hb
          exact does_value (v := .slice (some ⟨W.heap.size, 0, none⟩) 0 0) (w' := W.alloc (.cells #[] 110)) (by simp [execOp, go_sem]) ⟨⟨_, rfl, hC.size, heap_alloc_new W _⟩, below_more hC _, (below_more (Below.refl _ W) _).size, fun _ _ _ h _ _ _ => h.on (below_more (Below.refl _ W) _) h.lt⟩
        · intro A W hC hg hb
          have h3 : A.eval (.tmp 3) = .pointer (some ⟨w.heap.size, 0, none⟩) := hb 3 (base_of (by kernel_rfl))
          exact does_value (v := .pointer (some ⟨w.heap.size, 2, none⟩)) (w' := W) (by simp only [execOp, h3]; simp [go_sem]) ⟨rfl, hC, Nat.le_refl _, fun _ _ _ h _ _ _ => h⟩
        · intro A W hC hg hb
          have h29 : A.eval (.tmp 29) = .pointer (some ⟨w.heap.size, 2, none⟩) := hg 5 29 (by decide) rfl (by simp [Op.operands]) (by kernel_rfl) rfl
          have hc := (Y0.out.on hC Y0.out.lt).cell (j := 2) rfl
          exact does_value (v := .slice ao l.length cap) (w' := W) (by simp only [execOp, h29]; simp [go_sem, hc]) ⟨rfl, hC, Nat.le_refl _, fun _ _ _ h _ _ _ => h⟩
        · intro A W hC hg hb
          have h1 : A.eval (.tmp 1) = .int .i64 i := hb 1 (base_of (by kernel_rfl))
          exact does_value (v := .int .i64 i) (w' := W) (by simp only [execOp, h1]; simp [go_sem]) ⟨rfl, hC, Nat.le_refl _, fun _ _ _ h _ _ _ => h⟩
        · intro A W hC hg hb
          have h3 : A.eval (.tmp 3) = .pointer (some ⟨w.heap.size, 0, none⟩) := hb 3 (base_of (by kernel_rfl))
          exact does_value (v := .pointer (some ⟨w.heap.size, 0, none⟩)) (w' := W) (by simp only [execOp, h3]; simp [go_sem]) ⟨rfl, hC, Nat.le_refl _, fun _ _ _ h _ _ _ => h⟩
        · intro A W hC hg hb
          have h32 : A.eval (.tmp 32) = .pointer (some ⟨w.heap.size, 0, none⟩) := hg 8 32 (by decide) rfl (by simp [Op.operands]) (by kernel_rfl) rfl
          have hc := (Y0.out.on hC Y0.out.lt).cell (j := 0) rfl
          exact does_value (v := .int .i64 s) (w' := W) (by simp only [execOp, h32]; simp [go_sem, hc]) ⟨rfl, hC, Nat.le_refl _, fun _ _ _ h _ _ _ => h⟩
        · intro A W hC hg hb
          have h31 : A.eval (.tmp 31) = .int .i64 i := hg 7 31 (by decide) rfl (by simp [Op.operands]) (by kernel_rfl) rfl
          have h33 : A.eval (.tmp 33) = .int .i64 s := hg 9 33 (by decide) rfl (by simp [Op.operands]) (by kernel_rfl) rfl
          exact does_value (v := .int .i64 ((k : Int) + 1)) (w' := W) (by simp only [execOp, h31, h33]; simp [go_sem, hk1, hk2]) ⟨rfl, hC, Nat.le_refl _, fun _ _ _ h _ _ _ => h⟩
        · intro A W hC hg hb
          have h34 : A.eval (.tmp 34) = .int .i64 ((k : Int) + 1) := hg 10 34 (by decide) rfl (by simp [Op.operands]) (by kernel_rfl) rfl
          exact does_value (v := .int .i64 (k : Int)) (w' := W) (by simp only [execOp, h34]; simp [go_sem, hk3]) ⟨rfl, hC, Nat.le_refl _, fun _ _ _ h _ _ _ => h⟩
        · intro A W hC hg hb
          have h30 : A.eval (.tmp 30) = .slice ao l.length cap := hg 6 30 (by decide) rfl (by simp [Op.operands]) (by kernel_rfl) rfl
          have h35 : A.eval (.tmp 35) = .int .i64 (k : Int) := hg 11 35 (by decide) rfl (by simp [Op.operands]) (by kernel_rfl) rfl
          simp [go_sem] at h30 h35
          exact does_value (v := .slice ao k cap) (w' := W) (by simp [execOp, go_sem, h30, h35]; intro hq; exact absurd hsl (by omega)) ⟨rfl, hC, Nat.le_refl _, fun _ _ _ h _ _ _ => h⟩
        · intro A W hC hg hb
          have g4 := hg 4 28 (by decide) rfl (by simp [Op.operands, Call.operands]) (by kernel_rfl) rfl
          have h36 : A.eval (.tmp 36) = .slice ao k cap := hg 12 36 (by decide) rfl (by simp [Op.operands, Call.operands]) (by kernel_rfl) rfl
          obtain ⟨g, h28, hlo, hbl⟩ := g4
          obtain ⟨v', W', hr, h2, h3⟩ := append_ents hbl (c := cap) (by rw [List.length_take]; omega) ((HA.out.on (below_via B1.out hC)).take k)
          rw [htk] at hr h2
          refine does_value (v := v') (w' := W') (by simp only [execOp, resolve, invoke, builtin, Sem.run_bind, Sem.run_pure, Result.andThen_ok, List.map_toArray, List.map_cons, List.map_nil, h28, h36, hr]) ⟨row_down h2 hlo, hC.grown h3 hC.size (fun j hj => by cases hj; exact hlo), h3.size, fun q ty cs hq hne _ _ => ?_⟩
          have hqg : q ≠ g := by intro e; subst e; exact hne rfl (block_one hq hbl).2
          unfold BlockIs
          rw [h3.block q hq.lt (by simpa using hqg)]
          exact hq
        · intro A W hC hg hb
          have h5 : A.eval (.tmp 5) = .pointer (some ⟨w.heap.size + 1, 0, none⟩) := hb 5 (base_of (by kernel_rfl))
          have hc0 := (Y1.out.on hC Y1.out.lt).cell (j := 0) rfl
          have hc1 := (Y1.out.on hC Y1.out.lt).cell (j := 1) rfl
          have hc2 := (Y1.out.on hC Y1.out.lt).cell (j := 2) rfl
          exact does_value (v := .agg #[.int .i64 d.term, .int .i64 d.kind, .string d.data]) (w' := W) (by simp only [execOp, h5]; simp [go_sem, hc0, hc1, hc2]) ⟨rfl, hC, Nat.le_refl _, fun _ _ _ h _ _ _ => h⟩
        · intro A W hC hg hb
          have h38 : A.eval (.tmp 38) = .agg #[.int .i64 d.term, .int .i64 d.kind, .string d.data] := hg 14 38 (by decide) rfl (by simp [Op.operands]) (by kernel_rfl) rfl
          simp [go_sem] at h38
          refine does_value (v := .slice (some ⟨W.heap.size, 0, none⟩) 1 1) (w' := W.alloc (.cells #[.int .i64 d.term, .int .i64 d.kind, .string d.data] 110)) (by simp [execOp, go_sem, h38]) ⟨⟨_, rfl, heap_alloc_new W _⟩, below_more hC _, (below_more (Below.refl _ W) _).size, fun _ _ _ h _ _ _ => h.on (below_more (Below.refl _ W) _) h.lt⟩
        · intro A W hC hg hb
          have g13 := hg 13 37 (by decide) rfl (by simp [Op.operands, Call.operands]) (by kernel_rfl) rfl
          have g15 := hg 15 39 (by decide) rfl (by simp [Op.operands, Call.operands]) (by kernel_rfl) rfl
          obtain ⟨g, h39, hbl⟩ := g15
          obtain ⟨v', W', hr, h2, h3⟩ := append_one (by omega) hC.size g13 hbl
          obtain ⟨va, vc, rfl, hvc, ho⟩ := own_of_row (l := l.take k ++ [d]) (by rw [entCells_snoc, List.length_append, htk]; exact h2)
          obtain ⟨a1, c1, e1⟩ := row_shape g13
          refine does_value (v := .slice va (l.take k ++ [d]).length vc) (w' := W') (by simp only [execOp, resolve, invoke, builtin, Sem.run_bind, Sem.run_pure, Result.andThen_ok, List.map_toArray, List.map_cons, List.map_nil, h39, hr]) ⟨⟨va, vc, rfl, hvc, ho⟩, hC.grown h3 hC.size (fun j hj => (row_block g13 hj).elim fun _ h => h.2), h3.size, fun q ty cs hq _ hne _ => ?_⟩
          have hqg : some q ≠ (A.eval (.tmp 37)).ownBlock := by
            intro e
            obtain ⟨cs', hb', _⟩ := row_block g13 e.symm
            exact hne rfl (block_one hq hb').1
          unfold BlockIs
          rw [h3.block q hq.lt hqg]
          exact hq
        · intro A W hC hg hb
          have h25 : A.eval (.tmp 25) = .int .i64 s := hg 1 25 (by decide) rfl (by simp [Op.operands]) (by kernel_rfl) rfl
          have h27 : A.eval (.tmp 27) = .int .i64 t := hg 3 27 (by decide) rfl (by simp [Op.operands]) (by kernel_rfl) rfl
          have g16 := hg 16 40 (by decide) rfl (by simp [Op.operands]) (by kernel_rfl) rfl
          obtain ⟨va, vc, h40, hvc, ho⟩ := g16
          simp [go_sem] at h25 h27 h40
          refine does_value (v := .agg #[.int .i64 s, .int .i64 t, .slice va (l.take k ++ [d]).length vc]) (w' := W) (by simp [execOp, go_sem, h25, h27, h40]) ⟨⟨va, vc, rfl, hvc, ho⟩, hC, Nat.le_refl _, fun _ _ _ h _ _ _ => h⟩
        · intro A W hC hg hb
          exact does_value (v := .pointer (some ⟨W.heap.size, 0, none⟩)) (w' := W.alloc (.cells #[.int .i64 0, .int .i64 0, .slice none 0 0] 28)) (by simp [execOp, go_sem]) ⟨⟨_, rfl, hC.size, heap_alloc_new W _⟩, below_more hC _, (below_more (Below.refl _ W) _).size, fun _ _ _ h _ _ _ => h.on (below_more (Below.refl _ W) _) h.lt⟩
        · intro A W hC hg hb
          have g18 := hg 18 8 (by decide) rfl (by simp [Op.operands]) (by kernel_rfl) rfl
          have g17 := hg 17 41 (by decide) rfl (by simp [Op.operands]) (by kernel_rfl) rfl
          obtain ⟨X, h8, hlo, hX⟩ := g18
          obtain ⟨va, vc, h41, hvc, ho⟩ := g17
          have c0 := hX.cell (j := 0) rfl
          have c1 := hX.cell (j := 1) rfl
          have c2 := hX.cell (j := 2) rfl
          have f0 := hX.thaw 0
          have f1 := hX.thaw 1
          have f2 := hX.thaw 2
          have hX3 := ((hX.set 0 (.int .i64 s)).set 1 (.int .i64 t)).set 2 (.slice va (l.take k ++ [d]).length vc)
          have far : ∀ q ty cs, BlockIs W q ty cs → ty ≠ 28 → BlockIs (((W.setCell ⟨X, 0, none⟩ (.int .i64 s)).setCell ⟨X, 1, none⟩ (.int .i64 t)).setCell ⟨X, 2, none⟩ (.slice va (l.take k ++ [d]).length vc)) q ty cs := fun q ty cs hq hne => by
            have hqX : X ≠ q := by intro e; subst e; exact hne (block_one hq hX).1
            exact ((hq.far hqX _).far hqX _).far hqX _
          refine does_skip (w' := ((W.setCell ⟨X, 0, none⟩ (.int .i64 s)).setCell ⟨X, 1, none⟩ (.int .i64 t)).setCell ⟨X, 2, none⟩ (.slice va (l.take k ++ [d]).length vc)) (by simp only [execOp, h8, h41]; simp [go_sem, c0, c1, c2, f0, f1, f2]) ⟨⟨X, va, vc, h8, hlo, hvc, hX3, ?_⟩, ((hC.setCell hlo _).setCell hlo _).setCell hlo _, ?_, fun q ty cs hq _ _ hne => far q ty cs hq (hne rfl)⟩
          · exact ho.ext (by simp [World.size_setCell]) (fun g r h => far g _ _ h (by decide))
          · simp [World.size_setCell]
      · intro vs W' hC hg
        obtain ⟨X, va, vc, hu, hlo, hvc, hX, ho⟩ := hg 19 (by decide) (fun k => by simp)
        change vs 18 = _ at hu
        clear hg
        change Exit.then _ _ _ (laidBy _ vs _ 20 _) W'
        simp only [laidBy, if_true, dstAt, List.getElem?_toArray, List.getElem?_cons_succ, List.getElem?_cons_zero, Option.bind_some]
        simp only [Act.put, List.setIfInBounds_toArray, List.set_cons_succ, List.set_cons_zero]
        rw [hu]
        clear hu
        have hPY := hid (fun h2 => putAns_yes (s := s) (t := t) (l := l) (i := i) (e := d) hO hI h2)
        have hPN := hid (fun (h2 : ¬ logOk s t (l.take (i - s - 1).toNat ++ [d]) = true) => putAns_no (s := s) (t := t) (l := l) (i := i) (e := d) (fun q => h2 q.2.2))
        rw [hk] at hPY hPN
        have hLs : ∀ f ∈ l.take k ++ [d], f.data.size ≤ 1048576 := by
          intro f hf
          rcases List.mem_append.1 hf with hf | hf
          · exact HSM.out f (List.mem_of_mem_take hf)
          · rw [List.mem_singleton.1 hf]; exact hdd
        have hLl : (l.take k ++ [d]).length ≤ 1048576 := by simp; omega
        obtain ⟨L, hL⟩ : ∃ L, l.take k ++ [d] = L := ⟨_, rfl⟩
        rw [hL] at hX ho hvc hPY hPN hLs hLl
        have Z2 := hid (Y2.out.on hC Y2.out.lt)
        have B2 := hid (below_via B1.out hC)
        have HX := hid hX
        have HO := hid ho
        have HSL := hid Y2.out.lt
        have hw1 := hid (B1.out.size)
        have x0 := hX.cell (j := 0) rfl
        have x1 := hX.cell (j := 1) rfl
        have x2 := hX.cell (j := 2) rfl
        have CF' := specLogOk_any s t va L vc hLl hLs W' ho.ents
        clear hC hX ho hlo hbd hI hO hii hk hk1 hk2 hk3 htk hpos hsl hkl hLs Y0 Y1 Y2 B1 hcap hdd hL
        cases hQ : logOk s t L with
        | false =>
          have hr := hid (hPN.out (by rw [hQ]; simp))
          rw [hQ] at CF'
          have CF := hid CF'
          clear CF' hPY hPN hQ
          go_wp2_with fail
          refine Calls.mono CF.out ?_
          rintro e w3 ⟨rfl, b3⟩
          have B3 := hid (below_via B2.out b3)
          have V2 := hid (Z2.out.on b3 Z2.out.lt)
          clear b3 CF x0 x1 x2
          have c20 := V2.out.cell (j := 0) rfl
          have c21 := V2.out.cell (j := 1) rfl
          have c22 := V2.out.cell (j := 2) rfl
          have f20 := V2.out.thaw 0
          have f21 := V2.out.thaw 1
          have f22 := V2.out.thaw 2
          have BL := hid (((B3.out.setCell (p := ⟨w.heap.size + 1 + 1, 0, none⟩) (by show _ ≤ _ + 1 + 1; omega) (.int .i64 0)).setCell (p := ⟨w.heap.size + 1 + 1, 1, none⟩) (by show _ ≤ _ + 1 + 1; omega) (.int .i64 0)).setCell (p := ⟨w.heap.size + 1 + 1, 2, none⟩) (by show _ ≤ _ + 1 + 1; omega) (.slice none 0 0))
          clear Z2 B2
          go_wp2
          refine bodyPost_ret (v := .tuple #[.agg #[.int .i64 0, .int .i64 0, .slice none 0 0], .bool false]) (by simp [results, Tryz.results65, go_sem, c20, c21, c22]) rfl ?_
          rw [hr.out]
          exact putDid_no rfl BL.out
        | true =>
          have hr := hid (hPY.out hQ)
          rw [hQ] at CF'
          have CF := hid CF'
          clear CF' hPY hPN hQ
          go_wp2_with fail
          refine Calls.mono CF.out ?_
          rintro e w3 ⟨rfl, b3⟩
          have B3 := hid (below_via B2.out b3)
          have V2 := hid (Z2.out.on b3 Z2.out.lt)
          have hX3 := HX.out.on b3 HX.out.lt
          have hO3 := (HO.out.on b3).down (Nat.le_refl _) b3.size
          have y0 := hX3.cell (j := 0) rfl
          have y1 := hX3.cell (j := 1) rfl
          have y2 := hX3.cell (j := 2) rfl
          have c20 := V2.out.cell (j := 0) rfl
          have c21 := V2.out.cell (j := 1) rfl
          have c22 := V2.out.cell (j := 2) rfl
          have f20 := V2.out.thaw 0
          have f21 := V2.out.thaw 1
          have f22 := V2.out.thaw 2
          have hz := Z2.out.lt
          have hlow := HSL.out
          have BL := hid (((B3.out.setCell (p := ⟨w.heap.size + 1 + 1, 0, none⟩) (by show _ ≤ _ + 1 + 1; omega) (.int .i64 s)).setCell (p := ⟨w.heap.size + 1 + 1, 1, none⟩) (by show _ ≤ _ + 1 + 1; omega) (.int .i64 t)).setCell (p := ⟨w.heap.size + 1 + 1, 2, none⟩) (by show _ ≤ _ + 1 + 1; omega) (.slice va L.length vc))
          have HOL := hid (((hO3.far (b := w.heap.size + 1 + 1) (j := 0) hlow (.int .i64 s)).far (b := w.heap.size + 1 + 1) (j := 1) hlow (.int .i64 t)).far (b := w.heap.size + 1 + 1) (j := 2) hlow (.slice va L.length vc))
          clear b3 CF x0 x1 x2 hX3 hO3 hz hlow
          go_wp2
          refine bodyPost_ret (v := .tuple #[.agg #[.int .i64 s, .int .i64 t, .slice va L.length vc], .bool true]) (by simp [results, Tryz.results65, go_sem, c20, c21, c22]) rfl ?_
          rw [hr.out]
          exact ⟨va, vc, rfl, hvc, HOL.out.down hw1.out (Nat.le_refl _), BL.out⟩
end Go.Proofs.YtbifkpkhpaellaaGreatDoor
