/-
  The walk of spec.LogBehind: what it answers, in memory of its own.
-/
import Derived.Test.YtglibbpigmpanaaJoint22
import Derived.Test.YtglibbpigmpanaaJoint20
import Derived.Test.YtglibbpigmpanaaJoint1
import Derived.Lib.QuietBelow
import Derived.Deep.AppendLies
namespace Go.Proofs.Ytglibbpigmpanaa
open Go.RowKit Go.Sort

theorem behindAns_none {s t : Int} {l : List EntD} {b tm : Int} (h : ¬ (logOk s t l = true ∧ within b s (s + l.length) = true ∧ logTerm s t l b = tm)) : behindAns s t l b tm = [] := by
  rw [behindAns, if_neg]
  intro q
  exact h ⟨q.1, within_iff.2 q.2.1, q.2.2⟩
theorem behindAns_some {s t : Int} {l : List EntD} {b tm : Int} (h : logOk s t l = true) (h1 : within b s (s + l.length) = true) (h2 : logTerm s t l b = tm) : behindAns s t l b tm = l.drop (b - s).toNat := by
  rw [behindAns, if_pos ⟨h, within_iff.1 h1, h2⟩]

set_option maxRecDepth 1000000 in
set_option maxHeartbeats 1000000 in
theorem specLogBehind_cap (s t b tm : Int) (ao : Option Addr) (l : List EntD) (cap : Nat) (hl : l.length ≤ 1048576) (hsm : ∀ f ∈ l, f.data.size ≤ 1048576) (hcap : l.length ≤ cap) (w : World) (ha : EntsAt w ao l) :
    Calls Try.prog 18 #[.agg #[.int .i64 s, .int .i64 t, .slice ao l.length cap], .int .i64 b, .int .i64 tm] w fun e w' => ∃ vo vc, e = .returned (.agg #[.int .i64 b, .int .i64 tm, .slice vo (behindAns s t l b tm).length vc]) ∧ (behindAns s t l b tm).length ≤ vc ∧ OwnAt w' 69 (entCells (behindAns s t l b tm)) (behindAns s t l b tm).length vo w.heap.size w'.heap.size ∧ Below w.heap.size w w' := by
  have HA := hid ha
  have h3 := four_log w (.cells #[.int .i64 s, .int .i64 t, .slice ao l.length cap] 32) (.cells #[.int .i64 0, .int .i64 0, .slice none 0 0] 32) (.cells #[.int .i64 b, .int .i64 tm, .slice none 0 0] 32)
  obtain ⟨hb0, hx0', hx1', hx2'⟩ := h3
  have HB := hid hb0
  have HX0 := hid (show BlockIs _ w.heap.size 32 [.int .i64 s, .int .i64 t, .slice ao l.length cap] from hx0')
  have HX1 := hid (show BlockIs _ (w.heap.size + 1) 32 [.int .i64 0, .int .i64 0, .slice none 0 0] from hx1')
  have HX2 := hid (show BlockIs _ (w.heap.size + 1 + 1) 32 [.int .i64 b, .int .i64 tm, .slice none 0 0] from hx2')
  clear ha hb0 hx0' hx1' hx2'
  go_enter Try.func18, Try.ntmps18
  go_wp2
  obtain ⟨W, hW⟩ : ∃ W, ((w.alloc (.cells #[.int .i64 s, .int .i64 t, .slice ao l.length cap] 32)).alloc (.cells #[.int .i64 0, .int .i64 0, .slice none 0 0] 32)).alloc (.cells #[.int .i64 b, .int .i64 tm, .slice none 0 0] 32) = W := ⟨_, rfl⟩
  rw [hW] at HB HX0 HX1 HX2 ⊢
  clear hW
  have X0 := cell_regrown (HX0.out.cell (j := 0) rfl)
  have X1 := cell_regrown (HX0.out.cell (j := 1) rfl)
  have X2 := cell_regrown (HX0.out.cell (j := 2) rfl)
  have CO' := fun d os => Calls.regrown_of (w := W) (d := d) (os := os) (specLogOk_any s t ao l cap hl hsm _ (HA.out.on (below_via HB.out (below_regrown W d os))))
  cases hO : logOk s t l with
  | false =>
    have hr := hid (behindAns_none (s := s) (t := t) (l := l) (b := b) (tm := tm) (by simp [hO]))
    rw [hO] at CO'
    have CO := hid CO'
    clear CO' hO
    refine wp_region_quiet_below (by kernel_rfl) (by kernel_rfl) ?_
    repeat (first | go_big_quiet_step (first | (go_at_call 39; exact CO.out _ _) | fail) | quiet_step (first | (go_at_call 39; exact CO.out _ _) | fail))
    refine wpQuiet_nil ?_
    intro _ hw'
    obtain ⟨⟨dq, osq⟩, hw''⟩ := hw'
    subst hw''
    have b1 := below_regrown W dq osq
    generalize grow (redrawn W dq) osq = w1 at b1 ⊢
    have B1 := below_via HB.out b1
    have Y1 := HX1.out.on b1 HX1.out.lt
    have Y2 := HX2.out.on b1 HX2.out.lt
    have c10 := Y1.cell (j := 0) rfl
    have c11 := Y1.cell (j := 1) rfl
    have c12 := Y1.cell (j := 2) rfl
    have c20 := Y2.cell (j := 0) rfl
    have c21 := Y2.cell (j := 1) rfl
    have c22 := Y2.cell (j := 2) rfl
    have f10 := Y1.thaw 0
    have f11 := Y1.thaw 1
    have f12 := Y1.thaw 2
    have BL := hid (((B1.setCell (p := ⟨w.heap.size + 1, 0, none⟩) (by show _ ≤ _ + 1; omega) (.int .i64 b)).setCell (p := ⟨w.heap.size + 1, 1, none⟩) (by show _ ≤ _ + 1; omega) (.int .i64 tm)).setCell (p := ⟨w.heap.size + 1, 2, none⟩) (by show _ ≤ _ + 1; omega) (.slice none 0 0))
    clear b1 B1 Y1 Y2 HB HX0 HX1 HX2 X0 X1 X2 CO
    go_wp2
    refine bodyPost_ret (v := .agg #[.int .i64 b, .int .i64 tm, .slice none 0 0]) (by simp [results, Try.results18, go_sem, c10, c11, c12]) rfl ?_
    rw [hr.out]
    exact ⟨none, 0, rfl, Nat.le_refl _, Or.inl rfl, BL.out⟩
  | true =>
    have hbd := logOk_iff.1 hO
    rw [hO] at CO'
    have CO := hid CO'
    have CL := hid (fun d os => Calls.regrown_of (w := W) (d := d) (os := os) (l06Last_any s t ao l cap (by omega) hl _))
    have CI' := fun d os => Calls.regrown_of (w := W) (d := d) (os := os) ((l01In_any b s (s + l.length) _).mono (fun e w' h => And.intro h.1 (h.2 ▸ Below.refl _ _)))
    clear CO'
    cases hI : within b s (s + l.length) with
    | false =>
      have hr := hid (behindAns_none (s := s) (t := t) (l := l) (b := b) (tm := tm) (by simp [hI]))
      rw [hI] at CI'
      have CI := hid CI'
      clear CI' hI hO hbd
      refine wp_region_quiet_below (by kernel_rfl) (by kernel_rfl) ?_
      repeat (first | go_big_quiet_step (first | (go_at_call 39; exact CO.out _ _) | (go_at_call 45; exact CL.out _ _) | (go_at_call 15; exact CI.out _ _) | fail) | quiet_step (first | (go_at_call 39; exact CO.out _ _) | (go_at_call 45; exact CL.out _ _) | (go_at_call 15; exact CI.out _ _) | fail))
      refine wpQuiet_nil ?_
      intro _ hw'
      obtain ⟨⟨dq, osq⟩, hw''⟩ := hw'
      subst hw''
      have b1 := below_regrown W dq osq
      generalize grow (redrawn W dq) osq = w1 at b1 ⊢
      have B1 := below_via HB.out b1
      have Y1 := HX1.out.on b1 HX1.out.lt
      have Y2 := HX2.out.on b1 HX2.out.lt
      have c10 := Y1.cell (j := 0) rfl
      have c11 := Y1.cell (j := 1) rfl
      have c12 := Y1.cell (j := 2) rfl
      have c20 := Y2.cell (j := 0) rfl
      have c21 := Y2.cell (j := 1) rfl
      have c22 := Y2.cell (j := 2) rfl
      have f10 := Y1.thaw 0
      have f11 := Y1.thaw 1
      have f12 := Y1.thaw 2
      have BL := hid (((B1.setCell (p := ⟨w.heap.size + 1, 0, none⟩) (by show _ ≤ _ + 1; omega) (.int .i64 b)).setCell (p := ⟨w.heap.size + 1, 1, none⟩) (by show _ ≤ _ + 1; omega) (.int .i64 tm)).setCell (p := ⟨w.heap.size + 1, 2, none⟩) (by show _ ≤ _ + 1; omega) (.slice none 0 0))
      clear b1 B1 Y1 Y2 HB HX0 HX1 HX2 X0 X1 X2 CO CL CI
      go_wp2
      refine bodyPost_ret (v := .agg #[.int .i64 b, .int .i64 tm, .slice none 0 0]) (by simp [results, Try.results18, go_sem, c10, c11, c12]) rfl ?_
      rw [hr.out]
      exact ⟨none, 0, rfl, Nat.le_refl _, Or.inl rfl, BL.out⟩
    | true =>
      rw [hI] at CI'
      have CI := hid CI'
      have CT' := fun d os => Calls.regrown_of (w := W) (d := d) (os := os) (specLogTerm_any s t b ao l cap (by omega) hl _ (HA.out.on (below_via HB.out (below_regrown W d os))))
      clear CI'
      obtain ⟨q, hq⟩ : ∃ q, logTerm s t l b = q := ⟨_, rfl⟩
      rw [hq] at CT'
      have CT := hid CT'
      clear CT'
      by_cases hT : q = tm
      · have hr := hid (behindAns_some (s := s) (t := t) (l := l) (b := b) (tm := tm) hO hI (by rw [hq, hT]))
        subst hT
        have hbb := within_iff.1 hI
        obtain ⟨k, hk⟩ : ∃ k : Nat, (b - s).toNat = k := ⟨_, rfl⟩
        rw [hk] at hr
        have hik : b - s = (k : Int) := by omega
        have hkl : k ≤ l.length := by omega
        clear hk hI hO hbd hq
        refine wp_region_quiet_below (by kernel_rfl) (by kernel_rfl) ?_
        repeat (first | go_big_quiet_step (first | (go_at_call 39; exact CO.out _ _) | (go_at_call 45; exact CL.out _ _) | (go_at_call 15; exact CI.out _ _) | (go_at_call 19; exact CT.out _ _) | fail) | quiet_step (first | (go_at_call 39; exact CO.out _ _) | (go_at_call 45; exact CL.out _ _) | (go_at_call 15; exact CI.out _ _) | (go_at_call 19; exact CT.out _ _) | fail))
        refine wpQuiet_nil ?_
        intro _ hw'
        obtain ⟨⟨dq, osq⟩, hw''⟩ := hw'
        subst hw''
        have b1 := below_regrown W dq osq
        generalize grow (redrawn W dq) osq = w1 at b1 ⊢
        have B1 := below_via HB.out b1
        have Y1 := HX1.out.on b1 HX1.out.lt
        have Y2 := HX2.out.on b1 HX2.out.lt
        have Y0 := HX0.out.on b1 HX0.out.lt
        obtain ⟨W2, hW2⟩ : ∃ W2, w1.alloc (.cells #[] 69) = W2 := ⟨_, rfl⟩
        have hbE : Below w1.heap.size w1 W2 := by rw [← hW2]; exact below_more (Below.refl w1.heap.size w1) _
        have hx9 : BlockIs W2 w1.heap.size 69 [] := by rw [← hW2]; exact heap_alloc_new w1 _
        have d00 := (Y0.on hbE Y0.lt).cell (j := 0) rfl
        have d02 := (Y0.on hbE Y0.lt).cell (j := 2) rfl
        have HE := HA.out.on (below_via B1 hbE)
        have Z1 := Y1.on hbE Y1.lt
        have Z2 := Y2.on hbE Y2.lt
        have B2 := below_via B1 hbE
        have hw1 := B1.size
        have hz2 := Y2.lt
        by_cases hkl2 : k = l.length
        · have hnil : l.drop k = [] := List.length_eq_zero_iff.1 (by simp; omega)
          rw [hnil] at hr
          have c10 := Z1.cell (j := 0) rfl
          have c11 := Z1.cell (j := 1) rfl
          have c12 := Z1.cell (j := 2) rfl
          have c20 := Z2.cell (j := 0) rfl
          have c21 := Z2.cell (j := 1) rfl
          have c22 := Z2.cell (j := 2) rfl
          have f10 := Z1.thaw 0
          have f11 := Z1.thaw 1
          have f12 := Z1.thaw 2
          have f22 := Z2.thaw 2
          have BL := hid ((((B2.setCell (p := ⟨w.heap.size + 1 + 1, 2, none⟩) (by show _ ≤ _ + 1 + 1; omega) (.slice (some ⟨w1.heap.size, 0, none⟩) 0 0)).setCell (p := ⟨w.heap.size + 1, 0, none⟩) (by show _ ≤ _ + 1; omega) (.int .i64 b)).setCell (p := ⟨w.heap.size + 1, 1, none⟩) (by show _ ≤ _ + 1; omega) (.int .i64 q)).setCell (p := ⟨w.heap.size + 1, 2, none⟩) (by show _ ≤ _ + 1; omega) (.slice (some ⟨w1.heap.size, 0, none⟩) 0 0))
          clear b1 B1 Y0 Y1 Y2 Z1 Z2 HB HX0 HX1 HX2 X0 X1 X2 CO CL CI CT hbE hx9 HE B2 hw1 hz2 hnil
          subst hkl2
          go_wp2_with (at_builtin; refine wpList_append_zero rfl (.tmp 28) (.tmp 35) rfl rfl w1.heap.size _ _ rfl rfl ?_)
          all_goals
            refine bodyPost_ret (v := .agg #[.int .i64 b, .int .i64 q, .slice (some ⟨w1.heap.size, 0, none⟩) 0 0]) (by simp [results, Try.results18, go_sem, c10, c11, c12]) rfl ?_
            rw [hr.out]
            first | exact ⟨_, 0, rfl, Nat.le_refl _, Or.inl rfl, BL.out⟩ | exact ⟨_, ⟨0, rfl⟩, Nat.le_refl _, Or.inl rfl, BL.out⟩
        · have hlt : k < l.length := by omega
          have hlt2 : k < cap := by omega
          obtain ⟨b9, off, rfl, hc9⟩ := HE (by intro e; rw [e] at hlt; simp at hlt)
          obtain ⟨i0, hi, hz0, hz1, hzb⟩ := info_parts toEnt_info
          have hown0 : W2.ownsRow w1.heap.size 69 3 (.slice (some ⟨w1.heap.size, 0, none⟩) 0 0) 0 [] := ⟨by simp, Or.inr ⟨w1.heap.size, 0, #[], rfl, Nat.le_refl _, hx9, by omega, by unfold maxLen; omega, by simp, by simp⟩⟩
          have hnews : ∀ j u, (entCells (l.drop k))[j]? = some u → W2.cell? ((⟨b9, off + k * 3, none⟩ : Addr).add j) = some u := by
            obtain ⟨b8, off8, e8, hc8⟩ := HE.drop k (by intro e; have := congrArg List.length e; simp at this; omega)
            cases e8
            exact ents_cells hc8
          have hlen : (l.drop k).length = l.length - k := by simp
          have hcl : (entCells (l.drop k)).length = (l.length - k) * 3 := by rw [entCells_length, hlen]
          have hone := entCells_one (l.drop k)
          have hbs : w1.heap.size ≤ W2.heap.size := hbE.size
          have HZ := hid (And.intro Z1 (And.intro Z2 (And.intro B2 (And.intro Y1.lt Y2.lt))))
          have HWB := hid (And.intro hw1 hbE)
          have HLE := hid hlen
          obtain ⟨EC, hEC⟩ : ∃ EC, entCells (l.drop k) = EC := ⟨_, rfl⟩
          rw [hEC] at hnews hcl hone
          have HEC := hid hEC
          clear b1 B1 Y0 Y1 Y2 Z1 Z2 HB HX0 HX1 HX2 X0 X1 X2 CO CL CI CT hbE hx9 HE B2 hw1 hz2 hc9 hlen hEC HA
          have HF : Hid (∀ W3 : World, W2.grownBy W3 (some w1.heap.size) → (W3.cell? ⟨w.heap.size + 1, 0, none⟩ = some (.int .i64 0) ∧ W3.cell? ⟨w.heap.size + 1, 1, none⟩ = some (.int .i64 0) ∧ W3.cell? ⟨w.heap.size + 1, 2, none⟩ = some (.slice none 0 0)) ∧ (W3.cell? ⟨w.heap.size + 1 + 1, 0, none⟩ = some (.int .i64 b) ∧ W3.cell? ⟨w.heap.size + 1 + 1, 1, none⟩ = some (.int .i64 q) ∧ W3.cell? ⟨w.heap.size + 1 + 1, 2, none⟩ = some (.slice none 0 0)) ∧ (W3.frozen? ⟨w.heap.size + 1, 0, none⟩ = false ∧ W3.frozen? ⟨w.heap.size + 1, 1, none⟩ = false ∧ W3.frozen? ⟨w.heap.size + 1, 2, none⟩ = false ∧ W3.frozen? ⟨w.heap.size + 1 + 1, 2, none⟩ = false) ∧ Hid (Below w1.heap.size W2 W3)) := by
            intro W3 hgrow
            obtain ⟨Z1, Z2, B2, hsz1, hz2⟩ := HZ.out
            obtain ⟨hw1, hbE⟩ := HWB.out
            have hB3 : Below w1.heap.size W2 W3 := (Below.refl _ W2).grown hgrow hbE.size (fun j hj => by cases hj; exact Nat.le_refl _)
            have V1 := Z1.on hB3 hsz1
            have V2 := Z2.on hB3 hz2
            exact ⟨⟨V1.cell (j := 0) rfl, V1.cell (j := 1) rfl, V1.cell (j := 2) rfl⟩, ⟨V2.cell (j := 0) rfl, V2.cell (j := 1) rfl, V2.cell (j := 2) rfl⟩, ⟨V1.thaw 0, V1.thaw 1, V1.thaw 2, V2.thaw 2⟩, hB3⟩
          go_wp2_with (at_builtin; refine wpList_append_lies _ rfl (.tmp 28) (.tmp 35) 30 rfl w1.heap.size 69 i0 _ 3 32 Try.underlying30 hi hz0 hz1 hzb rfl (by decide) _ 0 _ rfl hown0 ⟨b9, off + k * 3, none⟩ (l.length - k) (cap - k) EC rfl hcl hnews hone (by omega) (by unfold maxLen; omega) (by omega) hbs _ rfl ?_; intro va vc W3 hrow hgrow hat hlt3; obtain ⟨⟨c10, c11, c12⟩, ⟨c20, c21, c22⟩, ⟨f10, f11, f12, f22⟩, HB3⟩ := HF.out W3 hgrow)
          obtain ⟨Z1, Z2, B2, hsz1, hz2⟩ := HZ.out
          obtain ⟨hw1, hbE⟩ := HWB.out
          rw [Nat.zero_add, List.nil_append, ← HEC.out, ← HLE.out] at hrow
          obtain ⟨va', vc', hv, hcp, hown⟩ := own_of_row hrow
          cases hv
          rw [HLE.out] at hown hcp
          have B3 := B2.trans (HB3.out.mono hw1)
          have BL := hid ((((B3.setCell (p := ⟨w.heap.size + 1 + 1, 2, none⟩) (by show _ ≤ _ + 1 + 1; omega) (.slice (some ⟨va, 0, none⟩) (l.length - k) vc)).setCell (p := ⟨w.heap.size + 1, 0, none⟩) (by show _ ≤ _ + 1; omega) (.int .i64 b)).setCell (p := ⟨w.heap.size + 1, 1, none⟩) (by show _ ≤ _ + 1; omega) (.int .i64 q)).setCell (p := ⟨w.heap.size + 1, 2, none⟩) (by show _ ≤ _ + 1; omega) (.slice (some ⟨va, 0, none⟩) (l.length - k) vc))
          have HO := hid ((((hown.far (b := w.heap.size + 1 + 1) (j := 2) hz2 (.slice (some ⟨va, 0, none⟩) (l.length - k) vc)).far (b := w.heap.size + 1) (j := 0) hsz1 (.int .i64 b)).far (b := w.heap.size + 1) (j := 1) hsz1 (.int .i64 q)).far (b := w.heap.size + 1) (j := 2) hsz1 (.slice (some ⟨va, 0, none⟩) (l.length - k) vc))
          refine bodyPost_ret (v := .agg #[.int .i64 b, .int .i64 q, .slice (some ⟨va, 0, none⟩) (l.length - k) vc]) (by simp [results, Try.results18, go_sem, c10, c11, c12]) rfl ?_
          rw [hr.out, HLE.out]
          first | exact ⟨_, vc, rfl, hcp, HO.out.down hw1 (Nat.le_refl _), BL.out⟩ | exact ⟨_, ⟨vc, rfl⟩, hcp, HO.out.down hw1 (Nat.le_refl _), BL.out⟩
      · have hr := hid (behindAns_none (s := s) (t := t) (l := l) (b := b) (tm := tm) (by simp [hq, hT]))
        clear hI hO hbd hq
        refine wp_region_quiet_below (by kernel_rfl) (by kernel_rfl) ?_
        repeat (first | go_big_quiet_step (first | (go_at_call 39; exact CO.out _ _) | (go_at_call 45; exact CL.out _ _) | (go_at_call 15; exact CI.out _ _) | (go_at_call 19; exact CT.out _ _) | fail) | quiet_step (first | (go_at_call 39; exact CO.out _ _) | (go_at_call 45; exact CL.out _ _) | (go_at_call 15; exact CI.out _ _) | (go_at_call 19; exact CT.out _ _) | fail))
        refine wpQuiet_nil ?_
        intro _ hw'
        obtain ⟨⟨dq, osq⟩, hw''⟩ := hw'
        subst hw''
        have b1 := below_regrown W dq osq
        generalize grow (redrawn W dq) osq = w1 at b1 ⊢
        have B1 := below_via HB.out b1
        have Y1 := HX1.out.on b1 HX1.out.lt
        have Y2 := HX2.out.on b1 HX2.out.lt
        have c10 := Y1.cell (j := 0) rfl
        have c11 := Y1.cell (j := 1) rfl
        have c12 := Y1.cell (j := 2) rfl
        have c20 := Y2.cell (j := 0) rfl
        have c21 := Y2.cell (j := 1) rfl
        have c22 := Y2.cell (j := 2) rfl
        have f10 := Y1.thaw 0
        have f11 := Y1.thaw 1
        have f12 := Y1.thaw 2
        have BL := hid (((B1.setCell (p := ⟨w.heap.size + 1, 0, none⟩) (by show _ ≤ _ + 1; omega) (.int .i64 b)).setCell (p := ⟨w.heap.size + 1, 1, none⟩) (by show _ ≤ _ + 1; omega) (.int .i64 tm)).setCell (p := ⟨w.heap.size + 1, 2, none⟩) (by show _ ≤ _ + 1; omega) (.slice none 0 0))
        clear b1 B1 Y1 Y2 HB HX0 HX1 HX2 X0 X1 X2 CO CL CI CT
        go_wp2
        refine bodyPost_ret (v := .agg #[.int .i64 b, .int .i64 tm, .slice none 0 0]) (by simp [results, Try.results18, go_sem, c10, c11, c12]) rfl ?_
        rw [hr.out]
        exact ⟨none, 0, rfl, Nat.le_refl _, Or.inl rfl, BL.out⟩
theorem specLogBehind_any (s t b tm : Int) (ao : Option Addr) (l : List EntD) (cap : Nat) (hl : l.length ≤ 1048576) (hsm : ∀ f ∈ l, f.data.size ≤ 1048576) (hcap : l.length ≤ cap) (w : World) (ha : EntsAt w ao l) :
    Calls Try.prog 18 #[.agg #[.int .i64 s, .int .i64 t, .slice ao l.length cap], .int .i64 b, .int .i64 tm] w fun e w' => ∃ vo vc, e = .returned (.agg #[.int .i64 b, .int .i64 tm, .slice vo (behindAns s t l b tm).length vc]) ∧ OwnAt w' 69 (entCells (behindAns s t l b tm)) (behindAns s t l b tm).length vo w.heap.size w'.heap.size ∧ Below w.heap.size w w' :=
  (specLogBehind_cap s t b tm ao l cap hl hsm hcap w ha).mono fun _ _ ⟨vo, vc, h1, _, h2⟩ => ⟨vo, vc, h1, h2⟩
end Go.Proofs.Ytglibbpigmpanaa
