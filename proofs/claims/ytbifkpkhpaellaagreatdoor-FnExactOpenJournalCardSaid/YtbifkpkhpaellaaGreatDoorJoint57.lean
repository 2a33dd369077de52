/-
  The walks of impl.entriesUpTo, impl.LogPut: what they answer.
  The walk of strings.HasPrefix with the one byte that an entry begins with: what it answers.
-/
import Derived.Test.YtbifkpkhpaellaaGreatDoorJoint54
import Derived.Test.YtbifkpkhpaellaaGreatDoorJoint52
import Derived.Test.YtbifkpkhpaellaaGreatDoorJoint13
import Derived.ArgAppend
import Derived.Test.YtbifkpkhpaellaaGreatDoorRows
import Derived.Test.YtbifkpkhpaellaaGreatDoorJoint1
import Derived.WalkSmall
import Derived.WalkKit
namespace Go.Proofs.YtbifkpkhpaellaaGreatDoor
open Go.RowKit

set_option maxRecDepth 1000000 in
set_option maxHeartbeats 1000000 in
theorem entriesUpTo_any (s t i : Int) (k : Nat) (ao : Option Addr) (l : List EntD) (cap : Nat) (hik : i - s = (k : Int)) (hk : k ≤ l.length) (hl : l.length ≤ 1048576) (hcap : l.length ≤ cap) (w : World) :
    Calls Tryz.prog 119 #[.agg #[.int .i64 s, .int .i64 t, .slice ao l.length cap], .int .i64 i] w fun e w' => e = .returned (.slice ao k k) ∧ Below w.heap.size w w' := by
  have HB := hid (below_more (Below.refl w.heap.size w) (.cells #[.int .i64 s, .int .i64 t, .slice ao l.length cap] 28))
  have hx : BlockIs (w.alloc (.cells #[.int .i64 s, .int .i64 t, .slice ao l.length cap] 28)) w.heap.size 28 [.int .i64 s, .int .i64 t, .slice ao l.length cap] := heap_alloc_new w _
  obtain ⟨W, hW⟩ : ∃ W, w.alloc (.cells #[.int .i64 s, .int .i64 t, .slice ao l.length cap] 28) = W := ⟨_, rfl⟩
  rw [hW] at HB hx
  have c0 := hx.cell (j := 0) rfl
  have c2 := hx.cell (j := 2) rfl
  clear hx
  have hkc : k ≤ cap := by omega
  go_enter Tryz.func119, Tryz.ntmps119
  go_wp2
  all_goals
    go_ret
    exact ⟨by simp, HB.out⟩

/-- one entry behind a list that has no room -/
theorem append_grow {W : World} {ao : Option Addr} {L0 : List EntD} {d : EntD} {g : Nat} (hL : L0.length ≤ 1048576) (hE : EntsAt W ao L0) (hg : BlockIs W g 110 (entEnc d)) :
    ∃ v' W', (Builtin.append_ #[26, 26] 26 #[.slice ao L0.length L0.length, .slice (some ⟨g, 0, none⟩) 1 1]).run Tryz.prog W = .ok v' W' ∧ W'.ownsRow W.heap.size 110 3 v' (L0.length + 1) (entCells L0 ++ entEnc d) ∧ W.grownBy W' none := by
  obtain ⟨i0, hi, hz0, hz1, hz2⟩ := info_parts toEnt_info
  have hnews : ∀ j u, (entEnc d)[j]? = some u → W.cell? ((⟨g, 0, none⟩ : Addr).add j) = some u := by
    intro j u hu
    rw [Addr.add_lit, Nat.zero_add]
    exact hg.cell hu
  have hone : ∀ u ∈ entEnc d, u.oneCell' = true := by
    intro u hu
    simp only [entEnc, List.mem_cons, List.not_mem_nil, or_false] at hu
    rcases hu with rfl | rfl | rfl <;> rfl
  cases ao with
  | some b =>
    have holds : ∀ j u, (entCells L0)[j]? = some u → W.cell? (b.add j) = some u := by
      by_cases hne : L0 = []
      · subst hne
        intro j u hu
        simp [entCells] at hu
      · obtain ⟨b', off, e, hc⟩ := hE hne
        cases e
        exact ents_cells hc
    exact run_append_arg_grows (P := Tryz.prog) W 26 26 110 i0 _ 3 32 Tryz.underlying26 hi hz0 hz1 hz2 rfl (by decide) b L0.length L0.length (entCells L0) (entCells_length L0) holds ⟨g, 0, none⟩ 1 1 (entEnc d) rfl hnews (by omega) (by unfold maxLen; omega) (by omega)
  | none =>
    have hne : L0 = [] := by
      by_cases hne : L0 = []
      · exact hne
      · obtain ⟨b, off, e, _⟩ := hE hne
        cases e
    subst hne
    obtain ⟨v', W', h1, h2, h3, _⟩ := run_append_own (P := Tryz.prog) W W.heap.size 26 26 110 i0 _ 3 32 Tryz.underlying26 hi hz0 hz1 hz2 rfl (by decide) (.slice none 0 0) 0 [] (World.ownsRow_nil W _ _ 3) ⟨g, 0, none⟩ 1 1 (entEnc d) rfl hnews hone (by unfold maxLen; omega) (by omega) (Nat.le_refl _)
    exact ⟨v', W', h1, h2, h3⟩

set_option maxRecDepth 1000000 in
set_option maxHeartbeats 1000000 in
theorem implLogPut_any (s t i : Int) (d : EntD) (ao : Option Addr) (l : List EntD) (cap : Nat) (hs : -9223372036854775808 ≤ s ∧ s ≤ 9223372036854775807) (hl : l.length ≤ 1048576) (hsm : ∀ f ∈ l, f.data.size ≤ 1048576) (hdd : d.data.size ≤ 1048576) (hcap : l.length ≤ cap) (w : World) (ha : EntsAt w ao l) :
    Calls Tryz.prog 97 #[.agg #[.int .i64 s, .int .i64 t, .slice ao l.length cap], .int .i64 i, .agg #[.int .i64 d.term, .int .i64 d.kind, .string d.data]] w (PutDid w (putAns s t l i d).1.1 (putAns s t l i d).1.2.1 (putAns s t l i d).1.2.2 (putAns s t l i d).2) := by
  have HA := hid ha
  have HSM := hid hsm
  have h3 := four_log w (.cells #[.int .i64 s, .int .i64 t, .slice ao l.length cap] 28) (.cells #[.int .i64 d.term, .int .i64 d.kind, .string d.data] 110) (.cells #[.int .i64 0, .int .i64 0, .slice none 0 0] 28)
  obtain ⟨hb0, hx0', hx1', hx2'⟩ := h3
  have HB := hid hb0
  have HX0 := hid (show BlockIs _ w.heap.size 28 [.int .i64 s, .int .i64 t, .slice ao l.length cap] from hx0')
  have HX1 := hid (show BlockIs _ (w.heap.size + 1) 110 [.int .i64 d.term, .int .i64 d.kind, .string d.data] from hx1')
  have HX2 := hid (show BlockIs _ (w.heap.size + 1 + 1) 28 [.int .i64 0, .int .i64 0, .slice none 0 0] from hx2')
  clear ha hb0 hx0' hx1' hx2' hsm
  go_enter Tryz.func97, Tryz.ntmps97
  go_wp2_with fail
  refine (implLogLast_any s t hs ao l cap (by omega) _ (HA.out.on HB.out)).mono ?_
  rintro e w0 ⟨rfl, b0⟩
  have B0 := hid (below_via HB.out b0)
  have Z0 := hid (HX0.out.on b0 HX0.out.lt)
  have Z1 := hid (HX1.out.on b0 HX1.out.lt)
  have Z2 := hid (HX2.out.on b0 HX2.out.lt)
  have z00 := Z0.out.cell (j := 0) rfl
  have z01 := Z0.out.cell (j := 1) rfl
  have z02 := Z0.out.cell (j := 2) rfl
  have CO' := implLogOk_any s t ao l cap hl w0 (HA.out.on B0.out)
  clear b0 HB HX0 HX1 HX2
  generalize lastT t l = tl
  cases hO : logOk s t l with
  | false =>
    have hr := hid (putAns_no (s := s) (t := t) (l := l) (i := i) (e := d) (by simp [hO]))
    rw [hO] at CO'
    have CO := hid CO'
    clear CO' hO
    generalize wrap64 (s + l.length) = ws
    go_wp2_with fail
    refine Calls.mono CO.out ?_
    rintro e w1 ⟨rfl, b1⟩
    have B1 := hid (below_via B0.out b1)
    have Y0 := hid (Z0.out.on b1 Z0.out.lt)
    have Y1 := hid (Z1.out.on b1 Z1.out.lt)
    have Y2 := hid (Z2.out.on b1 Z2.out.lt)
    have d00 := Y0.out.cell (j := 0) rfl
    have d01 := Y0.out.cell (j := 1) rfl
    have d02 := Y0.out.cell (j := 2) rfl
    clear b1 CO z00 z01 z02 B0 Z0 Z1 Z2
    have c20 := Y2.out.cell (j := 0) rfl
    have c21 := Y2.out.cell (j := 1) rfl
    have c22 := Y2.out.cell (j := 2) rfl
    have f20 := Y2.out.thaw 0
    have f21 := Y2.out.thaw 1
    have f22 := Y2.out.thaw 2
    have BL := hid (((B1.out.setCell (p := ⟨w.heap.size + 1 + 1, 0, none⟩) (by show _ ≤ _ + 1 + 1; omega) (.int .i64 0)).setCell (p := ⟨w.heap.size + 1 + 1, 1, none⟩) (by show _ ≤ _ + 1 + 1; omega) (.int .i64 0)).setCell (p := ⟨w.heap.size + 1 + 1, 2, none⟩) (by show _ ≤ _ + 1 + 1; omega) (.slice none 0 0))
    clear d00 d01 d02
    go_wp2
    refine bodyPost_ret (v := .tuple #[.agg #[.int .i64 0, .int .i64 0, .slice none 0 0], .bool false]) (by simp [results, Tryz.results97, go_sem, c20, c21, c22]) rfl ?_
    rw [hr.out]
    exact putDid_no rfl BL.out
  | true =>
  have hbd := logOk_iff.1 hO
  rw [IntWalk.wrap64_in (s + l.length) (by omega)]
  rw [hO] at CO'
  have CO := hid CO'
  clear CO'
  by_cases h1 : i ≤ s
  · have hr := hid (putAns_no (s := s) (t := t) (l := l) (i := i) (e := d) (fun q => by have := within_iff.1 q.2.1; omega))
    clear hO hbd
    go_wp2_with fail
    refine Calls.mono CO.out ?_
    rintro e w1 ⟨rfl, b1⟩
    have B1 := hid (below_via B0.out b1)
    have Y0 := hid (Z0.out.on b1 Z0.out.lt)
    have Y1 := hid (Z1.out.on b1 Z1.out.lt)
    have Y2 := hid (Z2.out.on b1 Z2.out.lt)
    have d00 := Y0.out.cell (j := 0) rfl
    have d01 := Y0.out.cell (j := 1) rfl
    have d02 := Y0.out.cell (j := 2) rfl
    clear b1 CO z00 z01 z02 B0 Z0 Z1 Z2
    have c20 := Y2.out.cell (j := 0) rfl
    have c21 := Y2.out.cell (j := 1) rfl
    have c22 := Y2.out.cell (j := 2) rfl
    have f20 := Y2.out.thaw 0
    have f21 := Y2.out.thaw 1
    have f22 := Y2.out.thaw 2
    have BL := hid (((B1.out.setCell (p := ⟨w.heap.size + 1 + 1, 0, none⟩) (by show _ ≤ _ + 1 + 1; omega) (.int .i64 0)).setCell (p := ⟨w.heap.size + 1 + 1, 1, none⟩) (by show _ ≤ _ + 1 + 1; omega) (.int .i64 0)).setCell (p := ⟨w.heap.size + 1 + 1, 2, none⟩) (by show _ ≤ _ + 1 + 1; omega) (.slice none 0 0))
    go_wp2
    refine bodyPost_ret (v := .tuple #[.agg #[.int .i64 0, .int .i64 0, .slice none 0 0], .bool false]) (by simp [results, Tryz.results97, go_sem, c20, c21, c22]) rfl ?_
    rw [hr.out]
    exact putDid_no rfl BL.out
  by_cases h2 : s + l.length + 1 < i
  · have hr := hid (putAns_no (s := s) (t := t) (l := l) (i := i) (e := d) (fun q => by have := within_iff.1 q.2.1; omega))
    clear hO
    go_wp2_with fail
    refine Calls.mono CO.out ?_
    rintro e w1 ⟨rfl, b1⟩
    have B1 := hid (below_via B0.out b1)
    have Y0 := hid (Z0.out.on b1 Z0.out.lt)
    have Y1 := hid (Z1.out.on b1 Z1.out.lt)
    have Y2 := hid (Z2.out.on b1 Z2.out.lt)
    have d00 := Y0.out.cell (j := 0) rfl
    have d01 := Y0.out.cell (j := 1) rfl
    have d02 := Y0.out.cell (j := 2) rfl
    clear b1 CO z00 z01 z02 B0 Z0 Z1 Z2
    have c20 := Y2.out.cell (j := 0) rfl
    have c21 := Y2.out.cell (j := 1) rfl
    have c22 := Y2.out.cell (j := 2) rfl
    have f20 := Y2.out.thaw 0
    have f21 := Y2.out.thaw 1
    have f22 := Y2.out.thaw 2
    have BL := hid (((B1.out.setCell (p := ⟨w.heap.size + 1 + 1, 0, none⟩) (by show _ ≤ _ + 1 + 1; omega) (.int .i64 0)).setCell (p := ⟨w.heap.size + 1 + 1, 1, none⟩) (by show _ ≤ _ + 1 + 1; omega) (.int .i64 0)).setCell (p := ⟨w.heap.size + 1 + 1, 2, none⟩) (by show _ ≤ _ + 1 + 1; omega) (.slice none 0 0))
    go_wp2
    refine bodyPost_ret (v := .tuple #[.agg #[.int .i64 0, .int .i64 0, .slice none 0 0], .bool false]) (by simp [results, Tryz.results97, go_sem, c20, c21, c22]) rfl ?_
    rw [hr.out]
    exact putDid_no rfl BL.out
  have hI : within i (s + 1) (s + l.length + 1) = true := within_iff.2 (by omega)
  go_wp2_with fail
  refine Calls.mono CO.out ?_
  rintro e w1 ⟨rfl, b1⟩
  have B1 := hid (below_via B0.out b1)
  have Y0 := hid (Z0.out.on b1 Z0.out.lt)
  have Y1 := hid (Z1.out.on b1 Z1.out.lt)
  have Y2 := hid (Z2.out.on b1 Z2.out.lt)
  have d00 := Y0.out.cell (j := 0) rfl
  have d01 := Y0.out.cell (j := 1) rfl
  have d02 := Y0.out.cell (j := 2) rfl
  clear b1 CO z00 z01 z02 B0 Z0 Z1 Z2
  obtain ⟨k, hk⟩ : ∃ k : Nat, (i - s - 1).toNat = k := ⟨_, rfl⟩
  have hik : i - 1 - s = (k : Int) := by omega
  have hkl : k ≤ l.length := by omega
  have hi1 : IntKind.i64.wrap (i - 1) = i - 1 := by rw [IntKind.wrap_i64]; omega
  have htk : (l.take k).length = k := by simp; omega
  go_wp2
  refine wp_region_each (N := 54) (by kernel_rfl) (by kernel_rfl) rfl (by kernel_rfl) (fun W => Below w1.heap.size w1 W) (fun j v _ W => match j with | 0 => v = .agg #[.int .i64 s, .int .i64 t, .slice ao l.length cap] | 1 => v = .int .i64 i | 2 => v = .int .i64 (i - 1) | 3 => v = .slice ao k k | 4 => v = .agg #[.int .i64 d.term, .int .i64 d.kind, .string d.data] | 5 => ∃ g, v = .slice (some ⟨g, 0, none⟩) 1 1 ∧ BlockIs W g 110 (entEnc d) | 6 => ∃ va vc, v = .slice va (l.take k ++ [d]).length vc ∧ (l.take k ++ [d]).length ≤ vc ∧ OwnAt W 110 (entCells (l.take k ++ [d])) (l.take k ++ [d]).length va w1.heap.size W.heap.size | 7 => ∃ va vc, v = .slice va (l.take k ++ [d]).length vc ∧ (l.take k ++ [d]).length ≤ vc ∧ OwnAt W 110 (entCells (l.take k ++ [d])) (l.take k ++ [d]).length va w1.heap.size W.heap.size | _ => True) (fun i => i) (fun _ _ => false) (fun _ x y => Below x.heap.size x y) (fun _ => 0) (by kernel_rfl) (fun _ _ => rfl) ?_ (below_drewN (Below.refl _ _) 1) ?_ ?_
  · intro i j v u x y hij hdd hwt hxy hg
    match j, hg with
    | 0, hg => exact hg
    | 1, hg => exact hg
    | 2, hg => exact hg
    | 3, hg => exact hg
    | 4, hg => exact hg
    | 5, hg =>
      obtain ⟨g, e1, e2⟩ := hg
      exact ⟨g, e1, e2.on hxy e2.lt⟩
    | 6, hg =>
      obtain ⟨va, vc, e1, e2, e3⟩ := hg
      exact ⟨va, vc, e1, e2, (e3.on hxy).down (Nat.le_refl _) hxy.size⟩
    | 7, hg =>
      obtain ⟨va, vc, e1, e2, e3⟩ := hg
      exact ⟨va, vc, e1, e2, (e3.on hxy).down (Nat.le_refl _) hxy.size⟩
    | n + 8, _ => exact trivial
  · refine ⟨?_, ?_, ?_, ?_, ?_, ?_, ?_, ?_, trivial⟩
    · intro A W hC hg hb
      have h3 : A.eval (.tmp 3) = .pointer (some ⟨w.heap.size, 0, none⟩) := hb 3 (base_of (by kernel_rfl))
      have hc0 := (Y0.out.on hC Y0.out.lt).cell (j := 0) rfl
      have hc1 := (Y0.out.on hC Y0.out.lt).cell (j := 1) rfl
      have hc2 := (Y0.out.on hC Y0.out.lt).cell (j := 2) rfl
      exact does_value (v := .agg #[.int .i64 s, .int .i64 t, .slice ao l.length cap]) (w' := W) (by simp only [execOp, h3]; simp [go_sem, hc0, hc1, hc2]) ⟨rfl, hC, Below.refl _ _⟩
    · intro A W hC hg hb
      have h1 : A.eval (.tmp 1) = .int .i64 i := hb 1 (base_of (by kernel_rfl))
      exact does_value (v := .int .i64 i) (w' := W) (by simp only [execOp, h1]; simp [go_sem]) ⟨rfl, hC, Below.refl _ _⟩
    · intro A W hC hg hb
      have h34 : A.eval (.tmp 34) = .int .i64 i := hg 1 34 (by decide) rfl (by simp [Op.operands]) (by kernel_rfl) rfl
      exact does_value (v := .int .i64 (i - 1)) (w' := W) (by simp only [execOp, h34]; simp [go_sem, hi1]) ⟨rfl, hC, Below.refl _ _⟩
    · intro A W hC hg hb
      have h33 : A.eval (.tmp 33) = .agg #[.int .i64 s, .int .i64 t, .slice ao l.length cap] := hg 0 33 (by decide) rfl (by simp [Op.operands, Call.operands]) (by kernel_rfl) rfl
      have h35 : A.eval (.tmp 35) = .int .i64 (i - 1) := hg 2 35 (by decide) rfl (by simp [Op.operands, Call.operands]) (by kernel_rfl) rfl
      simp [go_sem] at h33 h35
      refine does_enter (f := 119) (args := #[.agg #[.int .i64 s, .int .i64 t, .slice ao l.length cap], .int .i64 (i - 1)]) (w' := W) (by simp [go_sem, h33, h35]) ?_
      refine (entriesUpTo_any s t (i - 1) k ao l cap hik (by omega) hl hcap W).mono ?_
      rintro e W' ⟨rfl, hb'⟩
      exact ⟨_, rfl, rfl, below_via hC hb', hb'⟩
    · intro A W hC hg hb
      have h5 : A.eval (.tmp 5) = .pointer (some ⟨w.heap.size + 1, 0, none⟩) := hb 5 (base_of (by kernel_rfl))
      have hc0 := (Y1.out.on hC Y1.out.lt).cell (j := 0) rfl
      have hc1 := (Y1.out.on hC Y1.out.lt).cell (j := 1) rfl
      have hc2 := (Y1.out.on hC Y1.out.lt).cell (j := 2) rfl
      exact does_value (v := .agg #[.int .i64 d.term, .int .i64 d.kind, .string d.data]) (w' := W) (by simp only [execOp, h5]; simp [go_sem, hc0, hc1, hc2]) ⟨rfl, hC, Below.refl _ _⟩
    · intro A W hC hg hb
      have h37 : A.eval (.tmp 37) = .agg #[.int .i64 d.term, .int .i64 d.kind, .string d.data] := hg 4 37 (by decide) rfl (by simp [Op.operands]) (by kernel_rfl) rfl
      simp [go_sem] at h37
      exact does_value (v := .slice (some ⟨W.heap.size, 0, none⟩) 1 1) (w' := W.alloc (.cells #[.int .i64 d.term, .int .i64 d.kind, .string d.data] 110)) (by simp [execOp, go_sem, h37]) ⟨⟨_, rfl, heap_alloc_new W _⟩, below_more hC _, below_more (Below.refl _ W) _⟩
    · intro A W hC hg hb
      have h36 : A.eval (.tmp 36) = .slice ao k k := hg 3 36 (by decide) rfl (by simp [Op.operands, Call.operands]) (by kernel_rfl) rfl
      have g5 := hg 5 38 (by decide) rfl (by simp [Op.operands, Call.operands]) (by kernel_rfl) rfl
      obtain ⟨g, h38, hbl⟩ := g5
      obtain ⟨v', W', hr, h2, h3⟩ := append_grow (L0 := l.take k) (by omega) ((HA.out.on (below_via B1.out hC)).take k) hbl
      have hbw : Below W.heap.size W W' := (Below.refl _ W).grown h3 (Nat.le_refl _) (fun j hj => by cases hj)
      obtain ⟨va, vc, rfl, hvc, ho⟩ := own_of_row (l := l.take k ++ [d]) (by rw [entCells_snoc, List.length_append]; exact h2)
      rw [htk] at hr
      exact does_value (v := .slice va (l.take k ++ [d]).length vc) (w' := W') (by simp only [execOp, resolve, invoke, builtin, Sem.run_bind, Sem.run_pure, Result.andThen_ok, List.map_toArray, List.map_cons, List.map_nil, h36, h38, hr]) ⟨⟨va, vc, rfl, hvc, ho.down hC.size (Nat.le_refl _)⟩, below_via hC hbw, hbw⟩
    · intro A W hC hg hb
      have g6 := hg 6 39 (by decide) rfl (by simp [Op.operands]) (by kernel_rfl) rfl
      obtain ⟨va, vc, h39, hvc, ho⟩ := g6
      exact does_value (v := .slice va (l.take k ++ [d]).length vc) (w' := W) (by simp only [execOp, h39]; simp [go_sem]) ⟨⟨va, vc, rfl, hvc, ho⟩, hC, Below.refl _ _⟩
  · intro vs W' hC hg
    obtain ⟨va, vc, hu, hvc, ho⟩ := hg 7 (by decide) (fun k => rfl)
    clear hg
    change Exit.then _ _ _ (laidBy _ vs _ 8 _) W'
    simp only [laidBy, if_true, dstAt, List.getElem?_toArray, List.getElem?_cons_succ, List.getElem?_cons_zero, Option.bind_some]
    simp only [Act.put, List.setIfInBounds_toArray, List.set_cons_succ, List.set_cons_zero]
    rw [hu]
    clear hu
    have hPY := hid (fun h2 => putAns_yes (s := s) (t := t) (l := l) (i := i) (e := d) hO hI h2)
    have hPN := hid (fun (h2 : ¬ logOk s t (l.take (i - s - 1).toNat ++ [d]) = true) => putAns_no (s := s) (t := t) (l := l) (i := i) (e := d) (fun q => h2 q.2.2))
    rw [hk] at hPY hPN
    have hLs : ∀ f ∈ l.take k ++ [d], f.data.size ≤ 1048576 := by
      intro f hf
      rcases List.mem_append.1 hf with hf | hf
      · exact HSM.out f (List.mem_of_mem_take hf)
      · rw [List.mem_singleton.1 hf]; exact hdd
    have hLl : (l.take k ++ [d]).length ≤ 1048576 := by simp; omega
    obtain ⟨L, hL⟩ : ∃ L, l.take k ++ [d] = L := ⟨_, rfl⟩
    rw [hL] at ho hvc hPY hPN hLs hLl ⊢
    have U0 := hid (Y0.out.on hC Y0.out.lt)
    have U2 := hid (Y2.out.on hC Y2.out.lt)
    have B2 := hid (below_via B1.out hC)
    have hp := heap_alloc_new W' (.cells #[.int .i64 s, .int .i64 t, .slice va L.length vc] 28)
    have hbp := below_more (Below.refl W'.heap.size W') (.cells #[.int .i64 s, .int .i64 t, .slice va L.length vc] 28)
    have HP := hid (And.intro hbp (show BlockIs _ W'.heap.size 28 [.int .i64 s, .int .i64 t, .slice va L.length vc] from hp))
    have HO := hid ho
    have HLS := hid hLs
    have u0 := U0.out.cell (j := 0) rfl
    have u1 := U0.out.cell (j := 1) rfl
    have CF' := implLogOk_any s t va L vc hLl _ (ho.ents.on hbp)
    clear hC ho hbd hI hO hk hik hi1 htk hkl hLs Y0 Y1 Y2 B1 hcap hdd hL hp hbp d00 d01 d02
    cases hQ : logOk s t L with
    | false =>
      have hr := hid (hPN.out (by rw [hQ]; simp))
      rw [hQ] at CF'
      have CF := hid CF'
      clear CF' hPY hPN hQ
      go_wp2_with fail
      with_reducible refine Calls.mono CF.out ?_
      rintro e w3 ⟨rfl, b3⟩
      have bb := below_via HP.out.1 b3
      have B3 := hid (below_via B2.out bb)
      have V2 := hid (U2.out.on bb U2.out.lt)
      clear b3 bb CF
      have c20 := V2.out.cell (j := 0) rfl
      have c21 := V2.out.cell (j := 1) rfl
      have c22 := V2.out.cell (j := 2) rfl
      have f20 := V2.out.thaw 0
      have f21 := V2.out.thaw 1
      have f22 := V2.out.thaw 2
      have BL := hid (((B3.out.setCell (p := ⟨w.heap.size + 1 + 1, 0, none⟩) (by show _ ≤ _ + 1 + 1; omega) (.int .i64 0)).setCell (p := ⟨w.heap.size + 1 + 1, 1, none⟩) (by show _ ≤ _ + 1 + 1; omega) (.int .i64 0)).setCell (p := ⟨w.heap.size + 1 + 1, 2, none⟩) (by show _ ≤ _ + 1 + 1; omega) (.slice none 0 0))
      clear u0 u1
      go_wp2
      refine bodyPost_ret (v := .tuple #[.agg #[.int .i64 0, .int .i64 0, .slice none 0 0], .bool false]) (by simp [results, Tryz.results97, go_sem, c20, c21, c22]) rfl ?_
      rw [hr.out]
      exact putDid_no rfl BL.out
    | true =>
      have hr := hid (hPY.out hQ)
      rw [hQ] at CF'
      have CF := hid CF'
      clear CF' hPY hPN hQ
      go_wp2_with fail
      with_reducible refine Calls.mono CF.out ?_
      rintro e w3 ⟨rfl, b3⟩
      have bb := below_via HP.out.1 b3
      have B3 := hid (below_via B2.out bb)
      have V2 := hid (U2.out.on bb U2.out.lt)
      have K3 := hid (HP.out.2.on b3 HP.out.2.lt)
      have HE3 := hid (HO.out.ents.on bb)
      have hzz := hid U2.out.lt
      clear b3 bb CF u0 u1
      go_wp2_with fail
      refine (copiedEntries_any va L vc hLl HLS.out w3 HE3.out).mono ?_
      rintro e w4 ⟨rfl, k4, b4⟩
      have B4 := below_via B3.out b4
      have Q2 := V2.out.on b4 V2.out.lt
      have Q3 := K3.out.on b4 K3.out.lt
      have q0 := Q3.cell (j := 0) rfl
      have q1 := Q3.cell (j := 1) rfl
      have q2 := Q3.cell (j := 2) rfl
      have fq2 := Q3.thaw 2
      have c20 := Q2.cell (j := 0) rfl
      have c21 := Q2.cell (j := 1) rfl
      have c22 := Q2.cell (j := 2) rfl
      have f20 := Q2.thaw 0
      have f21 := Q2.thaw 1
      have f22 := Q2.thaw 2
      have hn3 : W'.heap.size ≠ w3.heap.size := by have := K3.out.lt; omega
      have hn2 : w.heap.size + 1 + 1 ≠ w3.heap.size := by have := V2.out.lt; omega
      have hww : w.heap.size ≤ W'.heap.size := B2.out.size
      have BL := hid ((((B4.setCell (p := ⟨W'.heap.size, 2, none⟩) hww (.slice (some ⟨w3.heap.size, 0, none⟩) L.length L.length)).setCell (p := ⟨w.heap.size + 1 + 1, 0, none⟩) (by show _ ≤ _ + 1 + 1; omega) (.int .i64 s)).setCell (p := ⟨w.heap.size + 1 + 1, 1, none⟩) (by show _ ≤ _ + 1 + 1; omega) (.int .i64 t)).setCell (p := ⟨w.heap.size + 1 + 1, 2, none⟩) (by show _ ≤ _ + 1 + 1; omega) (.slice (some ⟨w3.heap.size, 0, none⟩) L.length L.length))
      have KL := hid ((((k4.far (j := 2) hn3 (.slice (some ⟨w3.heap.size, 0, none⟩) L.length L.length)).far (j := 0) hn2 (.int .i64 s)).far (j := 1) hn2 (.int .i64 t)).far (j := 2) hn2 (.slice (some ⟨w3.heap.size, 0, none⟩) L.length L.length))
      have hXY : W'.heap.size ≠ w.heap.size + 1 + 1 := by have := hzz.out; omega
      have HSZ := hid (B3.out.size)
      clear b4 B4 Q2 Q3 k4 hn2 hn3 hww
      go_wp2
      refine bodyPost_ret (v := .tuple #[.agg #[.int .i64 s, .int .i64 t, .slice (some ⟨w3.heap.size, 0, none⟩) L.length L.length], .bool true]) (by simp [results, Tryz.results97, go_sem, c20, c21, c22]) rfl ?_
      rw [hr.out]
      exact ⟨_, _, rfl, Nat.le_refl _, own_of_ents HSZ.out KL.out, BL.out⟩
end Go.Proofs.YtbifkpkhpaellaaGreatDoor

namespace Go.Proofs.YtbifkpkhpaellaaGreatDoor
open Go.RowKit

/-- a text begins as an entry does -/
def headE (s : ByteArray) : Bool := match s.data.toList with
  | [] => false
  | h :: _ => decide (h = 69)
theorem headE_empty {s : ByteArray} (h : s.size = 0) : headE s = false := by
  have : s.data.toList = [] := List.eq_nil_of_length_eq_zero (by simpa using h)
  rw [headE, this]
theorem headE_at {s : ByteArray} (h : 0 < s.size) : headE s = decide (s[0] = 69) := by
  rw [headE, list_head s h]
theorem headE_list {s : ByteArray} (h : 0 < s.size) : ((s.extract 0 1).toList == [69]) = headE s := by
  rw [ByteArray.toList_eq, extract_eq, headE_at h, List.drop_zero, list_head s h]
  by_cases q : s[0] = 69
  · simp [q]
  · simp [q]
theorem slice_one {P : Program} {t : TypeId} (h : P.underlying t = some .string) (s : ByteArray) (ha : 1 ≤ s.size) (w : World) :
    (Instr.slice t (.string s) none (some (.int .i64 1)) none).run P w = .ok (.string (s.extract 0 1)) w := by
  rw [run_slice_string_h w t s h .i64 1 (by omega) (by omega)]
  rfl

set_option maxRecDepth 1000000 in
theorem litePrefix_any (s : ByteArray) (w : World) :
    Calls Tryz.prog 135 #[.string s, .string ⟨#[69]⟩] w fun e w' => e = .returned (.bool (headE s)) ∧ w' = w := by
  by_cases h0 : 1 ≤ s.size
  · have h1 : 1 ≤ (s.size : Int) := by omega
    have hs := slice_one (P := Tryz.prog) Tryz.underlying9 s h0
    have hh := headE_list (s := s) (by omega)
    obtain ⟨T, hT⟩ : ∃ T, s.extract 0 1 = T := ⟨_, rfl⟩
    rw [hT] at hs hh
    clear hT
    go_enter Tryz.func135, Tryz.ntmps135
    go_wp2
    go_ret
    refine ⟨?_, rfl⟩
    first | rw [← hh]; rfl | simp [← hh]
  · have h1 : ¬ 1 ≤ (s.size : Int) := by omega
    have hr := headE_empty (s := s) (by omega)
    go_enter Tryz.func135, Tryz.ntmps135
    go_wp2
    go_ret
    exact ⟨by first | rfl | (rw [hr]; rfl), rfl⟩

theorem prefix_any (s : ByteArray) (w : World) :
    Calls Tryz.prog 113 #[.string s, .string ⟨#[69]⟩] w fun e w' => e = .returned (.bool (headE s)) ∧ w' = w := by
  go_enter Tryz.func113, Tryz.ntmps113
  go_wp2_with (go_at_call 135; refine (litePrefix_any s _).mono ?_; rintro e w' ⟨rfl, hw⟩; rw [hw]; clear hw w')
  go_ret
  exact ⟨rfl, rfl⟩
end Go.Proofs.YtbifkpkhpaellaaGreatDoor
