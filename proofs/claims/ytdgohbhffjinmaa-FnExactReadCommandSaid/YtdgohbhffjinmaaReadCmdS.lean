/-
  The walk of spec.ReadCommand: what it answers.
-/
import Derived.Test.YtdgohbhffjinmaaCur16S
import Derived.Test.YtdgohbhffjinmaaCmdTextX
import Derived.Test.YtdgohbhffjinmaaPlainReadCmd
import Derived.Test.YtdgohbhffjinmaaAnyOrder
import Derived.Test.YtdgohbhffjinmaaGrownBlk
namespace Go.Proofs.Ytdgohbhffjinmaa
open Go.RowKit Go.Sort

theorem nSt_is {s : ByteArray} {o : Option Nat} (h : ∀ k, o = some k → k ≤ s.size) : st16 s o = nSt s o ∧ nu16 s o = nVal s o := by
  cases o with
  | none => exact ⟨rfl, rfl⟩
  | some k =>
    simp only [st16, nSt, nu16, nVal, numAt]
    cases hv : rv (s.data.toList.drop k) with
    | none => simp
    | some p =>
      obtain ⟨n, c⟩ := p
      have := (rv_fits (h k rfl) hv).1
      simp [if_pos this]
theorem tSt_is (s : ByteArray) (o : Option Nat) : ss16 s o = tSt s o ∧ sx16 s o = tVal s o := by
  cases o with
  | none => exact ⟨rfl, rfl⟩
  | some k =>
    simp only [ss16, tSt, sx16, tVal, txtAt]
    cases rs s (k : Int) with
    | none => exact ⟨rfl, rfl⟩
    | some p => exact ⟨rfl, rfl⟩
theorem l16Var_n (b : Nat) (s : ByteArray) (hs : s.size ≤ 1048576) (o : Option Nat) (w : World) (hc : St16 w b s o) :
    Calls Try.prog 18 #[.pointer (some ⟨b, 0, none⟩)] w fun e w' => e = .returned (.int .i64 (nVal s o : Int)) ∧ St16 w' b s (nSt s o) ∧ w.grownBy w' (some b) := by
  have h := nSt_is (s := s) (o := o) (fun k e => by obtain ⟨j, hj, _, hk⟩ := hc; rw [← hk k e]; exact hj)
  rw [← h.1, ← h.2]
  exact l16Var_any b s hs o w hc
theorem l16ReadShort_n (b : Nat) (s : ByteArray) (hs : s.size ≤ 1048576) (o : Option Nat) (w : World) (hc : St16 w b s o) :
    Calls Try.prog 19 #[.pointer (some ⟨b, 0, none⟩)] w fun e w' => e = .returned (.string (tVal s o)) ∧ St16 w' b s (tSt s o) ∧ w.grownBy w' (some b) := by
  have h := tSt_is s o
  rw [← h.1, ← h.2]
  exact l16ReadShort_any b s hs o w hc
theorem st_grown {w w' : World} {b r : Nat} {s : ByteArray} {o : Option Nat} (h : St16 w b s o) (hg : w.grownBy w' (some r)) (hr : b ≠ r) : St16 w' b s o := by
  obtain ⟨k, e1, e2, e3⟩ := h
  exact ⟨k, e1, blk_grown e2 hg hr, e3⟩
theorem st_far {w : World} {b q j : Nat} {s : ByteArray} {o : Option Nat} (h : St16 w b s o) (hr : q ≠ b) (v : Value) : St16 (w.setCell ⟨q, j, none⟩ v) b s o := by
  obtain ⟨k, e1, e2, e3⟩ := h
  exact ⟨k, e1, BlockIs.far e2 hr v, e3⟩
theorem st_on {w w' : World} {b : Nat} {s : ByteArray} {o : Option Nat} (h : St16 w b s o) (hb : Below w.heap.size w w') : St16 w' b s o := by
  obtain ⟨k, e1, e2, e3⟩ := h
  exact ⟨k, e1, BlockIs.on e2 hb (BlockIs.lt e2), e3⟩

set_option maxRecDepth 1000000 in
set_option maxHeartbeats 4000000 in
theorem specReadCommand_any (s : ByteArray) (hs : s.size ≤ 1048576) (w : World) : Calls Try.prog 6 #[.string s] w fun e w' => e = .returned (readCmdAns s) ∧ Below w.heap.size w w' := by
  by_cases h0 : s.size = 0
  · have HN : Hid (readCmdAns s = .tuple #[.agg #[.int .i64 0, .int .i64 0, .int .i64 0, .string ⟨#[]⟩, .string ⟨#[]⟩, .int .i64 0], .bool false]) := (show _ = _ by
      have hb : byteAt s 0 = none := by unfold byteAt; rw [List.getElem?_eq_none (by simpa using h0)]
      rw [readCmdAns, readCmdD, readCmd_empty hb]; rfl)
    have he : (s.toList == []) = true := by rw [empty_text, decide_eq_true h0]
    have P0 : Hid (BlockIs (w.alloc (.cells #[.int .i64 0, .int .i64 0, .int .i64 0, .string ⟨#[]⟩, .string ⟨#[]⟩, .int .i64 0] 23)) w.heap.size 23 [.int .i64 0, .int .i64 0, .int .i64 0, .string ⟨#[]⟩, .string ⟨#[]⟩, .int .i64 0]) := heap_alloc_new w _
    have B0 := hid (below_more (Below.refl w.heap.size w) (.cells #[.int .i64 0, .int .i64 0, .int .i64 0, .string ⟨#[]⟩, .string ⟨#[]⟩, .int .i64 0] 23))
    obtain ⟨W, hW⟩ : ∃ W, w.alloc (.cells #[.int .i64 0, .int .i64 0, .int .i64 0, .string ⟨#[]⟩, .string ⟨#[]⟩, .int .i64 0] 23) = W := ⟨_, rfl⟩
    rw [hW] at P0 B0
    have p0 := P0.out.cell (j := 0) rfl
    have p1 := P0.out.cell (j := 1) rfl
    have p2 := P0.out.cell (j := 2) rfl
    have p3 := P0.out.cell (j := 3) rfl
    have p4 := P0.out.cell (j := 4) rfl
    have p5 := P0.out.cell (j := 5) rfl
    have pf0 := P0.out.thaw 0
    have pf1 := P0.out.thaw 1
    have pf2 := P0.out.thaw 2
    have pf3 := P0.out.thaw 3
    have pf4 := P0.out.thaw 4
    have pf5 := P0.out.thaw 5
    go_enter Try.func6, Try.ntmps6
    go_wp2
    have PZ := ((((((P0.out).set 0 (.int .i64 0)).set 1 (.int .i64 0)).set 2 (.int .i64 0)).set 3 (.string ⟨#[]⟩)).set 4 (.string ⟨#[]⟩)).set 5 (.int .i64 0)
    have BZ := ((((((B0.out).setCell (p := ⟨w.heap.size, 0, none⟩) (Nat.le_refl _) (.int .i64 0)).setCell (p := ⟨w.heap.size, 1, none⟩) (Nat.le_refl _) (.int .i64 0)).setCell (p := ⟨w.heap.size, 2, none⟩) (Nat.le_refl _) (.int .i64 0)).setCell (p := ⟨w.heap.size, 3, none⟩) (Nat.le_refl _) (.string ⟨#[]⟩)).setCell (p := ⟨w.heap.size, 4, none⟩) (Nat.le_refl _) (.string ⟨#[]⟩)).setCell (p := ⟨w.heap.size, 5, none⟩) (Nat.le_refl _) (.int .i64 0)
    have z0 := PZ.cell (j := 0) rfl
    have z1 := PZ.cell (j := 1) rfl
    have z2 := PZ.cell (j := 2) rfl
    have z3 := PZ.cell (j := 3) rfl
    have z4 := PZ.cell (j := 4) rfl
    have z5 := PZ.cell (j := 5) rfl
    refine bodyPost_ret (v := .tuple #[.agg #[.int .i64 0, .int .i64 0, .int .i64 0, .string ⟨#[]⟩, .string ⟨#[]⟩, .int .i64 0], .bool false]) (by simp [results, Try.results6, go_sem, z0, z1, z2, z3, z4, z5]) rfl ?_
    exact ⟨by rw [HN.out], BZ⟩
  have hne : (s.toList == []) = false := by rw [empty_text, decide_eq_false h0]
  have i0 : 0 < s.size := by omega
  have hb255 : (s[0].toNat : Int) ≤ 255 := by have := s[0].toNat_lt; omega
  have hby : byteAt s 0 = some (s[0].toNat, 1) := by unfold byteAt; rw [List.getElem?_eq_getElem (by simpa using i0)]; rfl
  have hask := ask_cmd hby
  obtain ⟨b0, hx0⟩ : ∃ b : Nat, s[0].toNat = b := ⟨_, rfl⟩
  rw [hx0] at hb255 hask
  have hw0b : IntKind.i64.wrap (b0 : Int) = (b0 : Int) := by rw [IntKind.wrap_i64]; omega
  have D1' := fun W h => l16Var_n (w.heap.size + 1) s hs (some 1) W h
  obtain ⟨N1, hN1⟩ : ∃ x, nVal s (some 1) = x := ⟨_, rfl⟩
  obtain ⟨o1, ho1⟩ : ∃ x, nSt s (some 1) = x := ⟨_, rfl⟩
  rw [hN1, ho1] at D1'
  have D2' := fun W h => l16Var_n (w.heap.size + 1) s hs o1 W h
  obtain ⟨N2, hN2⟩ : ∃ x, nVal s o1 = x := ⟨_, rfl⟩
  obtain ⟨o2, ho2⟩ : ∃ x, nSt s o1 = x := ⟨_, rfl⟩
  rw [hN2, ho2] at D2'
  have D3' := fun W h => l16ReadShort_n (w.heap.size + 1) s hs o2 W h
  obtain ⟨T3, hT3⟩ : ∃ x, tVal s o2 = x := ⟨_, rfl⟩
  obtain ⟨o3, ho3⟩ : ∃ x, tSt s o2 = x := ⟨_, rfl⟩
  rw [hT3, ho3] at D3'
  have D4' := fun W h => l16ReadShort_n (w.heap.size + 1) s hs o3 W h
  obtain ⟨T4, hT4⟩ : ∃ x, tVal s o3 = x := ⟨_, rfl⟩
  obtain ⟨o4, ho4⟩ : ∃ x, tSt s o3 = x := ⟨_, rfl⟩
  rw [hT4, ho4] at D4'
  have D5' := fun W h => l16Var_n (w.heap.size + 1) s hs o4 W h
  obtain ⟨N5, hN5⟩ : ∃ x, nVal s o4 = x := ⟨_, rfl⟩
  obtain ⟨o5, ho5⟩ : ∃ x, nSt s o4 = x := ⟨_, rfl⟩
  rw [hN5, ho5] at D5'
  have hc5 : cmd5 s b0 = ⟨b0, N1, N2, T3, T4, N5⟩ := by simp only [cmd5, hN1, ho1, hN2, ho2, hT3, ho3, hT4, ho4, hN5]
  have he5 : end5 s = o5 := by simp only [end5, ho1, ho2, ho3, ho4, ho5]
  unfold askCmd at hask
  rw [hc5, he5] at hask
  have HA := hid hask
  have D1 := hid D1'
  have D2 := hid D2'
  have D3 := hid D3'
  have D4 := hid D4'
  have D5 := hid D5'
  clear D1' D2' D3' D4' D5' hN1 ho1 hN2 ho2 hT3 ho3 hT4 ho4 hN5 ho5 hc5 he5 hask hby h0
  have h2 := two_blocks w (.cells #[.int .i64 0, .int .i64 0, .int .i64 0, .string ⟨#[]⟩, .string ⟨#[]⟩, .int .i64 0] 23) (.cells #[.string s, .int .i64 1, .bool false] 45)
  have P0 : Hid (BlockIs _ w.heap.size 23 [.int .i64 0, .int .i64 0, .int .i64 0, .string ⟨#[]⟩, .string ⟨#[]⟩, .int .i64 0]) := h2.2.2.1
  have S0 : Hid (St16 _ (w.heap.size + 1) s (some 1)) := ⟨1, by omega, h2.2.2.2, fun j e => by cases e; rfl⟩
  have B0 := hid h2.1
  have HNB : Hid ((w.heap.size + 1) ≤ ((w.alloc (.cells #[.int .i64 0, .int .i64 0, .int .i64 0, .string ⟨#[]⟩, .string ⟨#[]⟩, .int .i64 0] 23)).alloc (.cells #[.string s, .int .i64 1, .bool false] 45)).heap.size) := (show _ ≤ _ by rw [h2.2.1]; omega)
  have hlt0 := P0.out.lt
  clear h2
  obtain ⟨W0, hW0⟩ : ∃ W, (w.alloc (.cells #[.int .i64 0, .int .i64 0, .int .i64 0, .string ⟨#[]⟩, .string ⟨#[]⟩, .int .i64 0] 23)).alloc (.cells #[.string s, .int .i64 1, .bool false] 45) = W := ⟨_, rfl⟩
  rw [hW0] at P0 S0 B0 HNB hlt0
  go_enter Try.func6, Try.ntmps6
  go_wp2
  refine wp_region_from (N := 52) (by kernel_rfl) (by kernel_rfl) rfl (by kernel_rfl) (fun W => Below (w.heap.size + 1) W0 W) (fun j v u W => match j with | 0 => v = .string s | 1 => v = .int .u8 (b0 : Int) | 2 => v = .int .i64 (b0 : Int) | 3 => v = .pointer (some ⟨(w.heap.size + 1), 0, none⟩) | 4 => v = .int .i64 (N1 : Int) ∧ St16 W (w.heap.size + 1) s o1 | 5 => v = .agg #[.int .i64 (b0 : Int), .int .i64 (N1 : Int), .int .i64 0, .string ⟨#[]⟩, .string ⟨#[]⟩, .int .i64 0] | 6 => ∃ X, v = .pointer (some ⟨X, 0, none⟩) ∧ W0.heap.size ≤ X ∧ BlockIs W X 23 [.int .i64 0, .int .i64 0, .int .i64 0, .string ⟨#[]⟩, .string ⟨#[]⟩, .int .i64 0] | 7 => ∃ X, u = .pointer (some ⟨X, 0, none⟩) ∧ W0.heap.size ≤ X ∧ BlockIs W X 23 [.int .i64 (b0 : Int), .int .i64 (N1 : Int), .int .i64 0, .string ⟨#[]⟩, .string ⟨#[]⟩, .int .i64 0] | _ => True) (fun i => if i = 7 then 6 else i) (fun j i => decide ((j, i) ∈ ([(6, 7)] : List (Nat × Nat)))) (fun i x y => x.heap.size ≤ y.heap.size ∧ ∀ g ty cs, BlockIs x g ty cs → (i = 7 → ty ≠ 23) → (i = 4 → ty ≠ 45) → BlockIs y g ty cs) (fun q9 W => match q9 with | 0 => St16 W (w.heap.size + 1) s (some 1) | _ => True) (fun m k => decide ((m, k) ∈ ([(0, 4)] : List (Nat × Nat)))) ?_ (fun i => if i = 7 then 5 else 0) (by kernel_rfl) (fun i hi => by have : 8 ≤ i := hi; simp; omega) ?_ (below_drewN (Below.refl _ _) 1) (fun q9 => match q9 with | 0 => S0.out | _ + 1 => trivial) ?_ ?_
  · intro i m x y hen hxy hm
    match m, hen, hm with
    | 0, hen, hm =>
      obtain ⟨k, e2, e3, e4⟩ := hm
      simp at hen
      exact ⟨k, e2, hxy.2 _ _ _ e3 (fun _ => by decide) (fun e => absurd e hen), e4⟩
    | n + 1, _, _ => exact trivial
  · intro i j v u x y hij hdd hwt hxy hg
    match j, hg with
    | 0, hg => exact hg
    | 1, hg => exact hg
    | 2, hg => exact hg
    | 3, hg => exact hg
    | 4, hg =>
      obtain ⟨e1, k, e2, e3, e4⟩ := hg
      exact ⟨e1, k, e2, hxy.2 _ _ _ e3 (fun _ => by decide) (fun e => absurd e hij), e4⟩
    | 5, hg => exact hg
    | 6, hg =>
      obtain ⟨X, e1, e2, e3⟩ := hg
      simp at hdd
      exact ⟨X, e1, e2, hxy.2 _ _ _ e3 (fun e => absurd e hdd) (fun _ => by decide)⟩
    | 7, hg =>
      obtain ⟨X, e1, e2, e3⟩ := hg
      exact ⟨X, e1, e2, hxy.2 _ _ _ e3 (fun e => absurd e hij) (fun _ => by decide)⟩
    | n + 8, _ => exact trivial
  · refine ⟨?_, ?_, ?_, ?_, ?_, ?_, ?_, ?_, trivial⟩
    · intro A W hC hI hg hb
      have h0 : A.eval (.tmp 0) = .string s := hb 0 (base_of (by kernel_rfl))
      exact does_value (v := .string s) (w' := W) (by simp only [execOp, h0]; simp [go_sem]) ⟨rfl, hC, Nat.le_refl _, fun _ _ _ h _ _ => h⟩
    · intro A W hC hI hg hb
      have h14 : A.eval (.tmp 14) = .string s := hg 0 14 (by decide) rfl (by simp [Op.operands]) (by kernel_rfl) rfl
      exact does_value (v := .int .u8 (b0 : Int)) (w' := W) (by simp only [execOp, h14]; simp [go_sem, i0, hx0]) ⟨rfl, hC, Nat.le_refl _, fun _ _ _ h _ _ => h⟩
    · intro A W hC hI hg hb
      have h15 : A.eval (.tmp 15) = .int .u8 (b0 : Int) := hg 1 15 (by decide) rfl (by simp [Op.operands]) (by kernel_rfl) rfl
      exact does_value (v := .int .i64 (b0 : Int)) (w' := W) (by simp only [execOp, h15]; simp [go_sem, hw0b]) ⟨rfl, hC, Nat.le_refl _, fun _ _ _ h _ _ => h⟩
    · intro A W hC hI hg hb
      have h4 : A.eval (.tmp 4) = .pointer (some ⟨(w.heap.size + 1), 0, none⟩) := hb 4 (base_of (by kernel_rfl))
      exact does_value (v := .pointer (some ⟨(w.heap.size + 1), 0, none⟩)) (w' := W) (by simp only [execOp, h4]; simp [go_sem]) ⟨rfl, hC, Nat.le_refl _, fun _ _ _ h _ _ => h⟩
    · intro A W hC hI hg hb
      have h17 : A.eval (.tmp 17) = .pointer (some ⟨(w.heap.size + 1), 0, none⟩) := hg 3 17 (by decide) rfl (by simp [Op.operands, Call.operands]) (by kernel_rfl) rfl
      simp [go_sem] at h17
      have hst := hI 0 (by decide)
      change St16 W (w.heap.size + 1) s (some 1) at hst
      refine does_enter (f := 18) (args := #[.pointer (some ⟨(w.heap.size + 1), 0, none⟩)]) (w' := W) (by simp [go_sem, h17]) ?_
      refine (D1.out W hst).mono ?_
      rintro e w3 ⟨rfl, hs3, hg3⟩
      refine ⟨_, rfl, ⟨rfl, hs3⟩, below_grown hC hg3 (Nat.le_refl _) (Nat.le_trans HNB.out hC.size), hg3.size, fun q ty cs hq _ hn => blk_grown hq hg3 (fun e => by subst e; obtain ⟨k, _, hk, _⟩ := hst; exact hn rfl (block_one hq hk).1)⟩
    · intro A W hC hI hg hb
      have h16 : A.eval (.tmp 16) = .int .i64 (b0 : Int) := hg 2 16 (by decide) rfl (by simp [Op.operands]) (by kernel_rfl) rfl
      have g4 := hg 4 18 (by decide) rfl (by simp [Op.operands]) (by kernel_rfl) rfl
      obtain ⟨h18, _⟩ := g4
      simp [go_sem] at h16 h18
      exact does_value (v := .agg #[.int .i64 (b0 : Int), .int .i64 (N1 : Int), .int .i64 0, .string ⟨#[]⟩, .string ⟨#[]⟩, .int .i64 0]) (w' := W) (by simp [execOp, go_sem, h16, h18]) ⟨rfl, hC, Nat.le_refl _, fun _ _ _ h _ _ => h⟩
    · intro A W hC hI hg hb
      have hbm := below_more (Below.refl W.heap.size W) (.cells #[.int .i64 0, .int .i64 0, .int .i64 0, .string ⟨#[]⟩, .string ⟨#[]⟩, .int .i64 0] 23)
      exact does_value (v := .pointer (some ⟨W.heap.size, 0, none⟩)) (w' := W.alloc (.cells #[.int .i64 0, .int .i64 0, .int .i64 0, .string ⟨#[]⟩, .string ⟨#[]⟩, .int .i64 0] 23)) (by simp [execOp, go_sem]) ⟨⟨_, rfl, hC.size, heap_alloc_new W _⟩, hC.trans (hbm.mono (Nat.le_trans HNB.out hC.size)), hbm.size, fun _ _ _ h _ _ => h.on hbm h.lt⟩
    · intro A W hC hI hg hb
      have g6 := hg 6 5 (by decide) rfl (by simp [Op.operands]) (by kernel_rfl) rfl
      have h19 : A.eval (.tmp 19) = .agg #[.int .i64 (b0 : Int), .int .i64 (N1 : Int), .int .i64 0, .string ⟨#[]⟩, .string ⟨#[]⟩, .int .i64 0] := hg 5 19 (by decide) rfl (by simp [Op.operands]) (by kernel_rfl) rfl
      obtain ⟨X, h5, hlo, hX⟩ := g6
      have c0 := hX.cell (j := 0) rfl
      have c1 := hX.cell (j := 1) rfl
      have c2 := hX.cell (j := 2) rfl
      have c3 := hX.cell (j := 3) rfl
      have c4 := hX.cell (j := 4) rfl
      have c5 := hX.cell (j := 5) rfl
      have f0 := hX.thaw 0
      have f1 := hX.thaw 1
      have f2 := hX.thaw 2
      have f3 := hX.thaw 3
      have f4 := hX.thaw 4
      have f5 := hX.thaw 5
      have hX6 : BlockIs ((((((W.setCell ⟨X, 0, none⟩ (.int .i64 (b0 : Int))).setCell ⟨X, 1, none⟩ (.int .i64 (N1 : Int))).setCell ⟨X, 2, none⟩ (.int .i64 0)).setCell ⟨X, 3, none⟩ (.string ⟨#[]⟩)).setCell ⟨X, 4, none⟩ (.string ⟨#[]⟩)).setCell ⟨X, 5, none⟩ (.int .i64 0)) X 23 [.int .i64 (b0 : Int), .int .i64 (N1 : Int), .int .i64 0, .string ⟨#[]⟩, .string ⟨#[]⟩, .int .i64 0] := ((((((hX).set 0 (.int .i64 (b0 : Int))).set 1 (.int .i64 (N1 : Int))).set 2 (.int .i64 0)).set 3 (.string ⟨#[]⟩)).set 4 (.string ⟨#[]⟩)).set 5 (.int .i64 0)
      refine does_skip (w' := ((((((W.setCell ⟨X, 0, none⟩ (.int .i64 (b0 : Int))).setCell ⟨X, 1, none⟩ (.int .i64 (N1 : Int))).setCell ⟨X, 2, none⟩ (.int .i64 0)).setCell ⟨X, 3, none⟩ (.string ⟨#[]⟩)).setCell ⟨X, 4, none⟩ (.string ⟨#[]⟩)).setCell ⟨X, 5, none⟩ (.int .i64 0))) (by simp only [execOp, h5, h19]; simp [go_sem, c0, c1, c2, c3, c4, c5, f0, f1, f2, f3, f4, f5]) ⟨⟨X, h5, hlo, hX6⟩, ((((((hC).setCell (Nat.le_trans HNB.out hlo) _).setCell (Nat.le_trans HNB.out hlo) _).setCell (Nat.le_trans HNB.out hlo) _).setCell (Nat.le_trans HNB.out hlo) _).setCell (Nat.le_trans HNB.out hlo) _).setCell (Nat.le_trans HNB.out hlo) _, by simp [World.size_setCell], fun q ty cs hq hne _ => ?_⟩
      have hqX : X ≠ q := by intro e; subst e; exact hne rfl (block_one hq hX).1
      exact ((((((hq).far hqX _).far hqX _).far hqX _).far hqX _).far hqX _).far hqX _
  intro vs w5 hC _ hg
  obtain ⟨X, hX4, hlo, hbl⟩ := hg 7 (by decide) (fun k => by simp)
  change vs 6 = _ at hX4
  have hst := (hg 4 (by decide) (fun k => by simp)).2
  clear hg
  have X5 := hid hbl
  have P5 := hid (P0.out.on hC (Nat.lt_succ_self _))
  have B5 := hid (B0.out.trans (hC.mono (Nat.le_succ _)))
  have S5 := hid hst
  have hnX : w.heap.size + 1 < X := by have := HNB.out; obtain ⟨k, _, hk, _⟩ := S0.out; have := BlockIs.lt hk; omega
  change Exit.then _ _ _ (laidBy _ vs _ 8 _) w5
  simp only [laidBy, if_true, dstAt, List.getElem?_toArray, List.getElem?_cons_succ, List.getElem?_cons_zero, Option.bind_some]
  simp only [Act.put, List.setIfInBounds_toArray, List.set_cons_succ, List.set_cons_zero]
  rw [hX4]
  clear hX4 hC hbl hst P0 S0 B0 hW0 HNB hlt0 hlo D1
  go_wp2_with fail
  refine (D2.out _ S5.out).mono ?_
  rintro e u6 ⟨rfl, hs6, hg⟩
  have Xa := blk_grown X5.out hg (by omega)
  have Pa := blk_grown P5.out hg (by omega)
  have Ba := below_grown B5.out hg (by omega) B5.out.size
  have c := Xa.cell (j := 2) rfl
  have f := Xa.thaw 2
  have X6 := hid (Xa.set 2 (.int .i64 (N2 : Int)))
  have P6 := hid (Pa.far (b := X) (j := 2) (by omega) (.int .i64 (N2 : Int)))
  have S6 := hid (st_far hs6 (show X ≠ w.heap.size + 1 by omega) (j := 2) (.int .i64 (N2 : Int)))
  have B6 := hid (Ba.setCell (p := ⟨X, 2, none⟩) (show w.heap.size ≤ X by omega) (.int .i64 (N2 : Int)))
  clear hs6 hg Xa Pa Ba X5 P5 S5 B5 D2
  go_wp2_with fail
  refine (D3.out _ S6.out).mono ?_
  rintro e u7 ⟨rfl, hs7, hg⟩
  have Xa := blk_grown X6.out hg (by omega)
  have Pa := blk_grown P6.out hg (by omega)
  have Ba := below_grown B6.out hg (by omega) B6.out.size
  have c := Xa.cell (j := 3) rfl
  have f := Xa.thaw 3
  have X7 := hid (Xa.set 3 (.string T3))
  have P7 := hid (Pa.far (b := X) (j := 3) (by omega) (.string T3))
  have S7 := hid (st_far hs7 (show X ≠ w.heap.size + 1 by omega) (j := 3) (.string T3))
  have B7 := hid (Ba.setCell (p := ⟨X, 3, none⟩) (show w.heap.size ≤ X by omega) (.string T3))
  clear hs7 hg Xa Pa Ba X6 P6 S6 B6 D3
  go_wp2_with fail
  refine (D4.out _ S7.out).mono ?_
  rintro e u8 ⟨rfl, hs8, hg⟩
  have Xa := blk_grown X7.out hg (by omega)
  have Pa := blk_grown P7.out hg (by omega)
  have Ba := below_grown B7.out hg (by omega) B7.out.size
  have c := Xa.cell (j := 4) rfl
  have f := Xa.thaw 4
  have X8 := hid (Xa.set 4 (.string T4))
  have P8 := hid (Pa.far (b := X) (j := 4) (by omega) (.string T4))
  have S8 := hid (st_far hs8 (show X ≠ w.heap.size + 1 by omega) (j := 4) (.string T4))
  have B8 := hid (Ba.setCell (p := ⟨X, 4, none⟩) (show w.heap.size ≤ X by omega) (.string T4))
  clear hs8 hg Xa Pa Ba X7 P7 S7 B7 D4
  go_wp2_with fail
  refine (D5.out _ S8.out).mono ?_
  rintro e u9 ⟨rfl, hs9, hg⟩
  have Xa := blk_grown X8.out hg (by omega)
  have Pa := blk_grown P8.out hg (by omega)
  have Ba := below_grown B8.out hg (by omega) B8.out.size
  have c := Xa.cell (j := 5) rfl
  have f := Xa.thaw 5
  have X9 := hid (Xa.set 5 (.int .i64 (N5 : Int)))
  have P9 := hid (Pa.far (b := X) (j := 5) (by omega) (.int .i64 (N5 : Int)))
  have S9 := hid (st_far hs9 (show X ≠ w.heap.size + 1 by omega) (j := 5) (.int .i64 (N5 : Int)))
  have B9 := hid (Ba.setCell (p := ⟨X, 5, none⟩) (show w.heap.size ≤ X by omega) (.int .i64 (N5 : Int)))
  clear hs9 hg Xa Pa Ba X8 P8 S8 B8 D5
  have y0 := X9.out.cell (j := 0) rfl
  have y1 := X9.out.cell (j := 1) rfl
  have y2 := X9.out.cell (j := 2) rfl
  have y3 := X9.out.cell (j := 3) rfl
  have y4 := X9.out.cell (j := 4) rfl
  have y5 := X9.out.cell (j := 5) rfl
  go_wp2_with fail
  refine (specCommandText_any ⟨(b0 : Int), (N1 : Int), (N2 : Int), T3, T4, (N5 : Int)⟩ _).mono ?_
  rintro e u10 ⟨rfl, b10⟩
  have X10 := hid (X9.out.on b10 X9.out.lt)
  have P10 := hid (P9.out.on b10 P9.out.lt)
  have S10 := hid (st_on S9.out b10)
  have B10 := hid (below_via B9.out b10)
  clear b10 X9 P9 S9 B9 y0 y1 y2 y3 y4 y5 c f
  obtain ⟨k9, hk9, hcu, _⟩ := S10.out
  have cb := BlockIs.cell hcu (j := 2) rfl
  clear hcu
  have p0 := P10.out.cell (j := 0) rfl
  have p1 := P10.out.cell (j := 1) rfl
  have p2 := P10.out.cell (j := 2) rfl
  have p3 := P10.out.cell (j := 3) rfl
  have p4 := P10.out.cell (j := 4) rfl
  have p5 := P10.out.cell (j := 5) rfl
  have pf0 := P10.out.thaw 0
  have pf1 := P10.out.thaw 1
  have pf2 := P10.out.thaw 2
  have pf3 := P10.out.thaw 3
  have pf4 := P10.out.thaw 4
  have pf5 := P10.out.thaw 5
  have y0 := X10.out.cell (j := 0) rfl
  have y1 := X10.out.cell (j := 1) rfl
  have y2 := X10.out.cell (j := 2) rfl
  have y3 := X10.out.cell (j := 3) rfl
  have y4 := X10.out.cell (j := 4) rfl
  have y5 := X10.out.cell (j := 5) rfl
  cases ho : o5 with
  | none =>
    rw [ho] at cb HA
    have ha : ∃ T ok, cmdAns ⟨(b0 : Int), (N1 : Int), (N2 : Int), T3, T4, (N5 : Int)⟩ = .tuple #[.string T, .bool ok] := by unfold cmdAns; split <;> exact ⟨_, _, rfl⟩
    obtain ⟨T, ok, ha⟩ := ha
    rw [ha]
    clear ha ho
    have HN : Hid (readCmdAns s = .tuple #[.agg #[.int .i64 0, .int .i64 0, .int .i64 0, .string ⟨#[]⟩, .string ⟨#[]⟩, .int .i64 0], .bool false]) := (show _ = _ by
      have hq : readCmd s = none := by rw [← HA.out]; exact if_neg (by simp)
      rw [readCmdAns, readCmdD, hq]; rfl)
    go_wp2
    have PZ := ((((((P10.out).set 0 (.int .i64 0)).set 1 (.int .i64 0)).set 2 (.int .i64 0)).set 3 (.string ⟨#[]⟩)).set 4 (.string ⟨#[]⟩)).set 5 (.int .i64 0)
    have BZ := ((((((B10.out).setCell (p := ⟨w.heap.size, 0, none⟩) (Nat.le_refl _) (.int .i64 0)).setCell (p := ⟨w.heap.size, 1, none⟩) (Nat.le_refl _) (.int .i64 0)).setCell (p := ⟨w.heap.size, 2, none⟩) (Nat.le_refl _) (.int .i64 0)).setCell (p := ⟨w.heap.size, 3, none⟩) (Nat.le_refl _) (.string ⟨#[]⟩)).setCell (p := ⟨w.heap.size, 4, none⟩) (Nat.le_refl _) (.string ⟨#[]⟩)).setCell (p := ⟨w.heap.size, 5, none⟩) (Nat.le_refl _) (.int .i64 0)
    have z0 := PZ.cell (j := 0) rfl
    have z1 := PZ.cell (j := 1) rfl
    have z2 := PZ.cell (j := 2) rfl
    have z3 := PZ.cell (j := 3) rfl
    have z4 := PZ.cell (j := 4) rfl
    have z5 := PZ.cell (j := 5) rfl
    refine bodyPost_ret (v := .tuple #[.agg #[.int .i64 0, .int .i64 0, .int .i64 0, .string ⟨#[]⟩, .string ⟨#[]⟩, .int .i64 0], .bool false]) (by simp [results, Try.results6, go_sem, z0, z1, z2, z3, z4, z5]) rfl ?_
    exact ⟨by rw [HN.out], BZ⟩
  | some k6 =>
    rw [ho] at cb HA
    clear ho
    cases hok : commandOk ⟨(b0 : Int), (N1 : Int), (N2 : Int), T3, T4, (N5 : Int)⟩ with
    | false =>
      have ha : cmdAns ⟨(b0 : Int), (N1 : Int), (N2 : Int), T3, T4, (N5 : Int)⟩ = .tuple #[.string ByteArray.empty, .bool false] := by unfold cmdAns; rw [hok]; rfl
      rw [ha]
      have HK := hid hok
      clear ha hok
      have HN : Hid (readCmdAns s = .tuple #[.agg #[.int .i64 0, .int .i64 0, .int .i64 0, .string ⟨#[]⟩, .string ⟨#[]⟩, .int .i64 0], .bool false]) := (show _ = _ by
        have hq : readCmd s = none := by rw [← HA.out]; exact if_neg (by rw [HK.out]; simp)
        rw [readCmdAns, readCmdD, hq]; rfl)
      go_wp2
      have PZ := ((((((P10.out).set 0 (.int .i64 0)).set 1 (.int .i64 0)).set 2 (.int .i64 0)).set 3 (.string ⟨#[]⟩)).set 4 (.string ⟨#[]⟩)).set 5 (.int .i64 0)
      have BZ := ((((((B10.out).setCell (p := ⟨w.heap.size, 0, none⟩) (Nat.le_refl _) (.int .i64 0)).setCell (p := ⟨w.heap.size, 1, none⟩) (Nat.le_refl _) (.int .i64 0)).setCell (p := ⟨w.heap.size, 2, none⟩) (Nat.le_refl _) (.int .i64 0)).setCell (p := ⟨w.heap.size, 3, none⟩) (Nat.le_refl _) (.string ⟨#[]⟩)).setCell (p := ⟨w.heap.size, 4, none⟩) (Nat.le_refl _) (.string ⟨#[]⟩)).setCell (p := ⟨w.heap.size, 5, none⟩) (Nat.le_refl _) (.int .i64 0)
      have z0 := PZ.cell (j := 0) rfl
      have z1 := PZ.cell (j := 1) rfl
      have z2 := PZ.cell (j := 2) rfl
      have z3 := PZ.cell (j := 3) rfl
      have z4 := PZ.cell (j := 4) rfl
      have z5 := PZ.cell (j := 5) rfl
      refine bodyPost_ret (v := .tuple #[.agg #[.int .i64 0, .int .i64 0, .int .i64 0, .string ⟨#[]⟩, .string ⟨#[]⟩, .int .i64 0], .bool false]) (by simp [results, Try.results6, go_sem, z0, z1, z2, z3, z4, z5]) rfl ?_
      exact ⟨by rw [HN.out], BZ⟩
    | true =>
      have ha : cmdAns ⟨(b0 : Int), (N1 : Int), (N2 : Int), T3, T4, (N5 : Int)⟩ = .tuple #[.string (cmdText ⟨(b0 : Int), (N1 : Int), (N2 : Int), T3, T4, (N5 : Int)⟩), .bool true] := by unfold cmdAns; rw [hok]; rfl
      rw [ha]
      have HK := hid hok
      clear ha hok
      by_cases ht : cmdText ⟨(b0 : Int), (N1 : Int), (N2 : Int), T3, T4, (N5 : Int)⟩ = s
      rotate_left
      · obtain ⟨T, hT⟩ : ∃ T, cmdText ⟨(b0 : Int), (N1 : Int), (N2 : Int), T3, T4, (N5 : Int)⟩ = T := ⟨_, rfl⟩
        rw [hT] at ht HA ⊢
        have hl : (T.toList == s.toList) = false := by rw [beq_eq_false_iff_ne]; intro q; rw [ByteArray.toList_eq, ByteArray.toList_eq] at q; exact ht (ByteArray.ext (Array.toList_inj.1 q))
        have HT := hid ht
        clear hT ht
        have HN : Hid (readCmdAns s = .tuple #[.agg #[.int .i64 0, .int .i64 0, .int .i64 0, .string ⟨#[]⟩, .string ⟨#[]⟩, .int .i64 0], .bool false]) := (show _ = _ by
          have hq : readCmd s = none := by rw [← HA.out]; exact if_neg (fun q => HT.out q.2.2)
          rw [readCmdAns, readCmdD, hq]; rfl)
        go_wp2
        have PZ := ((((((P10.out).set 0 (.int .i64 0)).set 1 (.int .i64 0)).set 2 (.int .i64 0)).set 3 (.string ⟨#[]⟩)).set 4 (.string ⟨#[]⟩)).set 5 (.int .i64 0)
        have BZ := ((((((B10.out).setCell (p := ⟨w.heap.size, 0, none⟩) (Nat.le_refl _) (.int .i64 0)).setCell (p := ⟨w.heap.size, 1, none⟩) (Nat.le_refl _) (.int .i64 0)).setCell (p := ⟨w.heap.size, 2, none⟩) (Nat.le_refl _) (.int .i64 0)).setCell (p := ⟨w.heap.size, 3, none⟩) (Nat.le_refl _) (.string ⟨#[]⟩)).setCell (p := ⟨w.heap.size, 4, none⟩) (Nat.le_refl _) (.string ⟨#[]⟩)).setCell (p := ⟨w.heap.size, 5, none⟩) (Nat.le_refl _) (.int .i64 0)
        have z0 := PZ.cell (j := 0) rfl
        have z1 := PZ.cell (j := 1) rfl
        have z2 := PZ.cell (j := 2) rfl
        have z3 := PZ.cell (j := 3) rfl
        have z4 := PZ.cell (j := 4) rfl
        have z5 := PZ.cell (j := 5) rfl
        refine bodyPost_ret (v := .tuple #[.agg #[.int .i64 0, .int .i64 0, .int .i64 0, .string ⟨#[]⟩, .string ⟨#[]⟩, .int .i64 0], .bool false]) (by simp [results, Try.results6, go_sem, z0, z1, z2, z3, z4, z5]) rfl ?_
        exact ⟨by rw [HN.out], BZ⟩
      · rw [ht]
        have hq : readCmd s = some ⟨(b0 : Int), (N1 : Int), (N2 : Int), T3, T4, (N5 : Int)⟩ := by rw [← HA.out]; exact if_pos ⟨rfl, HK.out, ht⟩
        have HN : Hid (readCmdAns s = .tuple #[.agg #[.int .i64 (b0 : Int), .int .i64 (N1 : Int), .int .i64 (N2 : Int), .string T3, .string T4, .int .i64 (N5 : Int)], .bool true]) := (show _ = _ by rw [readCmdAns, readCmdD, hq]; rfl)
        clear ht hq HK HA
        go_wp2
        go_wp2
        have PZ := ((((((P10.out).set 0 (.int .i64 (b0 : Int))).set 1 (.int .i64 (N1 : Int))).set 2 (.int .i64 (N2 : Int))).set 3 (.string T3)).set 4 (.string T4)).set 5 (.int .i64 (N5 : Int))
        have BZ := ((((((B10.out).setCell (p := ⟨w.heap.size, 0, none⟩) (Nat.le_refl _) (.int .i64 (b0 : Int))).setCell (p := ⟨w.heap.size, 1, none⟩) (Nat.le_refl _) (.int .i64 (N1 : Int))).setCell (p := ⟨w.heap.size, 2, none⟩) (Nat.le_refl _) (.int .i64 (N2 : Int))).setCell (p := ⟨w.heap.size, 3, none⟩) (Nat.le_refl _) (.string T3)).setCell (p := ⟨w.heap.size, 4, none⟩) (Nat.le_refl _) (.string T4)).setCell (p := ⟨w.heap.size, 5, none⟩) (Nat.le_refl _) (.int .i64 (N5 : Int))
        have z0 := PZ.cell (j := 0) rfl
        have z1 := PZ.cell (j := 1) rfl
        have z2 := PZ.cell (j := 2) rfl
        have z3 := PZ.cell (j := 3) rfl
        have z4 := PZ.cell (j := 4) rfl
        have z5 := PZ.cell (j := 5) rfl
        refine bodyPost_ret (v := .tuple #[.agg #[.int .i64 (b0 : Int), .int .i64 (N1 : Int), .int .i64 (N2 : Int), .string T3, .string T4, .int .i64 (N5 : Int)], .bool true]) (by simp [results, Try.results6, go_sem, z0, z1, z2, z3, z4, z5]) rfl ?_
        exact ⟨by rw [HN.out], BZ⟩
end Go.Proofs.Ytdgohbhffjinmaa
