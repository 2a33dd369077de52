/-
  The walks of spec.l15Size and spec.DrawTalk: a right keep behind few commands, and a right command.
-/
import Derived.Test.YtohpkegbmhmjeaaGreatDoorJoint23
import Derived.Test.YtohpkegbmhmjeaaGreatDoorJoint24
namespace Go.Proofs.YtohpkegbmhmjeaaGreatDoor
open Go.RowKit Go.Sort

/-- a right keep, its Tokens and Lasts small; a right command -/
def TalkDrew (w : World) (e : Ending) (w' : World) : Prop := ∃ va vc vb vd ls li, ∃ d : CommandD, e = .returned (.tuple #[.agg #[.slice va (List.length ls) vc, .slice vb (List.length li) vd], .agg #[.int .i64 d.op, .int .i64 d.token, .int .i64 d.seq, .string d.key, .string d.val, .int .i64 d.ver]]) ∧ (keepOk ls li = true ∧ Young 40 ls) ∧ commandOk d = true ∧ KRows w' w.heap.size (.slice va ls.length vc) (.slice vb li.length vd) ls li ∧ Below w.heap.size w w'
theorem two_keepT (w : World) (o p : Obj) : Below w.heap.size w ((w.alloc o).alloc p) ∧ ((w.alloc o).alloc p).heap.size = w.heap.size + 2 ∧ ((w.alloc o).alloc p).heap[w.heap.size]? = some o ∧ ((w.alloc o).alloc p).heap[w.heap.size + 1]? = some p := by
  refine ⟨below_more (below_more (Below.refl _ w) o) p, by simp [World.alloc, -World.alloc_eq], ?_, ?_⟩
  · show ((w.heap.push _).push _)[w.heap.size]? = some _
    rw [Array.getElem?_push, if_neg (by simp), Array.getElem?_push, if_pos rfl]
  · show ((w.heap.push _).push _)[w.heap.size + 1]? = some _
    rw [Array.getElem?_push, if_pos (by simp)]
theorem below_curT {w w1 w2 : World} {C : Nat} (hb : Below w.heap.size w w1) (hg : w1.grownBy w2 (some C)) (h : w.heap.size ≤ C) : Below w.heap.size w w2 :=
  hb.trans ⟨hg.os, hg.tape, hg.output, hg.size, fun k hk' => hg.block k (by have := hb.size; omega) (by intro e; simp at e; omega)⟩
theorem BlockIs.cur3 {w w' : World} {b C : Nat} {t : TypeId} {cs : List Value} (h : BlockIs w b t cs) (hg : w.grownBy w' (some C)) (hb : b ≠ C) : BlockIs w' b t cs := by
  unfold BlockIs
  rw [hg.block b h.lt (by simp; omega)]
  exact h
theorem row_pairT {x y : World} {lo : Nat} {v u : Value} {ls : List SessionD} {li : List ItemD} (h : KRows x lo v u ls li) (hb : ∀ g ty cs, lo ≤ g → BlockIs x g ty cs → BlockIs y g ty cs) : KRows y lo v u ls li :=
  ⟨row_fromK h.1 fun g cs hg hq => hb g _ cs hg hq, row_fromK h.2 fun g cs hg hq => hb g _ cs hg hq⟩

set_option maxRecDepth 1000000 in
theorem l15Size_any (ao : Option Addr) (len cap : Nat) (hlen : len ≤ 1048576) (w : World) :
    Calls Tryz.prog 19 #[.slice ao len cap] w fun e w' => ∃ n : Int, e = .returned (.int .i64 n) ∧ 0 < n ∧ n ≤ 36 ∧ w' = w := by
  have hw : IntKind.i64.wrap (8 + (len : Int) / 8) = 8 + (len : Int) / 8 := by rw [IntKind.wrap_i64]; omega
  have hd : (len : Int).tdiv 8 = (len : Int) / 8 := by rw [Int.tdiv_eq_ediv_of_nonneg (by omega)]
  obtain ⟨m, hm⟩ : ∃ m, 8 + (len : Int) / 8 = m := ⟨_, rfl⟩
  have hm0 : 8 ≤ m := by omega
  by_cases h : (36 : Int) < m
  · go_enter Tryz.func19, Tryz.ntmps19
    go_wp2
    go_ret
    exact ⟨36, rfl, by omega, by omega, rfl⟩
  · go_enter Tryz.func19, Tryz.ntmps19
    go_wp2
    go_ret
    exact ⟨m, rfl, by omega, by omega, rfl⟩

set_option maxRecDepth 1000000 in
set_option maxHeartbeats 400000 in
theorem drawTalk_any (ao : Option Addr) (len cap : Nat) (hlen : len ≤ 1048576) (hcap : len ≤ cap) (w : World) (hr : Bytes w ao len) :
    Calls Tryz.prog 6 #[.slice ao len cap] w fun e w' => TalkDrew w e w' := by
  obtain ⟨be, hsz, hr1, hr2⟩ := two_keepT w (.cells #[.slice none 0 0, .slice none 0 0] 27) (.cells #[.int .i64 0, .int .i64 0, .int .i64 0, .string ⟨#[]⟩, .string ⟨#[]⟩, .int .i64 0] 29)
  have HBY := hid (bytes_on hr be)
  clear hr
  have x1 : BlockIs ((w.alloc (.cells #[.slice none 0 0, .slice none 0 0] 27)).alloc (.cells #[.int .i64 0, .int .i64 0, .int .i64 0, .string ⟨#[]⟩, .string ⟨#[]⟩, .int .i64 0] 29)) w.heap.size 27 [.slice none 0 0, .slice none 0 0] := hr1
  have x2 : BlockIs ((w.alloc (.cells #[.slice none 0 0, .slice none 0 0] 27)).alloc (.cells #[.int .i64 0, .int .i64 0, .int .i64 0, .string ⟨#[]⟩, .string ⟨#[]⟩, .int .i64 0] 29)) (w.heap.size + 1) 29 [.int .i64 0, .int .i64 0, .int .i64 0, .string ⟨#[]⟩, .string ⟨#[]⟩, .int .i64 0] := hr2
  obtain ⟨W0, hW0⟩ : ∃ W, (w.alloc (.cells #[.slice none 0 0, .slice none 0 0] 27)).alloc (.cells #[.int .i64 0, .int .i64 0, .int .i64 0, .string ⟨#[]⟩, .string ⟨#[]⟩, .int .i64 0] 29) = W := ⟨_, rfl⟩
  rw [hW0] at be hsz x1 x2 HBY
  have B0 := hid be
  have R10 := hid x1
  have R20 := hid x2
  clear be hr1 hr2 x1 x2
  go_enter Tryz.func6, Tryz.ntmps6
  go_wp2_with fail
  refine (l01New_any ao len cap hlen hcap _ HBY.out).mono ?_
  rintro e w1 ⟨rfl, k1, b1⟩
  obtain ⟨C, hC⟩ : ∃ C, W0.heap.size = C := ⟨_, rfl⟩
  rw [hC] at k1 ⊢
  have hC2 : w.heap.size + 1 < C := by omega
  have K1 := hid k1
  have B1 := hid (below_via B0.out b1)
  have R11 := hid (R10.out.on b1 R10.out.lt)
  have R21 := hid (R20.out.on b1 R20.out.lt)
  clear k1 b1 B0 R10 R20 HBY hsz hW0 hC
  go_wp2_with fail
  refine Calls.mono (l15Size_any ao len cap hlen _) ?_
  rintro e w1' ⟨size, rfl, hs0, hs1, hw1⟩
  rw [hw1]
  clear hw1 w1'
  go_wp2_with fail
  refine Calls.mono (l15Keep_any C size hs0 (by omega) _ K1.out) ?_
  rintro e w2 ⟨va, vc, vb, vd, ls, li, rfl, hko, hyo, hq, k2, q2⟩
  have hC1 : C < w1.heap.size := K1.out.lt
  have HKO := hid (And.intro hko hyo)
  clear hko hyo
  have K2 := hid k2
  have B2 := hid (below_curT B1.out q2 (by omega))
  have R12 := hid (R11.out.cur3 q2 (by omega))
  have R22 := hid (R21.out.cur3 q2 (by omega))
  have Q2 := hid (hq.down (show C + 1 ≤ w1.heap.size from hC1))
  clear k2 q2 hq K1 B1 R11 R21 hC1
  have ba := below_more (Below.refl w2.heap.size w2) (.cells #[.slice none 0 0, .slice none 0 0] 27)
  have hx : BlockIs (w2.alloc (.cells #[.slice none 0 0, .slice none 0 0] 27)) w2.heap.size 27 [.slice none 0 0, .slice none 0 0] := heap_alloc_new w2 _
  have MC := hid K2.out.lt
  have T := hid (K2.out.below ba)
  have T2 := hid (below_via B2.out ba)
  have R1T := hid (R12.out.on ba R12.out.lt)
  have R2T := hid (R22.out.on ba R22.out.lt)
  have QT := hid (Q2.out.on ba)
  clear ba K2 B2 R12 R22 Q2
  obtain ⟨W3, hW3⟩ : ∃ W, w2.alloc (.cells #[.slice none 0 0, .slice none 0 0] 27) = W := ⟨_, rfl⟩
  rw [hW3] at hx T T2 R1T R2T QT
  obtain ⟨xa, hxa⟩ : ∃ b, w2.heap.size = b := ⟨_, rfl⟩
  rw [hxa] at hx MC
  have hlo : w.heap.size ≤ xa := by have := MC.out; omega
  have c0 := hx.cell (j := 0) rfl
  have c1 := hx.cell (j := 1) rfl
  have f0 := hx.thaw 0
  have f1 := hx.thaw 1
  have K := hid ((T.out.set (b := xa) (j := 0) (v := .slice va ls.length vc) MC.out).set (b := xa) (j := 1) (v := .slice vb li.length vd) MC.out)
  have B := hid ((T2.out.setCell (p := ⟨xa, 0, none⟩) hlo (.slice va ls.length vc)).setCell (p := ⟨xa, 1, none⟩) hlo (.slice vb li.length vd))
  have R1 := hid ((R1T.out.far (b := xa) (j := 0) (by have := MC.out; omega) (.slice va ls.length vc)).far (b := xa) (j := 1) (by have := MC.out; omega) (.slice vb li.length vd))
  have R2 := hid ((R2T.out.far (b := xa) (j := 0) (by have := MC.out; omega) (.slice va ls.length vc)).far (b := xa) (j := 1) (by have := MC.out; omega) (.slice vb li.length vd))
  have Q := hid ((KRows.far (j := 0) QT.out hx (by decide) (by decide) (.slice va ls.length vc)).far (j := 1) (hx.set 0 _) (by decide) (by decide) (.slice vb li.length vd))
  have X := hid ((hx.set 0 (.slice va ls.length vc)).set 1 (.slice vb li.length vd))
  clear hx T T2 R1T R2T QT
  obtain ⟨⟨ha, hsf, hl3⟩, hai, hif, hl8⟩ := keep_facts HKO.out.1
  have hl : ls.length ≤ 1048576 := by omega
  have hl2 : li.length ≤ 1048576 := by omega
  have HLA : Hid (∀ s ∈ ls, (0 ≤ s.token ∧ s.token ≤ 1000000) ∧ 0 ≤ s.last ∧ s.last ≤ 999999) := (show ∀ _ ∈ _, _ from fun s hs => by have h7 := session_bounds (hsf s hs); have h8 := HKO.out.2 s hs; omega)
  have HIF := hid hif
  clear ha hsf hl3 hai hif hl8
  have hxaC : C < xa := MC.out
  go_wp2
  refine wp_region_from (N := 16) (by kernel_rfl) (by kernel_rfl) rfl (by kernel_rfl) (fun W => Below w.heap.size w W ∧ BlockIs W xa 27 [.slice va ls.length vc, .slice vb li.length vd] ∧ KRows W (C + 1) (.slice va ls.length vc) (.slice vb li.length vd) ls li) (fun j v _ W => match j with | 0 => v = .agg #[.slice va ls.length vc, .slice vb li.length vd] | 1 => v = .pointer (some ⟨C, 0, none⟩) | 2 => v = .agg #[.slice va ls.length vc, .slice vb li.length vd] | 3 => ∃ d : CommandD, v = .agg #[.int .i64 d.op, .int .i64 d.token, .int .i64 d.seq, .string d.key, .string d.val, .int .i64 d.ver] ∧ commandOk d = true | 4 => BlockIs W w.heap.size 27 [.slice va ls.length vc, .slice vb li.length vd] | 5 => ∃ d : CommandD, BlockIs W (w.heap.size + 1) 29 [.int .i64 d.op, .int .i64 d.token, .int .i64 d.seq, .string d.key, .string d.val, .int .i64 d.ver] ∧ commandOk d = true | _ => True) (fun i => i) (fun _ _ => false) (fun i x y => (∀ g ty cs, BlockIs x g ty cs → g ≠ C → (i = 4 → g ≠ w.heap.size) → (i = 5 → g ≠ w.heap.size + 1) → BlockIs y g ty cs) ∧ (i ≠ 4 → i ≠ 5 → CurAt x C → CurAt y C)) (fun q9 W => match q9 with | 0 => BlockIs W w.heap.size 27 [.slice none 0 0, .slice none 0 0] | 1 => BlockIs W (w.heap.size + 1) 29 [.int .i64 0, .int .i64 0, .int .i64 0, .string ⟨#[]⟩, .string ⟨#[]⟩, .int .i64 0] | 2 => CurAt W C | _ => True) (fun m k => decide ((m, k) ∈ ([(0, 4), (1, 5), (2, 4), (2, 5)] : List (Nat × Nat)))) ?_ (fun _ => 0) (by kernel_rfl) (fun _ _ => rfl) ?_ ⟨below_via B.out (below_drewN (Below.refl _ _) 1), X.out.on (below_drewN (Below.refl _ _) 1) X.out.lt, Q.out.on (below_drewN (Below.refl _ _) 1)⟩ (fun q9 => match q9 with | 0 => R1.out.on (below_drewN (Below.refl _ _) 1) R1.out.lt | 1 => R2.out.on (below_drewN (Below.refl _ _) 1) R2.out.lt | 2 => K.out.below (below_drewN (Below.refl _ _) 1) | _ + 3 => trivial) ?_ ?_
  · intro i m x9 y9 hen hxy hm
    match m, hen, hm with
    | 0, hen, hm =>
      simp at hen
      exact hxy.1 _ _ _ hm (by omega) (fun e => absurd e hen) (fun _ => by omega)
    | 1, hen, hm =>
      simp at hen
      exact hxy.1 _ _ _ hm (by omega) (fun _ => by omega) (fun e => absurd e hen)
    | 2, hen, hm =>
      simp at hen
      exact hxy.2 (by omega) (by omega) hm
    | n + 3, _, _ => exact trivial
  · intro i j v u x9 y9 hij hdd hwt hxy hg
    match j, hg with
    | 0, hg => exact hg
    | 1, hg => exact hg
    | 2, hg => exact hg
    | 3, hg => exact hg
    | 4, hg =>
      exact hxy.1 _ _ _ hg (by omega) (fun e => absurd e hij) (fun _ => by omega)
    | 5, hg =>
      obtain ⟨d, h9, hd⟩ := hg
      exact ⟨d, hxy.1 _ _ _ h9 (by omega) (fun _ => by omega) (fun e => absurd e hij), hd⟩
    | n + 6, _ => exact trivial
  · refine ⟨?_, ?_, ?_, ?_, ?_, ?_, trivial⟩
    · intro A W hC hI hg hb
      have h5 : A.eval (.tmp 5) = .pointer (some ⟨xa, 0, none⟩) := hb 5 (base_of (by kernel_rfl))
      obtain ⟨hbw, hxa1, hqa⟩ := hC
      have hc0 := hxa1.cell (j := 0) rfl
      have hc1 := hxa1.cell (j := 1) rfl
      exact does_value (v := .agg #[.slice va ls.length vc, .slice vb li.length vd]) (w' := W) (by simp only [execOp, h5]; simp [go_sem, hc0, hc1]) ⟨rfl, ⟨hbw, hxa1, hqa⟩, fun _ _ _ h _ _ _ => h, fun _ _ h => h⟩
    · intro A W hC hI hg hb
      have h4 : A.eval (.tmp 4) = .pointer (some ⟨C, 0, none⟩) := hb 4 (base_of (by kernel_rfl))
      exact does_value (v := .pointer (some ⟨C, 0, none⟩)) (w' := W) (by simp only [execOp, h4]; simp [go_sem]) ⟨rfl, hC, fun _ _ _ h _ _ _ => h, fun _ _ h => h⟩
    · intro A W hC hI hg hb
      have h5 : A.eval (.tmp 5) = .pointer (some ⟨xa, 0, none⟩) := hb 5 (base_of (by kernel_rfl))
      obtain ⟨hbw, hxa1, hqa⟩ := hC
      have hc0 := hxa1.cell (j := 0) rfl
      have hc1 := hxa1.cell (j := 1) rfl
      exact does_value (v := .agg #[.slice va ls.length vc, .slice vb li.length vd]) (w' := W) (by simp only [execOp, h5]; simp [go_sem, hc0, hc1]) ⟨rfl, ⟨hbw, hxa1, hqa⟩, fun _ _ _ h _ _ _ => h, fun _ _ h => h⟩
    · intro A W hC hI hg hb
      have h13 : A.eval (.tmp 13) = .pointer (some ⟨C, 0, none⟩) := hg 1 13 (by decide) rfl (by simp [Op.operands, Call.operands]) (by kernel_rfl) rfl
      have h14 : A.eval (.tmp 14) = .agg #[.slice va ls.length vc, .slice vb li.length vd] := hg 2 14 (by decide) rfl (by simp [Op.operands, Call.operands]) (by kernel_rfl) rfl
      simp [go_sem] at h13 h14
      obtain ⟨hbw, hxa1, hqa⟩ := hC
      have hk : CurAt W C := hI 2 (by kernel_rfl)
      refine does_enter (f := 20) (args := #[.pointer (some ⟨C, 0, none⟩), .agg #[.slice va ls.length vc, .slice vb li.length vd]]) (w' := W) (by simp [go_sem, h13, h14]) ?_
      refine (l15Command_any C (C + 1) va vb vc vd ls li hl hl2 HIF.out HLA.out W hk hqa (Nat.lt_succ_self _)).mono ?_
      rintro e9 W' ⟨d, rfl, hd, k', q'⟩
      exact ⟨_, rfl, ⟨d, rfl, hd⟩, ⟨below_curT hbw q' (by omega), hxa1.cur q' hxaC, hqa.cur q' (Nat.lt_succ_self _)⟩, fun g ty cs h hne _ _ => h.cur3 q' hne, fun _ _ _ => k'⟩
    · intro A W hC hI hg hb
      have h2 : A.eval (.tmp 2) = .pointer (some ⟨w.heap.size, 0, none⟩) := hb 2 (base_of (by kernel_rfl))
      have h12 : A.eval (.tmp 12) = .agg #[.slice va ls.length vc, .slice vb li.length vd] := hg 0 12 (by decide) rfl (by simp [Op.operands]) (by kernel_rfl) rfl
      have hz : BlockIs W w.heap.size 27 [.slice none 0 0, .slice none 0 0] := hI 0 (by kernel_rfl)
      obtain ⟨hbw, hxa1, hqa⟩ := hC
      have c0 := hz.cell (j := 0) rfl
      have c1 := hz.cell (j := 1) rfl
      have f0 := hz.thaw 0
      have f1 := hz.thaw 1
      have far : ∀ p ty cs, BlockIs W p ty cs → p ≠ w.heap.size → BlockIs ((W.setCell ⟨w.heap.size, 0, none⟩ (.slice va ls.length vc)).setCell ⟨w.heap.size, 1, none⟩ (.slice vb li.length vd)) p ty cs := fun p ty cs hp hne => ((hp.far (by omega) _).far (by omega) _)
      exact does_skip (w' := ((W.setCell ⟨w.heap.size, 0, none⟩ (.slice va ls.length vc)).setCell ⟨w.heap.size, 1, none⟩ (.slice vb li.length vd))) (by simp only [execOp, h2, h12]; simp [go_sem, c0, c1, f0, f1]) ⟨((hz.set 0 (.slice va ls.length vc)).set 1 (.slice vb li.length vd)), ⟨((hbw.setCell (Nat.le_refl _) _).setCell (Nat.le_refl _) _), far _ _ _ hxa1 (by omega), row_pairT hqa fun g ty cs hg h => far g ty cs h (by omega)⟩, fun p ty cs hp _ h4 h5 => far p ty cs hp (h4 rfl), fun hne _ _ => absurd rfl hne⟩
    · intro A W hC hI hg hb
      have h3 : A.eval (.tmp 3) = .pointer (some ⟨w.heap.size + 1, 0, none⟩) := hb 3 (base_of (by kernel_rfl))
      have g3 := hg 3 15 (by decide) rfl (by simp [Op.operands]) (by kernel_rfl) rfl
      obtain ⟨d, e8, hd⟩ := g3
      have hz : BlockIs W (w.heap.size + 1) 29 [.int .i64 0, .int .i64 0, .int .i64 0, .string ⟨#[]⟩, .string ⟨#[]⟩, .int .i64 0] := hI 1 (by kernel_rfl)
      obtain ⟨hbw, hxa1, hqa⟩ := hC
      have c0 := hz.cell (j := 0) rfl
      have c1 := hz.cell (j := 1) rfl
      have c2 := hz.cell (j := 2) rfl
      have c3 := hz.cell (j := 3) rfl
      have c4 := hz.cell (j := 4) rfl
      have c5 := hz.cell (j := 5) rfl
      have f0 := hz.thaw 0
      have f1 := hz.thaw 1
      have f2 := hz.thaw 2
      have f3 := hz.thaw 3
      have f4 := hz.thaw 4
      have f5 := hz.thaw 5
      have far : ∀ p ty cs, BlockIs W p ty cs → p ≠ w.heap.size + 1 → BlockIs ((((((W.setCell ⟨w.heap.size + 1, 0, none⟩ (.int .i64 d.op)).setCell ⟨w.heap.size + 1, 1, none⟩ (.int .i64 d.token)).setCell ⟨w.heap.size + 1, 2, none⟩ (.int .i64 d.seq)).setCell ⟨w.heap.size + 1, 3, none⟩ (.string d.key)).setCell ⟨w.heap.size + 1, 4, none⟩ (.string d.val)).setCell ⟨w.heap.size + 1, 5, none⟩ (.int .i64 d.ver)) p ty cs := fun p ty cs hp hne => ((((((hp.far (by omega) _).far (by omega) _).far (by omega) _).far (by omega) _).far (by omega) _).far (by omega) _)
      exact does_skip (w' := ((((((W.setCell ⟨w.heap.size + 1, 0, none⟩ (.int .i64 d.op)).setCell ⟨w.heap.size + 1, 1, none⟩ (.int .i64 d.token)).setCell ⟨w.heap.size + 1, 2, none⟩ (.int .i64 d.seq)).setCell ⟨w.heap.size + 1, 3, none⟩ (.string d.key)).setCell ⟨w.heap.size + 1, 4, none⟩ (.string d.val)).setCell ⟨w.heap.size + 1, 5, none⟩ (.int .i64 d.ver))) (by simp only [execOp, h3, e8]; simp [go_sem, c0, c1, c2, c3, c4, c5, f0, f1, f2, f3, f4, f5]) ⟨⟨d, ((((((hz.set 0 (.int .i64 d.op)).set 1 (.int .i64 d.token)).set 2 (.int .i64 d.seq)).set 3 (.string d.key)).set 4 (.string d.val)).set 5 (.int .i64 d.ver)), hd⟩, ⟨((((((hbw.setCell (Nat.le_succ _) _).setCell (Nat.le_succ _) _).setCell (Nat.le_succ _) _).setCell (Nat.le_succ _) _).setCell (Nat.le_succ _) _).setCell (Nat.le_succ _) _), far _ _ _ hxa1 (by omega), row_pairT hqa fun g ty cs hg h => far g ty cs h (by omega)⟩, fun p ty cs hp _ h4 h5 => far p ty cs hp (h5 rfl), fun _ hne _ => absurd rfl hne⟩
  · intro vs wE hC hI hg
    have h1 := hg 4 (by decide) (fun k => by simp)
    obtain ⟨d, h2, hd⟩ := hg 5 (by decide) (fun k => by simp)
    clear hg hI
    obtain ⟨hb1, _, hqa⟩ := hC
    have h1 : BlockIs wE w.heap.size 27 [.slice va ls.length vc, .slice vb li.length vd] := h1
    have h2 : BlockIs wE (w.heap.size + 1) 29 [.int .i64 d.op, .int .i64 d.token, .int .i64 d.seq, .string d.key, .string d.val, .int .i64 d.ver] := h2
    have z0 := h1.cell (j := 0) rfl
    have z1 := h1.cell (j := 1) rfl
    have y0 := h2.cell (j := 0) rfl
    have y1 := h2.cell (j := 1) rfl
    have y2 := h2.cell (j := 2) rfl
    have y3 := h2.cell (j := 3) rfl
    have y4 := h2.cell (j := 4) rfl
    have y5 := h2.cell (j := 5) rfl
    have HF := hid (And.intro hb1 hqa)
    clear h1 h2 hb1 hqa K B R1 R2 X Q
    change Exit.then _ _ _ (laidBy _ vs _ 6 _) wE
    simp only [laidBy, if_true, dstAt, List.getElem?_toArray, List.getElem?_cons_succ, List.getElem?_cons_zero, Option.bind_some]
    simp only [Act.put, List.setIfInBounds_toArray, List.set_cons_succ, List.set_cons_zero]
    go_wp2
    refine bodyPost_ret (v := .tuple #[.agg #[.slice va ls.length vc, .slice vb li.length vd], .agg #[.int .i64 d.op, .int .i64 d.token, .int .i64 d.seq, .string d.key, .string d.val, .int .i64 d.ver]]) (by simp [results, Tryz.results6, go_sem, z0, z1, y0, y1, y2, y3, y4, y5]) rfl ?_
    exact ⟨_, _, _, _, ls, li, d, rfl, HKO.out, hd, HF.out.2.down (by omega), HF.out.1⟩
end Go.Proofs.YtohpkegbmhmjeaaGreatDoor
