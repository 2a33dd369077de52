/-
  The walk of spec.ReadEntry: what it answers.
-/
import Derived.Test.YtohmfmajgehadaaGreatDoorJoint49
import Derived.Test.YtohmfmajgehadaaGreatDoorJoint23
namespace Go.Proofs.YtohmfmajgehadaaGreatDoor
open Go.RowKit

theorem take_zero (s : ByteArray) : takeSt s (some 0) = if 0 < s.size then some 1 else none := rfl
/-- a cursor that went wrong: there is no entry -/
theorem all_none {s : ByteArray} (h : takeSt s (varSt s (varSt s (takeSt s (some 0)))) = none) : readEntry s = none := by
  rw [take_zero] at h
  rcases Nat.eq_zero_or_pos s.size with q | q
  · exact readE_empty q
  · rw [if_pos q] at h
    cases h1 : rv (s.data.toList.drop 1) with
    | none => exact readE_one h1
    | some p =>
      obtain ⟨i, m⟩ := p
      simp only [varSt, h1, Option.map] at h
      cases h2 : rv (s.data.toList.drop (1 + m)) with
      | none => exact readE_two h1 h2
      | some p =>
        obtain ⟨t, c⟩ := p
        simp only [h2, takeSt] at h
        by_cases h3 : 1 + m + c < s.size
        · rw [if_pos h3] at h; cases h
        · exact readE_end h1 h2 (by omega)
/-- a cursor that is well: what was read -/
theorem all_some {s : ByteArray} {k : Nat} (h : takeSt s (varSt s (varSt s (takeSt s (some 0)))) = some k) :
    ∃ i m t c a, 0 < s.size ∧ rv (s.data.toList.drop 1) = some (i, m) ∧ rv (s.data.toList.drop (1 + m)) = some (t, c) ∧ 1 + m + c = a ∧ a < s.size ∧ k = a + 1 ∧
      varNum s (takeSt s (some 0)) = i ∧ varNum s (varSt s (takeSt s (some 0))) = t ∧ takeTxt s (varSt s (varSt s (takeSt s (some 0)))) = s.extract a (a + 1) := by
  rw [take_zero] at h ⊢
  rcases Nat.eq_zero_or_pos s.size with q | q
  · rw [if_neg (by omega)] at h; cases h
  · rw [if_pos q] at h ⊢
    cases h1 : rv (s.data.toList.drop 1) with
    | none =>
      rw [show varSt s (some 1) = none by rw [varSt, h1]; rfl] at h
      simp [varSt, takeSt] at h
    | some p =>
      obtain ⟨i, m⟩ := p
      have e2 : varSt s (some 1) = some (1 + m) := by rw [varSt, h1]; rfl
      rw [e2] at h ⊢
      cases h2 : rv (s.data.toList.drop (1 + m)) with
      | none =>
        rw [show varSt s (some (1 + m)) = none by rw [varSt, h2]; rfl] at h
        simp [takeSt] at h
      | some p =>
        obtain ⟨t, c⟩ := p
        have e3 : varSt s (some (1 + m)) = some (1 + m + c) := by rw [varSt, h2]; rfl
        rw [e3] at h ⊢
        by_cases h3 : 1 + m + c < s.size
        · rw [takeSt, if_pos h3] at h
          cases h
          refine ⟨i, m, t, c, 1 + m + c, q, rfl, h2, rfl, h3, rfl, ?_, ?_, ?_⟩
          · rw [varNum, h1]
          · rw [varNum, h2]
          · rw [takeTxt, if_pos h3]
        · rw [takeSt, if_neg h3] at h; cases h
theorem byte_at {s : ByteArray} {a : Nat} (h : a < s.size) : ∃ q : 0 < (s.extract a (a + 1)).size, (s.extract a (a + 1))[0] = s[a] := by
  have hl : (s.extract a (a + 1)).data.toList = [s[a]] := by
    rw [extract_eq, list_at s a h, Nat.add_sub_cancel_left]
    rfl
  have hz : (s.extract a (a + 1)).size = 1 := by
    have h2 : (s.extract a (a + 1)).data.toList.length = (s.extract a (a + 1)).size := Array.length_toList
    rw [← h2, hl]
    rfl
  refine ⟨by omega, ?_⟩
  have := list_head (s.extract a (a + 1)) (by omega)
  rw [hl] at this
  exact (List.cons.inj this).1.symm
theorem index_byte {P : Program} {t : TypeId} (hP : P.underlying t = some .string) {s : ByteArray} {a : Nat} (h : a < s.size) (w : World) :
    (Instr.index t (.string (s.extract a (a + 1))) (.int .i64 0)).run P w = .ok (.int .u8 (s[a].toNat : Int)) w := by
  obtain ⟨q, e⟩ := byte_at h
  rw [run_index_string w t _ .i64 0 hP, dif_pos ⟨by omega, by omega⟩]
  have : (s.extract a (a + 1))[(0 : Int).toNat]'(by simpa using q) = s[a] := e
  rw [this]
theorem rest_slice {P : Program} {t : TypeId} (h : P.underlying t = some .string) (s : ByteArray) (a : Nat) (x : Int) (hx : x = a) (ha : a ≤ s.size) (w : World) :
    (Instr.slice t (.string s) (some (.int .i64 x)) none none).run P w = .ok (.string (s.extract a s.size)) w := by
  subst hx
  rw [run_slice_string_l w t s h .i64 a (by omega) (by omega)]
  simp
theorem rest_size (s : ByteArray) (a b : Nat) : (s.extract a b).size ≤ s.size := by
  have h1 : (s.extract a b).data.toList.length ≤ s.data.toList.length := by
    rw [extract_eq, List.length_take, List.length_drop]
    omega
  have h2 : (s.extract a b).data.toList.length = (s.extract a b).size := Array.length_toList
  have h3 : s.data.toList.length = s.size := Array.length_toList
  omega

theorem reAnsS_none {o : Option (Nat × EntD)} (h : o = none) : Ending.returned (.tuple #[.int .i64 0, .agg #[.int .i64 0, .int .i64 0, .string ⟨#[]⟩], .bool false]) = .returned (reAns o) := by subst h; rfl
theorem reAnsS_some {o : Option (Nat × EntD)} {i : Nat} {t k : Int} {s : ByteArray} (h : o = some (i, ⟨t, k, s⟩)) : Ending.returned (.tuple #[.int .i64 i, .agg #[.int .i64 t, .int .i64 k, .string s], .bool true]) = .returned (reAns o) := by subst h; rfl
theorem put3S {W : World} {g : Nat} {t : TypeId} {a b c : Value} (h : BlockIs W g t [a, b, c]) (x y z : Value) : BlockIs (((W.setCell ⟨g, 0, none⟩ x).setCell ⟨g, 1, none⟩ y).setCell ⟨g, 2, none⟩ z) g t [x, y, z] := ((h.set 0 x).set 1 y).set 2 z
theorem below3S {w W : World} {base g : Nat} (h : Below base w W) (hg : base ≤ g) (x y z : Value) : Below base w (((W.setCell ⟨g, 0, none⟩ x).setCell ⟨g, 1, none⟩ y).setCell ⟨g, 2, none⟩ z) := ((h.setCell hg x).setCell hg y).setCell hg z
theorem block_far {w w2 : World} {C g : Nat} {t : TypeId} {cs : List Value} (h : BlockIs w g t cs) (hg : w.grownBy w2 (some C)) (hC : g ≠ C) : BlockIs w2 g t cs := by
  have := hg.block g h.lt (by simp; omega)
  unfold BlockIs at h ⊢
  rw [this]
  exact h
theorem CurSt.far {W : World} {C b j : Nat} {s : ByteArray} {o : Option Nat} (h : CurSt W C s o) (hb : b ≠ C) (v : Value) : CurSt (W.setCell ⟨b, j, none⟩ v) C s o := by
  obtain ⟨k, hk, hc, hj⟩ := h
  exact ⟨k, hk, BlockIs.far hc hb v, hj⟩
theorem CurSt.more {W : World} {C : Nat} {s : ByteArray} {o : Option Nat} (h : CurSt W C s o) (x : Obj) : CurSt (W.alloc x) C s o := by
  obtain ⟨k, hk, hc, hj⟩ := h
  exact ⟨k, hk, BlockIs.on hc (below_more (Below.refl _ _) x) (BlockIs.lt hc), hj⟩
theorem CurSt.lt {W : World} {C : Nat} {s : ByteArray} {o : Option Nat} (h : CurSt W C s o) : C < W.heap.size := by
  obtain ⟨k, hk, hc, hj⟩ := h
  exact BlockIs.lt hc
/-- all that the reader keeps: the answer's box, its cursor, the entry's box -/
structure ReAt (w : World) (s : ByteArray) (o : Option Nat) (E : Nat) (es : List Value) (W : World) : Prop where
  res : BlockIs W w.heap.size 57 [.int .i64 0, .int .i64 0, .string ⟨#[]⟩]
  cur : CurSt W (w.heap.size + 1) s o
  ent : BlockIs W E 57 es
  far : w.heap.size + 1 < E
  bel : Below w.heap.size w W
theorem ReAt.call {w W W' : World} {s : ByteArray} {o o' : Option Nat} {E : Nat} {es : List Value} (h : ReAt w s o E es W) (hg : W.grownBy W' (some (w.heap.size + 1))) (hc : CurSt W' (w.heap.size + 1) s o') : ReAt w s o' E es W' :=
  ⟨block_far h.res hg (by omega), hc, block_far h.ent hg (by have := h.far; omega), h.far, h.bel.grown hg h.bel.size (fun k e => by simp only [Option.some.injEq] at e; omega)⟩
theorem ReAt.below {w W W' : World} {s : ByteArray} {o : Option Nat} {E : Nat} {es : List Value} (h : ReAt w s o E es W) (hb : Below W.heap.size W W') : ReAt w s o E es W' := by
  obtain ⟨k, hk, hc, hj⟩ := h.cur
  exact ⟨h.res.on hb h.res.lt, ⟨k, hk, BlockIs.on hc hb (BlockIs.lt hc), hj⟩, h.ent.on hb h.ent.lt, h.far, below_via h.bel hb⟩
theorem ReAt.set {w W : World} {s : ByteArray} {o : Option Nat} {E : Nat} {es : List Value} (h : ReAt w s o E es W) (j : Nat) (v : Value) : ReAt w s o E (es.set j v) (W.setCell ⟨E, j, none⟩ v) :=
  ⟨h.res.far (by have := h.far; omega) v, h.cur.far (by have := h.far; omega) v, h.ent.set j v, h.far, h.bel.setCell (by have := h.far; simp; omega) v⟩

theorem back_at {s : ByteArray} {i m t c a : Nat} (q : 0 < s.size) (h1 : rv (s.data.toList.drop 1) = some (i, m)) (h2 : rv (s.data.toList.drop (1 + m)) = some (t, c)) (ha : 1 + m + c = a) (h3 : a < s.size) :
    ((entText i ⟨t, s[a].toNat, s.extract (a + 1) s.size⟩).toList == s.toList) = decide (s[0] = 69) := by
  subst ha
  exact back_same q h1 h2 h3

set_option maxRecDepth 1000000 in
set_option maxHeartbeats 2000000 in
theorem specReadEntry_any (s : ByteArray) (hs : s.size ≤ 1048576) (w : World) :
    Calls Tryz.prog 52 #[.string s] w fun e w' => e = .returned (reAns (readEntry s)) ∧ Below w.heap.size w w' := by
  obtain ⟨o1, ho1⟩ : ∃ o, takeSt s (some 0) = o := ⟨_, rfl⟩
  obtain ⟨o2, ho2⟩ : ∃ o, varSt s o1 = o := ⟨_, rfl⟩
  obtain ⟨o3, ho3⟩ : ∃ o, varSt s o2 = o := ⟨_, rfl⟩
  obtain ⟨o4, ho4⟩ : ∃ o, takeSt s o3 = o := ⟨_, rfl⟩
  obtain ⟨n1, hn1⟩ : ∃ n, varNum s o1 = n := ⟨_, rfl⟩
  obtain ⟨n2, hn2⟩ : ∃ n, varNum s o2 = n := ⟨_, rfl⟩
  obtain ⟨T, hT⟩ : ∃ T, takeTxt s o3 = T := ⟨_, rfl⟩
  have HO : Hid (takeSt s (varSt s (varSt s (takeSt s (some 0)))) = o4) := by show _ = _; rw [ho1, ho2, ho3, ho4]
  have HN1 : Hid (varNum s (takeSt s (some 0)) = n1) := by show _ = _; rw [ho1, hn1]
  have HN2 : Hid (varNum s (varSt s (takeSt s (some 0))) = n2) := by show _ = _; rw [ho1, ho2, hn2]
  have HTT : Hid (takeTxt s (varSt s (varSt s (takeSt s (some 0)))) = T) := by show _ = _; rw [ho1, ho2, ho3, hT]
  have q1 := fun W h => l05Take_any (w.heap.size + 1) s hs (some 0) W h
  have q2 := fun W h => l05Var_any (w.heap.size + 1) s hs o1 W h
  have q3 := fun W h => l05Var_any (w.heap.size + 1) s hs o2 W h
  have q4 := fun W h => l05Take_any (w.heap.size + 1) s hs o3 W h
  rw [ho1] at q1
  rw [ho2, hn1] at q2
  rw [ho3, hn2] at q3
  rw [ho4, hT] at q4
  have C1 := hid q1
  have C2 := hid q2
  have C3 := hid q3
  have C4 := hid q4
  clear q1 q2 q3 q4 ho1 ho2 ho3 ho4 hn1 hn2 hT
  have e1 : ∃ W1, (w.alloc (.cells #[.int .i64 0, .int .i64 0, .string ⟨#[]⟩] 57)).alloc (.cells #[.string s, .int .i64 0, .bool false] 106) = W1 ∧ BlockIs W1 w.heap.size 57 [.int .i64 0, .int .i64 0, .string ⟨#[]⟩] ∧ CurSt W1 (w.heap.size + 1) s (some 0) ∧ Below w.heap.size w W1 := by
    have h1 : BlockIs (w.alloc (.cells #[.int .i64 0, .int .i64 0, .string ⟨#[]⟩] 57)) w.heap.size 57 [.int .i64 0, .int .i64 0, .string ⟨#[]⟩] := heap_alloc_new w _
    have h2 : BlockIs ((w.alloc (.cells #[.int .i64 0, .int .i64 0, .string ⟨#[]⟩] 57)).alloc (.cells #[.string s, .int .i64 0, .bool false] 106)) (w.alloc (.cells #[.int .i64 0, .int .i64 0, .string ⟨#[]⟩] 57)).heap.size 106 [.string s, .int .i64 0, .bool false] := heap_alloc_new _ _
    have h3 : (w.alloc (.cells #[.int .i64 0, .int .i64 0, .string ⟨#[]⟩] 57)).heap.size = w.heap.size + 1 := Array.size_push _
    rw [h3] at h2
    exact ⟨_, rfl, h1.on (below_more (Below.refl _ _) _) h1.lt, ⟨0, Nat.zero_le _, h2, fun j e => by cases e; rfl⟩, below_more (below_more (Below.refl _ _) _) _⟩
  obtain ⟨W1, hW1, r1, k1, b1⟩ := e1
  have R1 := hid r1
  have K1 := hid k1
  have B1 := hid b1
  clear r1 k1 b1
  go_enter Tryz.func52, Tryz.ntmps52
  go_wp2_with fail
  refine Calls.mono (C1.out W1 K1.out) ?_
  rintro e w2 ⟨rfl, k2, g2⟩
  have R2 := hid (block_far R1.out g2 (by omega))
  have K2 := hid k2
  have B2 := hid (B1.out.grown g2 B1.out.size (fun k e => by simp only [Option.some.injEq] at e; omega))
  clear k2 g2 R1 K1 B1 hW1
  go_wp2_with fail
  refine Calls.mono (C2.out w2 K2.out) ?_
  rintro e w3 ⟨rfl, k3, g3⟩
  have R3 := block_far R2.out g3 (by omega)
  have B3 := B2.out.grown g3 B2.out.size (fun k e => by simp only [Option.some.injEq] at e; omega)
  have e4 : ∃ W4, w3.alloc (.cells #[.int .i64 0, .int .i64 0, .string ⟨#[]⟩] 57) = W4 ∧ ReAt w s o2 w3.heap.size [.int .i64 0, .int .i64 0, .string ⟨#[]⟩] W4 :=
    ⟨_, rfl, R3.on (below_more (Below.refl _ _) _) R3.lt, k3.more _, heap_alloc_new w3 _, k3.lt, below_more B3 _⟩
  obtain ⟨W4, hW4, a4⟩ := e4
  have A4 := hid a4
  have HW4 := hid hW4
  clear k3 g3 R3 B3 R2 K2 B2 a4 hW4
  go_wp2_with fail
  rw [HW4.out]
  refine Calls.mono (C3.out W4 A4.out.cur) ?_
  rintro e w5 ⟨rfl, k5, g5⟩
  have a5 := A4.out.call g5 k5
  have A5 := hid a5
  have x0 := a5.ent.cell (j := 0) rfl
  have f0 := a5.ent.thaw 0
  have e6 : ∃ W6, w5.setCell ⟨w3.heap.size, 0, none⟩ (.int .i64 (n2 : Int)) = W6 ∧ ReAt w s o3 w3.heap.size [.int .i64 (n2 : Int), .int .i64 0, .string ⟨#[]⟩] W6 := ⟨_, rfl, a5.set 0 _⟩
  obtain ⟨W6, hW6, a6⟩ := e6
  have A6 := hid a6
  clear k5 g5 a5 a6 A4 HW4
  go_wp2_with fail
  refine Calls.mono (C4.out W6 A6.out.cur) ?_
  rintro e w7 ⟨rfl, k7, g7⟩
  have a7 := A6.out.call g7 k7
  have A7 := hid a7
  clear k7 g7 A6 A5 x0 f0 hW6
  obtain ⟨k, hk, hc, hj⟩ := a7.cur
  have c1 := BlockIs.cell hc (j := 1) rfl
  have c2 := BlockIs.cell hc (j := 2) rfl
  clear hc
  cases o4 with
  | none =>
    have hr := hid (all_none HO.out)
    have r0 := a7.res.cell (j := 0) rfl
    have r1 := a7.res.cell (j := 1) rfl
    have r2 := a7.res.cell (j := 2) rfl
    have g0 := a7.res.thaw 0
    have g1 := a7.res.thaw 1
    have g2 := a7.res.thaw 2
    have P := put3S A7.out.res (.int .i64 0) (.int .i64 0) (.string ⟨#[]⟩)
    have z0 := P.cell (j := 0) rfl
    have z1 := P.cell (j := 1) rfl
    have z2 := P.cell (j := 2) rfl
    have BZ := hid (below3S A7.out.bel (Nat.le_refl _) (.int .i64 0) (.int .i64 0) (.string ⟨#[]⟩))
    obtain ⟨WZ, hWZ⟩ : ∃ W, ((w7.setCell ⟨w.heap.size, 0, none⟩ (.int .i64 0)).setCell ⟨w.heap.size, 1, none⟩ (.int .i64 0)).setCell ⟨w.heap.size, 2, none⟩ (.string ⟨#[]⟩) = W := ⟨_, rfl⟩
    rw [hWZ] at z0 z1 z2 BZ
    clear P a7
    go_wp2
    refine bodyPost_ret (v := .tuple #[.int .i64 0, .agg #[.int .i64 0, .int .i64 0, .string ⟨#[]⟩], .bool false]) (by simp [results, Tryz.results52, go_sem, z0, z1, z2]) rfl ⟨reAnsS_none hr.out, BZ.out⟩
  | some k4 =>
    obtain ⟨i, m, t, c, a, hpos, h1, h2, h3, h4, h5, h6, h7, h8⟩ := all_some HO.out
    obtain rfl := hj k4 rfl
    subst h5
    rw [HN1.out] at h6
    rw [HN2.out] at h7
    rw [HTT.out] at h8
    subst h6 h7 h8
    have hb1 := rv_bd h1
    have hb2 := rv_bd h2
    have hix := index_byte (P := Tryz.prog) Tryz.underlying9 h4
    have hsl := rest_slice (P := Tryz.prog) Tryz.underlying9 s (a + 1) ((a : Int) + 1) (by omega) hk
    have hdl := Nat.le_trans (rest_size s (a + 1) s.size) hs
    have hk255 : (s[a].toNat : Int) ≤ 255 := by have := s[a].toNat_lt; omega
    have hbs := back_at hpos h1 h2 h3 h4
    have hra := fun h0 => readE_at hpos h0 h1 h2 h3 h4
    have hrh : s[0] ≠ 69 → readEntry s = none := fun h => readE_head hpos h
    obtain ⟨D, hD⟩ : ∃ D, s.extract (a + 1) s.size = D := ⟨_, rfl⟩
    obtain ⟨X, hX⟩ : ∃ X, s.extract a (a + 1) = X := ⟨_, rfl⟩
    rw [hD] at hsl hdl hbs hra
    rw [hX] at hix
    rw [hX]
    have cT' := fun w => specEntryText_any n1 ⟨n2, s[a].toNat, D⟩ hdl w
    have c1' : w7.cell? ⟨w.heap.size + 1, 1, none⟩ = some (.int .i64 ((a : Int) + 1)) := by rw [c1]; rfl
    have y1 := a7.ent.cell (j := 1) rfl
    have t1 := a7.ent.thaw 1
    have e8 : ∃ W8, w7.setCell ⟨w3.heap.size, 1, none⟩ (.int .i64 (s[a].toNat : Int)) = W8 ∧ ReAt w s (some (a + 1)) w3.heap.size [.int .i64 (n2 : Int), .int .i64 (s[a].toNat : Int), .string ⟨#[]⟩] W8 := ⟨_, rfl, a7.set 1 _⟩
    obtain ⟨W8, hW8, a8⟩ := e8
    have y2 := a8.ent.cell (j := 2) rfl
    have t2 := a8.ent.thaw 2
    have d1 : W8.cell? ⟨w.heap.size + 1, 1, none⟩ = some (.int .i64 ((a : Int) + 1)) := by
      obtain ⟨k', hk', hc', hj'⟩ := a8.cur
      obtain rfl := hj' _ rfl
      rw [BlockIs.cell hc' (j := 1) rfl]
      rfl
    have e9 : ∃ W9, W8.setCell ⟨w3.heap.size, 2, none⟩ (.string D) = W9 ∧ ReAt w s (some (a + 1)) w3.heap.size [.int .i64 (n2 : Int), .int .i64 (s[a].toNat : Int), .string D] W9 := ⟨_, rfl, a8.set 2 _⟩
    obtain ⟨W9, hW9, a9⟩ := e9
    have A9 := hid a9
    have v0 := a9.ent.cell (j := 0) rfl
    have v1 := a9.ent.cell (j := 1) rfl
    have v2 := a9.ent.cell (j := 2) rfl
    have HBS := hid hbs
    have HRA := hid hra
    have HRH := hid hrh
    clear c1 hbs hra hrh a7 a8 a9 A7 h1 h2 hD hX HO HN1 HN2 HTT hj C1 C2 C3 C4
    cases hE : (entryOk ⟨n2, s[a].toNat, D⟩ && within n1 1 1000000) with
    | false =>
      have hno : entryOk ⟨n2, s[a].toNat, D⟩ = false ∨ within n1 1 1000000 = false := by
        cases h : entryOk ⟨n2, s[a].toNat, D⟩ with
        | false => exact Or.inl rfl
        | true =>
          rw [h, Bool.true_and] at hE
          exact Or.inr hE
      have hr : Hid (readEntry s = none) := by
        show _ = _
        by_cases h0 : s[0] = 69
        · rw [HRA.out h0, if_neg (by simp [hE])]
        · exact HRH.out h0
      rw [entryText_no hno] at cT'
      dsimp only at cT'
      have cT := hid cT'
      clear cT' hno hE
      go_wp2_with fail
      refine Calls.mono (cT.out W9) ?_
      rintro e w10 ⟨rfl, b⟩
      have a10 := A9.out.below b
      clear b A9 hW8 hW9 c1' c2 d1 y1 y2 t1 t2 v0 v1 v2 cT
      have r0 := a10.res.cell (j := 0) rfl
      have r1 := a10.res.cell (j := 1) rfl
      have r2 := a10.res.cell (j := 2) rfl
      have g0 := a10.res.thaw 0
      have g1 := a10.res.thaw 1
      have g2 := a10.res.thaw 2
      have P := put3S a10.res (.int .i64 0) (.int .i64 0) (.string ⟨#[]⟩)
      have z0 := P.cell (j := 0) rfl
      have z1 := P.cell (j := 1) rfl
      have z2 := P.cell (j := 2) rfl
      have BZ := hid (below3S a10.bel (Nat.le_refl _) (.int .i64 0) (.int .i64 0) (.string ⟨#[]⟩))
      obtain ⟨WZ, hWZ⟩ : ∃ W, ((w10.setCell ⟨w.heap.size, 0, none⟩ (.int .i64 0)).setCell ⟨w.heap.size, 1, none⟩ (.int .i64 0)).setCell ⟨w.heap.size, 2, none⟩ (.string ⟨#[]⟩) = W := ⟨_, rfl⟩
      rw [hWZ] at z0 z1 z2 BZ
      clear P a10
      go_wp2
      refine bodyPost_ret (v := .tuple #[.int .i64 0, .agg #[.int .i64 0, .int .i64 0, .string ⟨#[]⟩], .bool false]) (by simp [results, Tryz.results52, go_sem, z0, z1, z2]) rfl ⟨reAnsS_none hr.out, BZ.out⟩
    | true =>
      have hyes : entryOk ⟨n2, s[a].toNat, D⟩ = true ∧ within n1 1 1000000 = true := by
        simpa [Bool.and_eq_true] using hE
      rw [entryText_yes hyes.1 hyes.2] at cT'
      dsimp only at cT'
      obtain ⟨Bk, hBk⟩ : ∃ Bk, entText n1 ⟨n2, s[a].toNat, D⟩ = Bk := ⟨_, rfl⟩
      have hbs := HBS.out
      rw [hBk] at cT' hbs
      have cT := hid cT'
      have HHE := hid hE
      clear cT' hyes hBk HBS hE
      by_cases h0 : s[0] = 69
      · have hr : Hid (readEntry s = some (n1, ⟨n2, s[a].toNat, D⟩)) := by
          show _ = _
          rw [HRA.out h0, if_pos HHE.out]
        rw [decide_eq_true h0] at hbs
        clear HRA HRH HHE h0
        go_wp2_with fail
        refine Calls.mono (cT.out W9) ?_
        rintro e w10 ⟨rfl, b⟩
        have a10 := A9.out.below b
        clear b A9 hW8 hW9 c1' c2 d1 y1 y2 t1 t2 v0 v1 v2 cT
        have r0 := a10.res.cell (j := 0) rfl
        have r1 := a10.res.cell (j := 1) rfl
        have r2 := a10.res.cell (j := 2) rfl
        have g0 := a10.res.thaw 0
        have g1 := a10.res.thaw 1
        have g2 := a10.res.thaw 2
        have x0 := a10.ent.cell (j := 0) rfl
        have x1 := a10.ent.cell (j := 1) rfl
        have x2 := a10.ent.cell (j := 2) rfl
        have e13 : ∃ W, (((w10.setCell ⟨w.heap.size, 0, none⟩ (.int .i64 (n2 : Int))).setCell ⟨w.heap.size, 1, none⟩ (.int .i64 (s[a].toNat : Int))).setCell ⟨w.heap.size, 2, none⟩ (.string D)).drew = W ∧ BlockIs W w.heap.size 57 [.int .i64 (n2 : Int), .int .i64 (s[a].toNat : Int), .string D] ∧ Below w.heap.size w W := ⟨_, rfl, put3S a10.res _ _ _, below_drewN (below3S a10.bel (Nat.le_refl _) _ _ _) 1⟩
        obtain ⟨W13, hW13, P13, B13⟩ := e13
        have HW13 := hid hW13
        have HP13 := hid P13
        have HB13 := hid B13
        clear hW13 P13 B13 a10
        go_wp2
        go_region
        all_goals
          go_wp2
          rw [HW13.out]
          have z0 := HP13.out.cell (j := 0) rfl
          have z1 := HP13.out.cell (j := 1) rfl
          have z2 := HP13.out.cell (j := 2) rfl
          refine bodyPost_ret (v := .tuple #[.int .i64 (n1 : Int), .agg #[.int .i64 (n2 : Int), .int .i64 (s[a].toNat : Int), .string D], .bool true]) (by simp [results, Tryz.results52, go_sem, z0, z1, z2]) rfl ⟨reAnsS_some hr.out, HB13.out⟩
      · have hr := hid (HRH.out h0)
        rw [decide_eq_false h0] at hbs
        clear HRA HRH HHE h0
        go_wp2_with fail
        refine Calls.mono (cT.out W9) ?_
        rintro e w10 ⟨rfl, b⟩
        have a10 := A9.out.below b
        clear b A9 hW8 hW9 c1' c2 d1 y1 y2 t1 t2 v0 v1 v2 cT
        have r0 := a10.res.cell (j := 0) rfl
        have r1 := a10.res.cell (j := 1) rfl
        have r2 := a10.res.cell (j := 2) rfl
        have g0 := a10.res.thaw 0
        have g1 := a10.res.thaw 1
        have g2 := a10.res.thaw 2
        have P := put3S a10.res (.int .i64 0) (.int .i64 0) (.string ⟨#[]⟩)
        have z0 := P.cell (j := 0) rfl
        have z1 := P.cell (j := 1) rfl
        have z2 := P.cell (j := 2) rfl
        have BZ := hid (below3S a10.bel (Nat.le_refl _) (.int .i64 0) (.int .i64 0) (.string ⟨#[]⟩))
        obtain ⟨WZ, hWZ⟩ : ∃ W, ((w10.setCell ⟨w.heap.size, 0, none⟩ (.int .i64 0)).setCell ⟨w.heap.size, 1, none⟩ (.int .i64 0)).setCell ⟨w.heap.size, 2, none⟩ (.string ⟨#[]⟩) = W := ⟨_, rfl⟩
        rw [hWZ] at z0 z1 z2 BZ
        clear P a10
        go_wp2
        refine bodyPost_ret (v := .tuple #[.int .i64 0, .agg #[.int .i64 0, .int .i64 0, .string ⟨#[]⟩], .bool false]) (by simp [results, Tryz.results52, go_sem, z0, z1, z2]) rfl ⟨reAnsS_none hr.out, BZ.out⟩
end Go.Proofs.YtohmfmajgehadaaGreatDoor
