/-
  The walk of spec.l17Right: some right message, its lists in memory of the call's own.
  The walk of spec.l01Long: a text of so many bytes.
-/
import Derived.Test.YtohmfmajgehadaaGreatDoorJoint15
import Derived.Test.YtohmfmajgehadaaGreatDoorJoint5
import Derived.Test.YtohmfmajgehadaaGreatDoorJoint1
import Derived.Test.YtohmfmajgehadaaGreatDoorJoint4
import Derived.Test.YtohmfmajgehadaaGreatDoorJoint2
namespace Go.Proofs.YtohmfmajgehadaaGreatDoor
open Go.RowKit Go.Sort

structure HeadB (src dst term index lt commit : Int) : Prop where
  s : 1 ≤ src ∧ src ≤ 4
  d : 1 ≤ dst ∧ dst ≤ 4
  n : ¬ src = dst
  t : 0 ≤ term ∧ term ≤ 7
  i : 0 ≤ index ∧ index ≤ 11
  l : 0 ≤ lt ∧ lt ≤ 7
  c : 0 ≤ commit ∧ commit ≤ 8
theorem head_of {kd src dst term index lt commit : Int} {ok last : Bool} {L : List EntD} {zs : List Int} {T : ByteArray} (h : HeadB src dst term index lt commit) : headOk ⟨kd, src, dst, term, index, lt, commit, ok, L, zs, T, last⟩ = true := by
  rw [headOk_iff]
  have a := h.s; have b := h.d; have c := h.t; have d := h.i; have e := h.l; have f := h.c
  exact ⟨a, b, h.n, ⟨⟨by show 0 ≤ index; omega, by show index ≤ 1000000; omega⟩, by show 0 ≤ lt; omega, by show lt ≤ 100000; omega⟩, ⟨by show 0 ≤ commit; omega, by show commit ≤ 1000000; omega⟩, by show 0 ≤ term; omega, by show term ≤ 100000; omega⟩
theorem right_bare {kd src dst term index lt commit : Int} {ok : Bool} (h : HeadB src dst term index lt commit) (h1 : 1 ≤ kd ∧ kd ≤ 6) (h3 : ¬ kd = 3) (h5 : ¬ kd = 5) : messageOk ⟨kd, src, dst, term, index, lt, commit, ok, [], [], ⟨#[]⟩, false⟩ = true := by
  rw [messageOk_iff]
  refine ⟨h1, head_of h, ?_⟩
  unfold cargoOk
  rw [if_neg h3, if_neg h5]
  rfl
theorem right_ents {src dst term index lt commit : Int} {ok : Bool} {L : List EntD} (h : HeadB src dst term index lt commit) (hl : L.length ≤ 4) (ht : termsOk lt L = true) (hp : lastT lt L ≤ term) : messageOk ⟨3, src, dst, term, index, lt, commit, ok, L, [], ⟨#[]⟩, false⟩ = true := by
  rw [messageOk_iff]
  refine ⟨⟨by show (1 : Int) ≤ 3; omega, by show (3 : Int) ≤ 6; omega⟩, head_of h, ?_⟩
  unfold cargoOk
  rw [if_pos rfl]
  have hs : sentOk lt term L = true := by rw [sentOk_is, ht]; simp [hp]
  show (decide (L.length ≤ 4) && sentOk lt term L && true && true && !false) = true
  rw [hs]
  simp [hl]
theorem right_chunk {src dst term index lt commit : Int} {ok last : Bool} {zs : List Int} {T : ByteArray} (h : HeadB src dst term index lt commit) (hz : confOk zs = true) (hT : T.size ≤ 60) : messageOk ⟨5, src, dst, term, index, lt, commit, ok, [], zs, T, last⟩ = true := by
  rw [messageOk_iff]
  refine ⟨⟨by show (1 : Int) ≤ 5; omega, by show (5 : Int) ≤ 6; omega⟩, head_of h, ?_⟩
  unfold cargoOk
  rw [if_neg (by show ¬ (5 : Int) = 3; omega), if_pos rfl]
  show (true && confOk zs && decide (T.size ≤ 60)) = true
  rw [hz]
  simp [hT]

def MsgDrew (C : Nat) (w : World) (e : Ending) (w' : World) : Prop := ∃ (d : MsgD) (va vb : Option Addr) (vc vd : Nat), e = .returned (.agg #[.int .i64 d.kind, .int .i64 d.src, .int .i64 d.dst, .int .i64 d.term, .int .i64 d.index, .int .i64 d.logTerm, .int .i64 d.commit, .bool d.ok, .slice va d.ents.length vc, .slice vb d.conf.length vd, .string d.data, .bool d.last]) ∧ messageOk d = true ∧ w'.ownsRow w.heap.size 57 3 (.slice va d.ents.length vc) d.ents.length (entCells d.ents) ∧ w'.ownsRow w.heap.size 3 1 (.slice vb d.conf.length vd) d.conf.length (is d.conf) ∧ CurAt w' C ∧ w.grownBy w' (some C)
set_option maxRecDepth 1000000 in
set_option maxHeartbeats 8000000 in
theorem l17Right_any (C : Nat) (w : World) (hc : CurAt w C) :
    Calls Tryz.prog 76 #[.pointer (some ⟨C, 0, none⟩)] w fun e w' => MsgDrew C w e w' := by
  have hCl := hc.lt
  have K0 := hid hc
  have G0 := hid (World.grownBy.refl w (some C))
  clear hc
  have be := below_more (Below.refl w.heap.size w) (.cells #[.int .i64 0, .int .i64 0, .int .i64 0, .int .i64 0, .int .i64 0, .int .i64 0, .int .i64 0, .bool false, .slice none 0 0, .slice none 0 0, .string ⟨#[]⟩, .bool false] 39)
  have hx1 : BlockIs (w.alloc (.cells #[.int .i64 0, .int .i64 0, .int .i64 0, .int .i64 0, .int .i64 0, .int .i64 0, .int .i64 0, .bool false, .slice none 0 0, .slice none 0 0, .string ⟨#[]⟩, .bool false] 39)) w.heap.size 39 [.int .i64 0, .int .i64 0, .int .i64 0, .int .i64 0, .int .i64 0, .int .i64 0, .int .i64 0, .bool false, .slice none 0 0, .slice none 0 0, .string ⟨#[]⟩, .bool false] := heap_alloc_new w _
  have K1 := hid (K0.out.below be)
  have G1 := hid (grown_below G0.out be)
  have Xr1 := hid hx1
  have Nr : Hid (C < w.heap.size) := (show _ < _ by omega)
  have Mr : Hid (w.heap.size ≤ w.heap.size) := (show _ ≤ _ by omega)
  clear be hx1  K0 G0
  obtain ⟨W0, hW0⟩ : ∃ W, w.alloc (.cells #[.int .i64 0, .int .i64 0, .int .i64 0, .int .i64 0, .int .i64 0, .int .i64 0, .int .i64 0, .bool false, .slice none 0 0, .slice none 0 0, .string ⟨#[]⟩, .bool false] 39) = W := ⟨_, rfl⟩
  rw [hW0] at K1 G1 Xr1
  have zr0_2 := Xr1.out.cell (j := 0) rfl
  have zr1_2 := Xr1.out.cell (j := 1) rfl
  have zr2_2 := Xr1.out.cell (j := 2) rfl
  have zr3_2 := Xr1.out.cell (j := 3) rfl
  have zr4_2 := Xr1.out.cell (j := 4) rfl
  have zr5_2 := Xr1.out.cell (j := 5) rfl
  have zr6_2 := Xr1.out.cell (j := 6) rfl
  have zr7_2 := Xr1.out.cell (j := 7) rfl
  have zr8_2 := Xr1.out.cell (j := 8) rfl
  have zr9_2 := Xr1.out.cell (j := 9) rfl
  have zr10_2 := Xr1.out.cell (j := 10) rfl
  have zr11_2 := Xr1.out.cell (j := 11) rfl
  have yr0_2 := Xr1.out.thaw 0
  have yr1_2 := Xr1.out.thaw 1
  have yr2_2 := Xr1.out.thaw 2
  have yr3_2 := Xr1.out.thaw 3
  have yr4_2 := Xr1.out.thaw 4
  have yr5_2 := Xr1.out.thaw 5
  have yr6_2 := Xr1.out.thaw 6
  have yr7_2 := Xr1.out.thaw 7
  have yr8_2 := Xr1.out.thaw 8
  have yr9_2 := Xr1.out.thaw 9
  have yr10_2 := Xr1.out.thaw 10
  have yr11_2 := Xr1.out.thaw 11
  go_enter Tryz.func76, Tryz.ntmps76
  go_wp2_with fail
  refine Calls.mono (l01Below_any C 6 (by omega) (by omega) _ K1.out) ?_
  rintro e w1 ⟨y1, rfl, lo1, hi1, k1, q1⟩
  have K3 := hid (k1)
  have G3 := hid (G1.out.trans q1)
  have Xr3 := hid (Xr1.out.cur q1 Nr.out)
  clear k1 q1 K1 G1 zr0_2 zr1_2 zr2_2 zr3_2 zr4_2 zr5_2 zr6_2 zr7_2 zr8_2 zr9_2 zr10_2 zr11_2 yr0_2 yr1_2 yr2_2 yr3_2 yr4_2 yr5_2 yr6_2 yr7_2 yr8_2 yr9_2 yr10_2 yr11_2 Xr1
  by_cases k3 : y1 = 2
  · subst k3
    go_wp2_with fail
    refine Calls.mono (l01Below_any C 4 (by omega) (by omega) _ K3.out) ?_
    rintro e w2 ⟨y2, rfl, lo2, hi2, k2, q2⟩
    have K4 := hid (k2)
    have G4 := hid (G3.out.trans q2)
    have Xr4 := hid (Xr3.out.cur q2 Nr.out)
    clear k2 q2 K3 G3 Xr3
    obtain ⟨fr, hfr⟩ : ∃ f, 1 + y2 = f := ⟨_, rfl⟩
    have hfr0 : 1 ≤ fr ∧ fr ≤ 4 := by omega
    clear lo2 hi2
    go_wp2_with fail
    refine Calls.mono (l01Below_any C 8 (by omega) (by omega) _ K4.out) ?_
    rintro e w3 ⟨y3, rfl, lo3, hi3, k3, q3⟩
    have K5 := hid (k3)
    have G5 := hid (G4.out.trans q3)
    have Xr5 := hid (Xr4.out.cur q3 Nr.out)
    clear k3 q3 K4 G4 Xr4
    go_wp2_with fail
    refine Calls.mono (l01Below_any C 12 (by omega) (by omega) _ K5.out) ?_
    rintro e w4 ⟨y4, rfl, lo4, hi4, k4, q4⟩
    have K6 := hid (k4)
    have G6 := hid (G5.out.trans q4)
    have Xr6 := hid (Xr5.out.cur q4 Nr.out)
    clear k4 q4 K5 G5 Xr5
    go_wp2_with fail
    refine Calls.mono (l01Below_any C 5 (by omega) (by omega) _ K6.out) ?_
    rintro e w5 ⟨y5, rfl, lo5, hi5, k5, q5⟩
    have K7 := hid (k5)
    have G7 := hid (G6.out.trans q5)
    have Xr7 := hid (Xr6.out.cur q5 Nr.out)
    clear k5 q5 K6 G6 Xr6
    go_wp2_with fail
    refine Calls.mono (l01Below_any C 9 (by omega) (by omega) _ K7.out) ?_
    rintro e w6 ⟨y6, rfl, lo6, hi6, k6, q6⟩
    have K8 := hid (k6)
    have G8 := hid (G7.out.trans q6)
    have Xr8 := hid (Xr7.out.cur q6 Nr.out)
    clear k6 q6 K7 G7 Xr7
    go_wp2_with fail
    refine Calls.mono (l01Once_any C 2 (by omega) (by omega) _ K8.out) ?_
    rintro e w7 ⟨b7, rfl, k7, q7⟩
    have K9 := hid (k7)
    have G9 := hid (G8.out.trans q7)
    have Xr9 := hid (Xr8.out.cur q7 Nr.out)
    clear k7 q7 K8 G8 Xr8
    obtain ⟨tq, htq⟩ : ∃ q, fr.tmod 4 = q := ⟨_, rfl⟩
    have htq0 : (0 ≤ tq ∧ tq ≤ 3) ∧ ¬ fr = tq + 1 := by
      rcases (show fr = 1 ∨ fr = 2 ∨ fr = 3 ∨ fr = 4 by omega) with h | h | h | h <;> subst h <;> subst htq <;> decide
    have ba := below_more (Below.refl w7.heap.size w7) (.cells #[.int .i64 3, .int .i64 fr, .int .i64 (tq + 1), .int .i64 y3, .int .i64 y4, .int .i64 y5, .int .i64 y6, .bool b7, .slice none 0 0, .slice none 0 0, .string ⟨#[]⟩, .bool false] 39)
    have Mx := hid G9.out.size
    have Nx := hid (Nat.lt_of_lt_of_le hCl G9.out.size)
    have hx : BlockIs (w7.alloc (.cells #[.int .i64 3, .int .i64 fr, .int .i64 (tq + 1), .int .i64 y3, .int .i64 y4, .int .i64 y5, .int .i64 y6, .bool b7, .slice none 0 0, .slice none 0 0, .string ⟨#[]⟩, .bool false] 39)) w7.heap.size 39 [.int .i64 3, .int .i64 fr, .int .i64 (tq + 1), .int .i64 y3, .int .i64 y4, .int .i64 y5, .int .i64 y6, .bool b7, .slice none 0 0, .slice none 0 0, .string ⟨#[]⟩, .bool false] := heap_alloc_new w7 _
    have Arx := hid Xr9.out.lt
    have K10 := hid (K9.out.below ba)
    have G10 := hid (grown_below G9.out ba)
    have Xr10 := hid (Xr9.out.on ba Xr9.out.lt)
    have Xx10 := hid hx
    clear hx
    clear ba K9 G9 Xr9
    have zr0_11 := Xr10.out.cell (j := 0) rfl
    have zr1_11 := Xr10.out.cell (j := 1) rfl
    have zr2_11 := Xr10.out.cell (j := 2) rfl
    have zr3_11 := Xr10.out.cell (j := 3) rfl
    have zr4_11 := Xr10.out.cell (j := 4) rfl
    have zr5_11 := Xr10.out.cell (j := 5) rfl
    have zr6_11 := Xr10.out.cell (j := 6) rfl
    have zr7_11 := Xr10.out.cell (j := 7) rfl
    have zr8_11 := Xr10.out.cell (j := 8) rfl
    have zr9_11 := Xr10.out.cell (j := 9) rfl
    have zr10_11 := Xr10.out.cell (j := 10) rfl
    have zr11_11 := Xr10.out.cell (j := 11) rfl
    have yr0_11 := Xr10.out.thaw 0
    have yr1_11 := Xr10.out.thaw 1
    have yr2_11 := Xr10.out.thaw 2
    have yr3_11 := Xr10.out.thaw 3
    have yr4_11 := Xr10.out.thaw 4
    have yr5_11 := Xr10.out.thaw 5
    have yr6_11 := Xr10.out.thaw 6
    have yr7_11 := Xr10.out.thaw 7
    have yr8_11 := Xr10.out.thaw 8
    have yr9_11 := Xr10.out.thaw 9
    have yr10_11 := Xr10.out.thaw 10
    have yr11_11 := Xr10.out.thaw 11
    have zx0_11 := Xx10.out.cell (j := 0) rfl
    have zx1_11 := Xx10.out.cell (j := 1) rfl
    have zx2_11 := Xx10.out.cell (j := 2) rfl
    have zx3_11 := Xx10.out.cell (j := 3) rfl
    have zx4_11 := Xx10.out.cell (j := 4) rfl
    have zx5_11 := Xx10.out.cell (j := 5) rfl
    have zx6_11 := Xx10.out.cell (j := 6) rfl
    have zx7_11 := Xx10.out.cell (j := 7) rfl
    have zx8_11 := Xx10.out.cell (j := 8) rfl
    have zx9_11 := Xx10.out.cell (j := 9) rfl
    have zx10_11 := Xx10.out.cell (j := 10) rfl
    have zx11_11 := Xx10.out.cell (j := 11) rfl
    have yx0_11 := Xx10.out.thaw 0
    have yx1_11 := Xx10.out.thaw 1
    have yx2_11 := Xx10.out.thaw 2
    have yx3_11 := Xx10.out.thaw 3
    have yx4_11 := Xx10.out.thaw 4
    have yx5_11 := Xx10.out.thaw 5
    have yx6_11 := Xx10.out.thaw 6
    have yx7_11 := Xx10.out.thaw 7
    have yx8_11 := Xx10.out.thaw 8
    have yx9_11 := Xx10.out.thaw 9
    have yx10_11 := Xx10.out.thaw 10
    have yx11_11 := Xx10.out.thaw 11
    go_wp2_with fail
    refine Calls.mono (l01Below_any C (y3 + 1) (by omega) (by omega) _ K10.out) ?_
    rintro e w8 ⟨y8, rfl, lo8, hi8, k8, q8⟩
    have K12 := hid (k8)
    have G12 := hid (G10.out.trans q8)
    have Xr12 := hid (Xr10.out.cur q8 Nr.out)
    have Xx12 := hid (Xx10.out.cur q8 Nx.out)
    clear k8 q8 K10 G10 zr0_11 zr1_11 zr2_11 zr3_11 zr4_11 zr5_11 zr6_11 zr7_11 zr8_11 zr9_11 zr10_11 zr11_11 yr0_11 yr1_11 yr2_11 yr3_11 yr4_11 yr5_11 yr6_11 yr7_11 yr8_11 yr9_11 yr10_11 yr11_11 zx0_11 zx1_11 zx2_11 zx3_11 zx4_11 zx5_11 zx6_11 zx7_11 zx8_11 zx9_11 zx10_11 zx11_11 yx0_11 yx1_11 yx2_11 yx3_11 yx4_11 yx5_11 yx6_11 yx7_11 yx8_11 yx9_11 yx10_11 yx11_11 Xr10 Xx10
    have zr0_13 := Xr12.out.cell (j := 0) rfl
    have zr1_13 := Xr12.out.cell (j := 1) rfl
    have zr2_13 := Xr12.out.cell (j := 2) rfl
    have zr3_13 := Xr12.out.cell (j := 3) rfl
    have zr4_13 := Xr12.out.cell (j := 4) rfl
    have zr5_13 := Xr12.out.cell (j := 5) rfl
    have zr6_13 := Xr12.out.cell (j := 6) rfl
    have zr7_13 := Xr12.out.cell (j := 7) rfl
    have zr8_13 := Xr12.out.cell (j := 8) rfl
    have zr9_13 := Xr12.out.cell (j := 9) rfl
    have zr10_13 := Xr12.out.cell (j := 10) rfl
    have zr11_13 := Xr12.out.cell (j := 11) rfl
    have yr0_13 := Xr12.out.thaw 0
    have yr1_13 := Xr12.out.thaw 1
    have yr2_13 := Xr12.out.thaw 2
    have yr3_13 := Xr12.out.thaw 3
    have yr4_13 := Xr12.out.thaw 4
    have yr5_13 := Xr12.out.thaw 5
    have yr6_13 := Xr12.out.thaw 6
    have yr7_13 := Xr12.out.thaw 7
    have yr8_13 := Xr12.out.thaw 8
    have yr9_13 := Xr12.out.thaw 9
    have yr10_13 := Xr12.out.thaw 10
    have yr11_13 := Xr12.out.thaw 11
    have zx0_13 := Xx12.out.cell (j := 0) rfl
    have zx1_13 := Xx12.out.cell (j := 1) rfl
    have zx2_13 := Xx12.out.cell (j := 2) rfl
    have zx3_13 := Xx12.out.cell (j := 3) rfl
    have zx4_13 := Xx12.out.cell (j := 4) rfl
    have zx5_13 := Xx12.out.cell (j := 5) rfl
    have zx6_13 := Xx12.out.cell (j := 6) rfl
    have zx7_13 := Xx12.out.cell (j := 7) rfl
    have zx8_13 := Xx12.out.cell (j := 8) rfl
    have zx9_13 := Xx12.out.cell (j := 9) rfl
    have zx10_13 := Xx12.out.cell (j := 10) rfl
    have zx11_13 := Xx12.out.cell (j := 11) rfl
    have yx0_13 := Xx12.out.thaw 0
    have yx1_13 := Xx12.out.thaw 1
    have yx2_13 := Xx12.out.thaw 2
    have yx3_13 := Xx12.out.thaw 3
    have yx4_13 := Xx12.out.thaw 4
    have yx5_13 := Xx12.out.thaw 5
    have yx6_13 := Xx12.out.thaw 6
    have yx7_13 := Xx12.out.thaw 7
    have yx8_13 := Xx12.out.thaw 8
    have yx9_13 := Xx12.out.thaw 9
    have yx10_13 := Xx12.out.thaw 10
    have yx11_13 := Xx12.out.thaw 11
    have hlt9 : 0 ≤ y8 ∧ y8 ≤ y3 := by omega
    have K14 := hid (K12.out.set (b := w7.heap.size) (j := 5) (v := (.int .i64 y8)) Nx.out)
    have G14 := hid (grown_far (b := w7.heap.size) (j := 5) (v := (.int .i64 y8)) G12.out Mx.out)
    have Xr14 := hid (Xr12.out.far (b := w7.heap.size) (j := 5) (by have := Arx.out; omega) (.int .i64 y8))
    have Xx14 : Hid (BlockIs (w8.setCell ⟨w7.heap.size, 5, none⟩ (.int .i64 y8)) (w7.heap.size) 39 [.int .i64 3, .int .i64 fr, .int .i64 (tq + 1), .int .i64 y3, .int .i64 y4, .int .i64 y8, .int .i64 y6, .bool b7, .slice none 0 0, .slice none 0 0, .string ⟨#[]⟩, .bool false]) := Xx12.out.set 5 (.int .i64 y8)
    clear K12 G12 Xr12 Xx12
    have zr0_15 := Xr14.out.cell (j := 0) rfl
    have zr1_15 := Xr14.out.cell (j := 1) rfl
    have zr2_15 := Xr14.out.cell (j := 2) rfl
    have zr3_15 := Xr14.out.cell (j := 3) rfl
    have zr4_15 := Xr14.out.cell (j := 4) rfl
    have zr5_15 := Xr14.out.cell (j := 5) rfl
    have zr6_15 := Xr14.out.cell (j := 6) rfl
    have zr7_15 := Xr14.out.cell (j := 7) rfl
    have zr8_15 := Xr14.out.cell (j := 8) rfl
    have zr9_15 := Xr14.out.cell (j := 9) rfl
    have zr10_15 := Xr14.out.cell (j := 10) rfl
    have zr11_15 := Xr14.out.cell (j := 11) rfl
    have yr0_15 := Xr14.out.thaw 0
    have yr1_15 := Xr14.out.thaw 1
    have yr2_15 := Xr14.out.thaw 2
    have yr3_15 := Xr14.out.thaw 3
    have yr4_15 := Xr14.out.thaw 4
    have yr5_15 := Xr14.out.thaw 5
    have yr6_15 := Xr14.out.thaw 6
    have yr7_15 := Xr14.out.thaw 7
    have yr8_15 := Xr14.out.thaw 8
    have yr9_15 := Xr14.out.thaw 9
    have yr10_15 := Xr14.out.thaw 10
    have yr11_15 := Xr14.out.thaw 11
    have zx0_15 := Xx14.out.cell (j := 0) rfl
    have zx1_15 := Xx14.out.cell (j := 1) rfl
    have zx2_15 := Xx14.out.cell (j := 2) rfl
    have zx3_15 := Xx14.out.cell (j := 3) rfl
    have zx4_15 := Xx14.out.cell (j := 4) rfl
    have zx5_15 := Xx14.out.cell (j := 5) rfl
    have zx6_15 := Xx14.out.cell (j := 6) rfl
    have zx7_15 := Xx14.out.cell (j := 7) rfl
    have zx8_15 := Xx14.out.cell (j := 8) rfl
    have zx9_15 := Xx14.out.cell (j := 9) rfl
    have zx10_15 := Xx14.out.cell (j := 10) rfl
    have zx11_15 := Xx14.out.cell (j := 11) rfl
    have yx0_15 := Xx14.out.thaw 0
    have yx1_15 := Xx14.out.thaw 1
    have yx2_15 := Xx14.out.thaw 2
    have yx3_15 := Xx14.out.thaw 3
    have yx4_15 := Xx14.out.thaw 4
    have yx5_15 := Xx14.out.thaw 5
    have yx6_15 := Xx14.out.thaw 6
    have yx7_15 := Xx14.out.thaw 7
    have yx8_15 := Xx14.out.thaw 8
    have yx9_15 := Xx14.out.thaw 9
    have yx10_15 := Xx14.out.thaw 10
    have yx11_15 := Xx14.out.thaw 11
    go_wp2
    have HO0 : Hid (World.ownsRow (w8.setCell ⟨w7.heap.size, 5, none⟩ (.int .i64 y8)) (w7.heap.size + 1) 57 3 (.slice none 0 0) 0 (entCells [])) := ⟨rfl, Or.inl ⟨rfl, rfl⟩⟩
    go_loopw [4, 5] (fun t i wr => ∃ (k : Nat) (tm : Int) (L : List EntD) (va : Option Addr) (vc : Nat), k ≤ 4 ∧ i = .int .i64 k ∧ t = .int .i64 tm ∧ y8 ≤ tm ∧ tm ≤ y3 ∧ Hid (L.length = k) ∧ Hid (termsOk y8 L = true ∧ lastT y8 L ≤ tm) ∧ Hid (CurAt wr C) ∧ Hid (w.grownBy wr (some C)) ∧ Hid (BlockIs wr w.heap.size 39 [.int .i64 0, .int .i64 0, .int .i64 0, .int .i64 0, .int .i64 0, .int .i64 0, .int .i64 0, .bool false, .slice none 0 0, .slice none 0 0, .string ⟨#[]⟩, .bool false]) ∧ Hid (BlockIs wr (w7.heap.size) 39 [.int .i64 3, .int .i64 fr, .int .i64 (tq + 1), .int .i64 y3, .int .i64 y4, .int .i64 y8, .int .i64 y6, .bool b7, .slice va L.length vc, .slice none 0 0, .string ⟨#[]⟩, .bool false]) ∧ Hid (wr.ownsRow (w7.heap.size + 1) 57 3 (.slice va L.length vc) L.length (entCells L))) (fun _ i _ => 5 - (intOf i).toNat)
    case atStart => exact ⟨0, y8, [], none, 0, by omega, rfl, rfl, by omega, by omega, rfl, ⟨rfl, Int.le_refl _⟩, K14, G14, Xr14, Xx14, HO0⟩
    case round =>
      clear HO0 K14 G14 Xr14 Xx14 zr0_15 zr1_15 zr2_15 zr3_15 zr4_15 zr5_15 zr6_15 zr7_15 zr8_15 zr9_15 zr10_15 zr11_15 yr0_15 yr1_15 yr2_15 yr3_15 yr4_15 yr5_15 yr6_15 yr7_15 yr8_15 yr9_15 yr10_15 yr11_15 zx0_15 zx1_15 zx2_15 zx3_15 zx4_15 zx5_15 zx6_15 zx7_15 zx8_15 zx9_15 zx10_15 zx11_15 yx0_15 yx1_15 yx2_15 yx3_15 yx4_15 yx5_15 yx6_15 yx7_15 yx8_15 yx9_15 yx10_15 yx11_15 zr0_13 zr1_13 zr2_13 zr3_13 zr4_13 zr5_13 zr6_13 zr7_13 zr8_13 zr9_13 zr10_13 zr11_13 yr0_13 yr1_13 yr2_13 yr3_13 yr4_13 yr5_13 yr6_13 yr7_13 yr8_13 yr9_13 yr10_13 yr11_13 zx0_13 zx1_13 zx2_13 zx3_13 zx4_13 zx5_13 zx6_13 zx7_13 zx8_13 zx9_13 zx10_13 zx11_13 yx0_13 yx1_13 yx2_13 yx3_13 yx4_13 yx5_13 yx6_13 yx7_13 yx8_13 yx9_13 yx10_13 yx11_13
      obtain ⟨k, tm, L, va, vc, hk, rfl, rfl, ht0, ht1, HLk, HTO, KC, GC, XR, XB, HO⟩ := hrel
      go_wp2_with fail
      refine (l01Below_any C 5 (by omega) (by omega) _ KC.out).mono ?_
      rintro e w20 ⟨y, rfl, y0, y1, k20, q20⟩
      have K2 := hid k20
      have G2 := hid (GC.out.trans q20)
      have R2 := hid (XR.out.cur q20 Nr.out)
      have B2 := hid (XB.out.cur q20 Nx.out)
      have H2 := hid (row_pastM HO.out q20 (by have := Nx.out; omega))
      clear k20 q20 KC GC XR XB HO
      have KC := K2
      have GC := G2
      have XR := R2
      have XB := B2
      have HO := H2
      clear K2 G2 R2 B2 H2
      by_cases hlt : (k : Int) < y
      · have zx3 := XB.out.cell (j := 3) rfl
        go_wp2_with fail
        refine (l01Below_any C (y3 - tm + 1) (by omega) (by omega) _ KC.out).mono ?_
        rintro e w21 ⟨z, rfl, z0, z1, k21, q21⟩
        clear zx3
        have K2 := hid k21
        have G2 := hid (GC.out.trans q21)
        have R2 := hid (XR.out.cur q21 Nr.out)
        have B2 := hid (XB.out.cur q21 Nx.out)
        have H2 := hid (row_pastM HO.out q21 (by have := Nx.out; omega))
        clear k21 q21 KC GC XR XB HO
        have KC := K2
        have GC := G2
        have XR := R2
        have XB := B2
        have HO := H2
        clear K2 G2 R2 B2 H2
        go_wp2
        refine wp_region_from (N := 77) (by kernel_rfl) (by kernel_rfl) rfl (by kernel_rfl) (fun W => CurAt W C ∧ w.grownBy W (some C) ∧ BlockIs W (w.heap.size) 39 [.int .i64 0, .int .i64 0, .int .i64 0, .int .i64 0, .int .i64 0, .int .i64 0, .int .i64 0, .bool false, .slice none 0 0, .slice none 0 0, .string ⟨#[]⟩, .bool false]) (fun j v u W => match j with | 0 => v = .pointer (some ⟨w7.heap.size, 8, none⟩) | 1 => v = .slice va L.length vc | 2 => v = .pointer (some ⟨C, 0, none⟩) | 3 => v = .int .i64 (tm + z) | 4 => ∃ d : EntD, v = .agg #[.int .i64 d.term, .int .i64 d.kind, .string d.data] ∧ d.Short (tm + z) | 5 => ∃ (g : Nat) (d : EntD), v = .slice (some ⟨g, 0, none⟩) 1 1 ∧ d.Short (tm + z) ∧ w7.heap.size ≤ g ∧ BlockIs W g 57 (entEnc d) | 6 => ∃ (va' : Option Addr) (vc' : Nat) (d : EntD), v = .slice va' (L.length + 1) vc' ∧ d.Short (tm + z) ∧ W.ownsRow (w7.heap.size + 1) 57 3 (.slice va' (L.length + 1) vc') (L.length + 1) (entCells (L ++ [d])) | 7 => v = .pointer (some ⟨w7.heap.size, 8, none⟩) | 8 => ∃ (va' : Option Addr) (vc' : Nat) (d : EntD), u = .slice va' (L.length + 1) vc' ∧ d.Short (tm + z) ∧ W.ownsRow (w7.heap.size + 1) 57 3 (.slice va' (L.length + 1) vc') (L.length + 1) (entCells (L ++ [d])) ∧ BlockIs W (w7.heap.size) 39 [.int .i64 3, .int .i64 fr, .int .i64 (tq + 1), .int .i64 y3, .int .i64 y4, .int .i64 y8, .int .i64 y6, .bool b7, .slice va' (L.length + 1) vc', .slice none 0 0, .string ⟨#[]⟩, .bool false] | _ => True) (fun i => if i = 8 then 6 else i) (fun j i => decide ((j, i) ∈ ([(5, 6)] : List (Nat × Nat)))) (fun i x y => x.heap.size ≤ y.heap.size ∧ ∀ g ty cs, BlockIs x g ty cs → w7.heap.size ≤ g → (i = 6 → ty ≠ 57) → (i = 8 → ty ≠ 39) → BlockIs y g ty cs) (fun q9 W => match q9 with | 0 => W.ownsRow (w7.heap.size + 1) 57 3 (.slice va L.length vc) L.length (entCells L) | 1 => BlockIs W (w7.heap.size) 39 [.int .i64 3, .int .i64 fr, .int .i64 (tq + 1), .int .i64 y3, .int .i64 y4, .int .i64 y8, .int .i64 y6, .bool b7, .slice va L.length vc, .slice none 0 0, .string ⟨#[]⟩, .bool false] | _ => True) (fun m k => decide ((m, k) ∈ ([(0, 6), (1, 8)] : List (Nat × Nat)))) ?_ (fun i => if i = 8 then 61 else 0) (by kernel_rfl) (fun i hi => by have : 9 ≤ i := hi; simp; omega) ?_ ⟨KC.out.below (below_drewN (Below.refl _ _) 1), grown_below GC.out (below_drewN (Below.refl _ _) 1), XR.out.on (below_drewN (Below.refl _ _) 1) XR.out.lt⟩ (fun q9 => match q9 with | 0 => row_belowM HO.out (below_drewN (Below.refl _ _) 1) | 1 => XB.out.on (below_drewN (Below.refl _ _) 1) XB.out.lt | _ + 2 => trivial) ?_ ?_
        · intro i m x y hen hxy hm
          match m, hen, hm with
          | 0, hen, hm =>
            simp at hen
            exact row_fromM hm fun g cs hg h => hxy.2 _ _ _ h (by have o1 := Nx.out; have o2 := Mx.out; have o3 := Arx.out; omega) (fun e => absurd e hen) (fun _ => by decide)
          | 1, hen, hm =>
            simp at hen
            exact hxy.2 _ _ _ hm (by have o1 := Nx.out; have o2 := Mx.out; have o3 := Arx.out; omega) (fun _ => by decide) (fun e => absurd e hen)
          | n + 2, _, _ => exact trivial
        · intro i j v u x y hij hdd hwt hxy hg
          match j, hg with
          | 0, hg => exact hg
          | 1, hg => exact hg
          | 2, hg => exact hg
          | 3, hg => exact hg
          | 4, hg => exact hg
          | 5, hg =>
            obtain ⟨g, d, e1, hd, hlt, e2⟩ := hg
            simp at hdd
            exact ⟨g, d, e1, hd, hlt, hxy.2 _ _ _ e2 hlt (fun e => absurd e hdd) (fun _ => by decide)⟩
          | 6, hg =>
            obtain ⟨va', vc', d, e1, hd, e2⟩ := hg
            exact ⟨va', vc', d, e1, hd, row_fromM e2 fun g cs hg h => hxy.2 _ _ _ h (by have o1 := Nx.out; have o2 := Mx.out; have o3 := Arx.out; omega) (fun e => absurd e hij) (fun _ => by decide)⟩
          | 7, hg => exact hg
          | 8, hg =>
            obtain ⟨va', vc', d, e1, hd, e2, e3⟩ := hg
            have h6 : i ≠ 6 := by rintro rfl; exact Bool.noConfusion (hwt.symm.trans (by kernel_rfl : waitsB _ 8 6 = true))
            exact ⟨va', vc', d, e1, hd, row_fromM e2 fun g cs hg h => hxy.2 _ _ _ h (by have o1 := Nx.out; have o2 := Mx.out; have o3 := Arx.out; omega) (fun e => absurd e h6) (fun _ => by decide), hxy.2 _ _ _ e3 (by have o1 := Nx.out; have o2 := Mx.out; have o3 := Arx.out; omega) (fun _ => by decide) (fun e => absurd e hij)⟩
          | n + 9, _ => exact trivial
        · refine ⟨?_, ?_, ?_, ?_, ?_, ?_, ?_, ?_, ?_, trivial⟩
          · intro A W hC hI hg hb
            have h3 : A.eval (.tmp 3) = .pointer (some ⟨w7.heap.size, 0, none⟩) := hb 3 (base_of (by kernel_rfl))
            exact does_value (v := .pointer (some ⟨w7.heap.size, 8, none⟩)) (w' := W) (by simp only [execOp, h3]; simp [go_sem]) ⟨rfl, hC, Nat.le_refl _, fun _ _ _ h _ _ _ => h⟩
          · intro A W hC hI hg hb
            have h55 : A.eval (.tmp 55) = .pointer (some ⟨w7.heap.size, 8, none⟩) := hg 0 55 (by decide) rfl (by simp [Op.operands]) (by kernel_rfl) rfl
            have hb1 : BlockIs W (w7.heap.size) 39 [.int .i64 3, .int .i64 fr, .int .i64 (tq + 1), .int .i64 y3, .int .i64 y4, .int .i64 y8, .int .i64 y6, .bool b7, .slice va L.length vc, .slice none 0 0, .string ⟨#[]⟩, .bool false] := hI 1 (by kernel_rfl)
            have hc := hb1.cell (j := 8) rfl
            exact does_value (v := .slice va L.length vc) (w' := W) (by simp only [execOp, h55]; simp [go_sem, hc]) ⟨rfl, hC, Nat.le_refl _, fun _ _ _ h _ _ _ => h⟩
          · intro A W hC hI hg hb
            have h0 : A.eval (.tmp 0) = .pointer (some ⟨C, 0, none⟩) := hb 0 (base_of (by kernel_rfl))
            exact does_value (v := .pointer (some ⟨C, 0, none⟩)) (w' := W) (by simp only [execOp, h0]; simp [go_sem]) ⟨rfl, hC, Nat.le_refl _, fun _ _ _ h _ _ _ => h⟩
          · intro A W hC hI hg hb
            have h4 : A.eval (.tmp 4) = .int .i64 (tm + z) := hb 4 (base_of (by kernel_rfl))
            exact does_value (v := .int .i64 (tm + z)) (w' := W) (by simp only [execOp, h4]; simp [go_sem]) ⟨rfl, hC, Nat.le_refl _, fun _ _ _ h _ _ _ => h⟩
          · intro A W hC hI hg hb
            have h57 : A.eval (.tmp 57) = .pointer (some ⟨C, 0, none⟩) := hg 2 57 (by decide) rfl (by simp [Op.operands, Call.operands]) (by kernel_rfl) rfl
            have h58 : A.eval (.tmp 58) = .int .i64 (tm + z) := hg 3 58 (by decide) rfl (by simp [Op.operands, Call.operands]) (by kernel_rfl) rfl
            simp [go_sem] at h57 h58
            refine does_enter (f := 121) (args := #[.pointer (some ⟨C, 0, none⟩), .int .i64 (tm + z)]) (w' := W) (by simp [go_sem, h57, h58]) ?_
            obtain ⟨hk, hgr, hr⟩ := hC
            refine (l05Right_any C (tm + z) W hk).mono ?_
            rintro e W' ⟨d, rfl, hd, k', q'⟩
            exact ⟨_, rfl, ⟨d, rfl, hd⟩, ⟨k', hgr.trans q', hr.cur q' Nr.out⟩, q'.size, fun g ty cs h hg _ _ => h.cur q' (by have o1 := Nx.out; have o2 := Mx.out; have o3 := Arx.out; omega)⟩
          · intro A W hC hI hg hb
            have g4 := hg 4 59 (by decide) rfl (by simp [Op.operands]) (by kernel_rfl) rfl
            obtain ⟨d, h59, hd⟩ := g4
            simp [go_sem] at h59
            have hb1 : BlockIs W (w7.heap.size) 39 [.int .i64 3, .int .i64 fr, .int .i64 (tq + 1), .int .i64 y3, .int .i64 y4, .int .i64 y8, .int .i64 y6, .bool b7, .slice va L.length vc, .slice none 0 0, .string ⟨#[]⟩, .bool false] := hI 1 (by kernel_rfl)
            have ba := below_more (Below.refl W.heap.size W) (.cells #[.int .i64 d.term, .int .i64 d.kind, .string d.data] 57)
            exact does_value (v := .slice (some ⟨W.heap.size, 0, none⟩) 1 1) (w' := W.alloc (.cells #[.int .i64 d.term, .int .i64 d.kind, .string d.data] 57)) (by simp [execOp, go_sem, h59]) ⟨⟨_, d, rfl, hd, by have := hb1.lt; have o1 := Nx.out; have o2 := Mx.out; have o3 := Arx.out; omega, heap_alloc_new W _⟩, ⟨hC.1.below ba, grown_below hC.2.1 ba, hC.2.2.on ba hC.2.2.lt⟩, ba.size, fun g ty cs h _ _ _ => h.on ba h.lt⟩
          · intro A W hC hI hg hb
            have h56 : A.eval (.tmp 56) = .slice va L.length vc := hg 1 56 (by decide) rfl (by simp [Op.operands, Call.operands]) (by kernel_rfl) rfl
            have g5 := hg 5 60 (by decide) rfl (by simp [Op.operands, Call.operands]) (by kernel_rfl) rfl
            obtain ⟨g, d, h60, hd, hlt, hbl⟩ := g5
            have hb1 : BlockIs W (w7.heap.size) 39 [.int .i64 3, .int .i64 fr, .int .i64 (tq + 1), .int .i64 y3, .int .i64 y4, .int .i64 y8, .int .i64 y6, .bool b7, .slice va L.length vc, .slice none 0 0, .string ⟨#[]⟩, .bool false] := hI 1 (by kernel_rfl)
            have hrow : W.ownsRow (w7.heap.size + 1) 57 3 (.slice va L.length vc) L.length (entCells L) := hI 0 (by kernel_rfl)
            obtain ⟨v', W', hr, h2, h3⟩ := append_one (by have := HLk.out; omega) (by have := hb1.lt; have o1 := Nx.out; have o2 := Mx.out; have o3 := Arx.out; omega) hrow hbl
            obtain ⟨va', vc', rfl⟩ := row_shape h2
            rw [← entCells_snocM] at h2
            have hown : ∀ j, (Value.slice va L.length vc).ownBlock = some j → w7.heap.size + 1 ≤ j := fun j hj => (row_block hrow hj).elim fun _ h => h.2
            have hoty : ∀ j ty cs, BlockIs W j ty cs → ty ≠ 57 → some j ≠ (Value.slice va L.length vc).ownBlock := fun j ty cs hp hne e => by
              obtain ⟨cs', hb', _⟩ := row_block hrow e.symm
              exact hne (block_one hp hb').1
            have hkeep : ∀ j ty cs, BlockIs W j ty cs → ty ≠ 57 → BlockIs W' j ty cs := fun j ty cs hp hne => by
              unfold BlockIs
              rw [h3.block j hp.lt (hoty j ty cs hp hne)]
              exact hp
            refine does_value (v := .slice va' (L.length + 1) vc') (w' := W') (by simp only [execOp, resolve, invoke, builtin, Sem.run_bind, Sem.run_pure, Result.andThen_ok, List.map_toArray, List.map_cons, List.map_nil, h56, h60, hr]) ⟨⟨va', vc', d, rfl, hd, h2⟩, ⟨hC.1.kept h3 (fun j hj => by have := hown j hj; have o1 := Nx.out; have o2 := Mx.out; have o3 := Arx.out; omega), grown_rowN hC.2.1 h3 (fun j hj => by have := hown j hj; have o1 := Nx.out; have o2 := Mx.out; have o3 := Arx.out; omega), hkeep _ _ _ hC.2.2 (by decide)⟩, h3.size, fun p ty cs hp _ hne _ => hkeep _ _ _ hp (hne rfl)⟩
          · intro A W hC hI hg hb
            have h3 : A.eval (.tmp 3) = .pointer (some ⟨w7.heap.size, 0, none⟩) := hb 3 (base_of (by kernel_rfl))
            exact does_value (v := .pointer (some ⟨w7.heap.size, 8, none⟩)) (w' := W) (by simp only [execOp, h3]; simp [go_sem]) ⟨rfl, hC, Nat.le_refl _, fun _ _ _ h _ _ _ => h⟩
          · intro A W hC hI hg hb
            have h62 : A.eval (.tmp 62) = .pointer (some ⟨w7.heap.size, 8, none⟩) := hg 7 62 (by decide) rfl (by simp [Op.operands]) (by kernel_rfl) rfl
            have g6 := hg 6 61 (by decide) rfl (by simp [Op.operands]) (by kernel_rfl) rfl
            obtain ⟨va', vc', d, h61, hd, hrow⟩ := g6
            have hb1 : BlockIs W (w7.heap.size) 39 [.int .i64 3, .int .i64 fr, .int .i64 (tq + 1), .int .i64 y3, .int .i64 y4, .int .i64 y8, .int .i64 y6, .bool b7, .slice va L.length vc, .slice none 0 0, .string ⟨#[]⟩, .bool false] := hI 1 (by kernel_rfl)
            have c2 := hb1.cell (j := 8) rfl
            have f2 := hb1.thaw 8
            have far : ∀ p ty cs, BlockIs W p ty cs → ty ≠ 39 → BlockIs (W.setCell ⟨w7.heap.size, 8, none⟩ (.slice va' (L.length + 1) vc')) p ty cs := fun p ty cs hp hne => hp.far (by intro e; subst e; exact hne (block_one hp hb1).1) _
            exact does_skip (w' := W.setCell ⟨w7.heap.size, 8, none⟩ (.slice va' (L.length + 1) vc')) (by simp only [execOp, h62, h61]; simp [go_sem, c2, f2]) ⟨⟨va', vc', d, h61, hd, row_fromM hrow fun g cs _ h => far g _ _ h (by decide), hb1.set 8 _⟩, ⟨hC.1.set Nx.out, grown_far hC.2.1 Mx.out, hC.2.2.far (by have o1 := Nx.out; have o2 := Mx.out; have o3 := Arx.out; omega) _⟩, by simp [World.size_setCell], fun p ty cs hp _ _ hne => far p ty cs hp (hne rfl)⟩
        · intro vs wE hC hI hg
          obtain ⟨va', vc', d, hu, hd, ho, hb⟩ := hg 8 (by decide) (fun k => by simp)
          change vs 6 = _ at hu
          clear hg hI
          obtain ⟨hk, hgr, hr⟩ := hC
          change Exit.inBlock 2 (Exit.then _ _) _ (laidBy _ vs _ 9 _) wE
          simp only [laidBy, if_true, dstAt, List.getElem?_toArray, List.getElem?_cons_succ, List.getElem?_cons_zero, Option.bind_some]
          simp only [Act.put, List.setIfInBounds_toArray, List.set_cons_succ, List.set_cons_zero]
          clear hu KC GC XR XB HO
          have KC := hid hk
          have GC := hid hgr
          have XR := hid hr
          have XB := hid hb
          have HO := hid ho
          clear hk hgr hr hb ho
          have HTN : Hid (termsOk y8 (L ++ [d]) = true ∧ lastT y8 (L ++ [d]) ≤ tm + z) := terms_moreM HTO.out.1 (Int.le_trans HTO.out.2 (by omega)) hd (within_iff.2 (by omega))
          have HL : (L ++ [d]).length = L.length + 1 := by simp
          rw [← HL] at XB HO
          obtain ⟨M, hM⟩ : ∃ M, L ++ [d] = M := ⟨_, rfl⟩
          rw [hM] at XB HO HL HTN
          have HLM : Hid (M.length = k + 1) := (show _ = _ by have := HLk.out; omega)
          clear hM HL HLk HTO
          go_wp2
          go_roundw
          case rel => exact ⟨k + 1, tm + z, M, va', vc', by omega, by go_num, rfl, by omega, by omega, HLM, HTN, KC, GC, XR, XB, HO⟩
          case measure => simp [intOf]; omega
      · have zr0 := XR.out.cell (j := 0) rfl
        have zr1 := XR.out.cell (j := 1) rfl
        have zr2 := XR.out.cell (j := 2) rfl
        have zr3 := XR.out.cell (j := 3) rfl
        have zr4 := XR.out.cell (j := 4) rfl
        have zr5 := XR.out.cell (j := 5) rfl
        have zr6 := XR.out.cell (j := 6) rfl
        have zr7 := XR.out.cell (j := 7) rfl
        have zr8 := XR.out.cell (j := 8) rfl
        have zr9 := XR.out.cell (j := 9) rfl
        have zr10 := XR.out.cell (j := 10) rfl
        have zr11 := XR.out.cell (j := 11) rfl
        have yr0 := XR.out.thaw 0
        have yr1 := XR.out.thaw 1
        have yr2 := XR.out.thaw 2
        have yr3 := XR.out.thaw 3
        have yr4 := XR.out.thaw 4
        have yr5 := XR.out.thaw 5
        have yr6 := XR.out.thaw 6
        have yr7 := XR.out.thaw 7
        have yr8 := XR.out.thaw 8
        have yr9 := XR.out.thaw 9
        have yr10 := XR.out.thaw 10
        have yr11 := XR.out.thaw 11
        have zl0 := XB.out.cell (j := 0) rfl
        have zl1 := XB.out.cell (j := 1) rfl
        have zl2 := XB.out.cell (j := 2) rfl
        have zl3 := XB.out.cell (j := 3) rfl
        have zl4 := XB.out.cell (j := 4) rfl
        have zl5 := XB.out.cell (j := 5) rfl
        have zl6 := XB.out.cell (j := 6) rfl
        have zl7 := XB.out.cell (j := 7) rfl
        have zl8 := XB.out.cell (j := 8) rfl
        have zl9 := XB.out.cell (j := 9) rfl
        have zl10 := XB.out.cell (j := 10) rfl
        have zl11 := XB.out.cell (j := 11) rfl
        have KL := hid ((((((((((((KC.out.set (b := w.heap.size) (j := 0) (v := .int .i64 3) Nr.out).set (b := w.heap.size) (j := 1) (v := .int .i64 fr) Nr.out).set (b := w.heap.size) (j := 2) (v := .int .i64 (tq + 1)) Nr.out).set (b := w.heap.size) (j := 3) (v := .int .i64 y3) Nr.out).set (b := w.heap.size) (j := 4) (v := .int .i64 y4) Nr.out).set (b := w.heap.size) (j := 5) (v := .int .i64 y8) Nr.out).set (b := w.heap.size) (j := 6) (v := .int .i64 y6) Nr.out).set (b := w.heap.size) (j := 7) (v := .bool b7) Nr.out).set (b := w.heap.size) (j := 8) (v := .slice va L.length vc) Nr.out).set (b := w.heap.size) (j := 9) (v := .slice none 0 0) Nr.out).set (b := w.heap.size) (j := 10) (v := .string ⟨#[]⟩) Nr.out).set (b := w.heap.size) (j := 11) (v := .bool false) Nr.out)
        have GL := hid (grown_far (b := w.heap.size) (j := 11) (v := .bool false) (grown_far (b := w.heap.size) (j := 10) (v := .string ⟨#[]⟩) (grown_far (b := w.heap.size) (j := 9) (v := .slice none 0 0) (grown_far (b := w.heap.size) (j := 8) (v := .slice va L.length vc) (grown_far (b := w.heap.size) (j := 7) (v := .bool b7) (grown_far (b := w.heap.size) (j := 6) (v := .int .i64 y6) (grown_far (b := w.heap.size) (j := 5) (v := .int .i64 y8) (grown_far (b := w.heap.size) (j := 4) (v := .int .i64 y4) (grown_far (b := w.heap.size) (j := 3) (v := .int .i64 y3) (grown_far (b := w.heap.size) (j := 2) (v := .int .i64 (tq + 1)) (grown_far (b := w.heap.size) (j := 1) (v := .int .i64 fr) (grown_far (b := w.heap.size) (j := 0) (v := .int .i64 3) GC.out Mr.out) Mr.out) Mr.out) Mr.out) Mr.out) Mr.out) Mr.out) Mr.out) Mr.out) Mr.out) Mr.out) Mr.out)
        have HL := hid (row_down (row_kindM (j := 11) (v := .bool false) (row_kindM (j := 10) (v := .string ⟨#[]⟩) (row_kindM (j := 9) (v := .slice none 0 0) (row_kindM (j := 8) (v := .slice va L.length vc) (row_kindM (j := 7) (v := .bool b7) (row_kindM (j := 6) (v := .int .i64 y6) (row_kindM (j := 5) (v := .int .i64 y8) (row_kindM (j := 4) (v := .int .i64 y4) (row_kindM (j := 3) (v := .int .i64 y3) (row_kindM (j := 2) (v := .int .i64 (tq + 1)) (row_kindM (j := 1) (v := .int .i64 fr) (row_kindM (j := 0) (v := .int .i64 3) HO.out XR.out (by decide)) (XR.out.set 0 (.int .i64 3)) (by decide)) ((XR.out.set 0 (.int .i64 3)).set 1 (.int .i64 fr)) (by decide)) (((XR.out.set 0 (.int .i64 3)).set 1 (.int .i64 fr)).set 2 (.int .i64 (tq + 1))) (by decide)) ((((XR.out.set 0 (.int .i64 3)).set 1 (.int .i64 fr)).set 2 (.int .i64 (tq + 1))).set 3 (.int .i64 y3)) (by decide)) (((((XR.out.set 0 (.int .i64 3)).set 1 (.int .i64 fr)).set 2 (.int .i64 (tq + 1))).set 3 (.int .i64 y3)).set 4 (.int .i64 y4)) (by decide)) ((((((XR.out.set 0 (.int .i64 3)).set 1 (.int .i64 fr)).set 2 (.int .i64 (tq + 1))).set 3 (.int .i64 y3)).set 4 (.int .i64 y4)).set 5 (.int .i64 y8)) (by decide)) (((((((XR.out.set 0 (.int .i64 3)).set 1 (.int .i64 fr)).set 2 (.int .i64 (tq + 1))).set 3 (.int .i64 y3)).set 4 (.int .i64 y4)).set 5 (.int .i64 y8)).set 6 (.int .i64 y6)) (by decide)) ((((((((XR.out.set 0 (.int .i64 3)).set 1 (.int .i64 fr)).set 2 (.int .i64 (tq + 1))).set 3 (.int .i64 y3)).set 4 (.int .i64 y4)).set 5 (.int .i64 y8)).set 6 (.int .i64 y6)).set 7 (.bool b7)) (by decide)) (((((((((XR.out.set 0 (.int .i64 3)).set 1 (.int .i64 fr)).set 2 (.int .i64 (tq + 1))).set 3 (.int .i64 y3)).set 4 (.int .i64 y4)).set 5 (.int .i64 y8)).set 6 (.int .i64 y6)).set 7 (.bool b7)).set 8 (.slice va L.length vc)) (by decide)) ((((((((((XR.out.set 0 (.int .i64 3)).set 1 (.int .i64 fr)).set 2 (.int .i64 (tq + 1))).set 3 (.int .i64 y3)).set 4 (.int .i64 y4)).set 5 (.int .i64 y8)).set 6 (.int .i64 y6)).set 7 (.bool b7)).set 8 (.slice va L.length vc)).set 9 (.slice none 0 0)) (by decide)) (((((((((((XR.out.set 0 (.int .i64 3)).set 1 (.int .i64 fr)).set 2 (.int .i64 (tq + 1))).set 3 (.int .i64 y3)).set 4 (.int .i64 y4)).set 5 (.int .i64 y8)).set 6 (.int .i64 y6)).set 7 (.bool b7)).set 8 (.slice va L.length vc)).set 9 (.slice none 0 0)).set 10 (.string ⟨#[]⟩)) (by decide)) (show w.heap.size ≤ _ + 1 by have := Mx.out; omega))
        clear KC GC XR XB HO
        go_wp2
        refine bodyPost_ret (v := .agg #[.int .i64 3, .int .i64 fr, .int .i64 (tq + 1), .int .i64 y3, .int .i64 y4, .int .i64 y8, .int .i64 y6, .bool b7, .slice va L.length vc, .slice none 0 0, .string ⟨#[]⟩, .bool false]) (by simp [results, Tryz.results76, go_sem, zr0, zr1, zr2, zr3, zr4, zr5, zr6, zr7, zr8, zr9, zr10, zr11]) rfl ?_
        exact ⟨⟨3, fr, tq + 1, y3, y4, y8, y6, b7, L, [], ⟨#[]⟩, false⟩, _, _, _, _, rfl, right_ents ⟨hfr0, by omega, htq0.2, by omega, by omega, by omega, by omega⟩ (by have := HLk.out; omega) HTO.out.1 (Int.le_trans HTO.out.2 ht1), HL.out, ⟨rfl, Or.inl ⟨rfl, rfl⟩⟩, KL.out, GL.out⟩
  by_cases k5 : y1 = 4
  · subst k5
    go_wp2_with fail
    refine Calls.mono (l01Below_any C 4 (by omega) (by omega) _ K3.out) ?_
    rintro e w2 ⟨y2, rfl, lo2, hi2, k2, q2⟩
    have K4 := hid (k2)
    have G4 := hid (G3.out.trans q2)
    have Xr4 := hid (Xr3.out.cur q2 Nr.out)
    clear k2 q2 K3 G3 Xr3
    obtain ⟨fr, hfr⟩ : ∃ f, 1 + y2 = f := ⟨_, rfl⟩
    have hfr0 : 1 ≤ fr ∧ fr ≤ 4 := by omega
    clear lo2 hi2
    go_wp2_with fail
    refine Calls.mono (l01Below_any C 8 (by omega) (by omega) _ K4.out) ?_
    rintro e w3 ⟨y3, rfl, lo3, hi3, k3, q3⟩
    have K5 := hid (k3)
    have G5 := hid (G4.out.trans q3)
    have Xr5 := hid (Xr4.out.cur q3 Nr.out)
    clear k3 q3 K4 G4 Xr4
    go_wp2_with fail
    refine Calls.mono (l01Below_any C 12 (by omega) (by omega) _ K5.out) ?_
    rintro e w4 ⟨y4, rfl, lo4, hi4, k4, q4⟩
    have K6 := hid (k4)
    have G6 := hid (G5.out.trans q4)
    have Xr6 := hid (Xr5.out.cur q4 Nr.out)
    clear k4 q4 K5 G5 Xr5
    go_wp2_with fail
    refine Calls.mono (l01Below_any C 5 (by omega) (by omega) _ K6.out) ?_
    rintro e w5 ⟨y5, rfl, lo5, hi5, k5, q5⟩
    have K7 := hid (k5)
    have G7 := hid (G6.out.trans q5)
    have Xr7 := hid (Xr6.out.cur q5 Nr.out)
    clear k5 q5 K6 G6 Xr6
    go_wp2_with fail
    refine Calls.mono (l01Below_any C 9 (by omega) (by omega) _ K7.out) ?_
    rintro e w6 ⟨y6, rfl, lo6, hi6, k6, q6⟩
    have K8 := hid (k6)
    have G8 := hid (G7.out.trans q6)
    have Xr8 := hid (Xr7.out.cur q6 Nr.out)
    clear k6 q6 K7 G7 Xr7
    go_wp2_with fail
    refine Calls.mono (l01Once_any C 2 (by omega) (by omega) _ K8.out) ?_
    rintro e w7 ⟨b7, rfl, k7, q7⟩
    have K9 := hid (k7)
    have G9 := hid (G8.out.trans q7)
    have Xr9 := hid (Xr8.out.cur q7 Nr.out)
    clear k7 q7 K8 G8 Xr8
    obtain ⟨tq, htq⟩ : ∃ q, fr.tmod 4 = q := ⟨_, rfl⟩
    have htq0 : (0 ≤ tq ∧ tq ≤ 3) ∧ ¬ fr = tq + 1 := by
      rcases (show fr = 1 ∨ fr = 2 ∨ fr = 3 ∨ fr = 4 by omega) with h | h | h | h <;> subst h <;> subst htq <;> decide
    have ba := below_more (Below.refl w7.heap.size w7) (.cells #[.int .i64 5, .int .i64 fr, .int .i64 (tq + 1), .int .i64 y3, .int .i64 y4, .int .i64 y5, .int .i64 y6, .bool b7, .slice none 0 0, .slice none 0 0, .string ⟨#[]⟩, .bool false] 39)
    have Mx := hid G9.out.size
    have Nx := hid (Nat.lt_of_lt_of_le hCl G9.out.size)
    have hx : BlockIs (w7.alloc (.cells #[.int .i64 5, .int .i64 fr, .int .i64 (tq + 1), .int .i64 y3, .int .i64 y4, .int .i64 y5, .int .i64 y6, .bool b7, .slice none 0 0, .slice none 0 0, .string ⟨#[]⟩, .bool false] 39)) w7.heap.size 39 [.int .i64 5, .int .i64 fr, .int .i64 (tq + 1), .int .i64 y3, .int .i64 y4, .int .i64 y5, .int .i64 y6, .bool b7, .slice none 0 0, .slice none 0 0, .string ⟨#[]⟩, .bool false] := heap_alloc_new w7 _
    have Arx := hid Xr9.out.lt
    have K10 := hid (K9.out.below ba)
    have G10 := hid (grown_below G9.out ba)
    have Xr10 := hid (Xr9.out.on ba Xr9.out.lt)
    have Xx10 := hid hx
    clear hx
    clear ba K9 G9 Xr9
    have zr0_11 := Xr10.out.cell (j := 0) rfl
    have zr1_11 := Xr10.out.cell (j := 1) rfl
    have zr2_11 := Xr10.out.cell (j := 2) rfl
    have zr3_11 := Xr10.out.cell (j := 3) rfl
    have zr4_11 := Xr10.out.cell (j := 4) rfl
    have zr5_11 := Xr10.out.cell (j := 5) rfl
    have zr6_11 := Xr10.out.cell (j := 6) rfl
    have zr7_11 := Xr10.out.cell (j := 7) rfl
    have zr8_11 := Xr10.out.cell (j := 8) rfl
    have zr9_11 := Xr10.out.cell (j := 9) rfl
    have zr10_11 := Xr10.out.cell (j := 10) rfl
    have zr11_11 := Xr10.out.cell (j := 11) rfl
    have yr0_11 := Xr10.out.thaw 0
    have yr1_11 := Xr10.out.thaw 1
    have yr2_11 := Xr10.out.thaw 2
    have yr3_11 := Xr10.out.thaw 3
    have yr4_11 := Xr10.out.thaw 4
    have yr5_11 := Xr10.out.thaw 5
    have yr6_11 := Xr10.out.thaw 6
    have yr7_11 := Xr10.out.thaw 7
    have yr8_11 := Xr10.out.thaw 8
    have yr9_11 := Xr10.out.thaw 9
    have yr10_11 := Xr10.out.thaw 10
    have yr11_11 := Xr10.out.thaw 11
    have zx0_11 := Xx10.out.cell (j := 0) rfl
    have zx1_11 := Xx10.out.cell (j := 1) rfl
    have zx2_11 := Xx10.out.cell (j := 2) rfl
    have zx3_11 := Xx10.out.cell (j := 3) rfl
    have zx4_11 := Xx10.out.cell (j := 4) rfl
    have zx5_11 := Xx10.out.cell (j := 5) rfl
    have zx6_11 := Xx10.out.cell (j := 6) rfl
    have zx7_11 := Xx10.out.cell (j := 7) rfl
    have zx8_11 := Xx10.out.cell (j := 8) rfl
    have zx9_11 := Xx10.out.cell (j := 9) rfl
    have zx10_11 := Xx10.out.cell (j := 10) rfl
    have zx11_11 := Xx10.out.cell (j := 11) rfl
    have yx0_11 := Xx10.out.thaw 0
    have yx1_11 := Xx10.out.thaw 1
    have yx2_11 := Xx10.out.thaw 2
    have yx3_11 := Xx10.out.thaw 3
    have yx4_11 := Xx10.out.thaw 4
    have yx5_11 := Xx10.out.thaw 5
    have yx6_11 := Xx10.out.thaw 6
    have yx7_11 := Xx10.out.thaw 7
    have yx8_11 := Xx10.out.thaw 8
    have yx9_11 := Xx10.out.thaw 9
    have yx10_11 := Xx10.out.thaw 10
    have yx11_11 := Xx10.out.thaw 11
    obtain ⟨bF, hbF⟩ : ∃ b, (w7.alloc (.cells #[.int .i64 5, .int .i64 fr, .int .i64 (tq + 1), .int .i64 y3, .int .i64 y4, .int .i64 y5, .int .i64 y6, .bool b7, .slice none 0 0, .slice none 0 0, .string ⟨#[]⟩, .bool false] 39)).heap.size = b := ⟨_, rfl⟩
    have Fv : Hid (C < bF) := (show _ < _ by have := K10.out.lt; omega)
    have MF : Hid (w.heap.size ≤ bF) := (show _ ≤ _ by have := G10.out.size; omega)
    go_wp2_with fail
    refine Calls.mono (l05Conf_any C _ K10.out) ?_
    rintro e w8 ⟨v8, zs8, rfl, _, hcf8, ho8, k8, q8⟩
    have K12 := hid (k8)
    have G12 := hid (G10.out.trans q8)
    have Xr12 := hid (Xr10.out.cur q8 Nr.out)
    have Xx12 := hid (Xx10.out.cur q8 Nx.out)
    clear k8 q8 K10 G10 zr0_11 zr1_11 zr2_11 zr3_11 zr4_11 zr5_11 zr6_11 zr7_11 zr8_11 zr9_11 zr10_11 zr11_11 yr0_11 yr1_11 yr2_11 yr3_11 yr4_11 yr5_11 yr6_11 yr7_11 yr8_11 yr9_11 yr10_11 yr11_11 zx0_11 zx1_11 zx2_11 zx3_11 zx4_11 zx5_11 zx6_11 zx7_11 zx8_11 zx9_11 zx10_11 zx11_11 yx0_11 yx1_11 yx2_11 yx3_11 yx4_11 yx5_11 yx6_11 yx7_11 yx8_11 yx9_11 yx10_11 yx11_11 Xr10 Xx10
    have zr0_13 := Xr12.out.cell (j := 0) rfl
    have zr1_13 := Xr12.out.cell (j := 1) rfl
    have zr2_13 := Xr12.out.cell (j := 2) rfl
    have zr3_13 := Xr12.out.cell (j := 3) rfl
    have zr4_13 := Xr12.out.cell (j := 4) rfl
    have zr5_13 := Xr12.out.cell (j := 5) rfl
    have zr6_13 := Xr12.out.cell (j := 6) rfl
    have zr7_13 := Xr12.out.cell (j := 7) rfl
    have zr8_13 := Xr12.out.cell (j := 8) rfl
    have zr9_13 := Xr12.out.cell (j := 9) rfl
    have zr10_13 := Xr12.out.cell (j := 10) rfl
    have zr11_13 := Xr12.out.cell (j := 11) rfl
    have yr0_13 := Xr12.out.thaw 0
    have yr1_13 := Xr12.out.thaw 1
    have yr2_13 := Xr12.out.thaw 2
    have yr3_13 := Xr12.out.thaw 3
    have yr4_13 := Xr12.out.thaw 4
    have yr5_13 := Xr12.out.thaw 5
    have yr6_13 := Xr12.out.thaw 6
    have yr7_13 := Xr12.out.thaw 7
    have yr8_13 := Xr12.out.thaw 8
    have yr9_13 := Xr12.out.thaw 9
    have yr10_13 := Xr12.out.thaw 10
    have yr11_13 := Xr12.out.thaw 11
    have zx0_13 := Xx12.out.cell (j := 0) rfl
    have zx1_13 := Xx12.out.cell (j := 1) rfl
    have zx2_13 := Xx12.out.cell (j := 2) rfl
    have zx3_13 := Xx12.out.cell (j := 3) rfl
    have zx4_13 := Xx12.out.cell (j := 4) rfl
    have zx5_13 := Xx12.out.cell (j := 5) rfl
    have zx6_13 := Xx12.out.cell (j := 6) rfl
    have zx7_13 := Xx12.out.cell (j := 7) rfl
    have zx8_13 := Xx12.out.cell (j := 8) rfl
    have zx9_13 := Xx12.out.cell (j := 9) rfl
    have zx10_13 := Xx12.out.cell (j := 10) rfl
    have zx11_13 := Xx12.out.cell (j := 11) rfl
    have yx0_13 := Xx12.out.thaw 0
    have yx1_13 := Xx12.out.thaw 1
    have yx2_13 := Xx12.out.thaw 2
    have yx3_13 := Xx12.out.thaw 3
    have yx4_13 := Xx12.out.thaw 4
    have yx5_13 := Xx12.out.thaw 5
    have yx6_13 := Xx12.out.thaw 6
    have yx7_13 := Xx12.out.thaw 7
    have yx8_13 := Xx12.out.thaw 8
    have yx9_13 := Xx12.out.thaw 9
    have yx10_13 := Xx12.out.thaw 10
    have yx11_13 := Xx12.out.thaw 11
    rw [hbF] at ho8
    obtain ⟨vb, vd, rfl⟩ := row_shape ho8
    have HF := hid ho8
    clear ho8 hbF
    obtain ⟨zs, hzs⟩ : ∃ z, zs8 = z := ⟨_, rfl⟩
    rw [hzs] at HF hcf8 ⊢
    clear hzs
    have Ov14s := hid (row_kindM (j := 9) (v := (.slice vb zs.length vd)) HF.out Xx12.out (by decide))
    have K14 := hid (K12.out.set (b := w7.heap.size) (j := 9) (v := (.slice vb zs.length vd)) Nx.out)
    have G14 := hid (grown_far (b := w7.heap.size) (j := 9) (v := (.slice vb zs.length vd)) G12.out Mx.out)
    have Xr14 := hid (Xr12.out.far (b := w7.heap.size) (j := 9) (by have := Arx.out; omega) (.slice vb zs.length vd))
    have Xx14 : Hid (BlockIs (w8.setCell ⟨w7.heap.size, 9, none⟩ (.slice vb zs.length vd)) (w7.heap.size) 39 [.int .i64 5, .int .i64 fr, .int .i64 (tq + 1), .int .i64 y3, .int .i64 y4, .int .i64 y5, .int .i64 y6, .bool b7, .slice none 0 0, .slice vb zs.length vd, .string ⟨#[]⟩, .bool false]) := Xx12.out.set 9 (.slice vb zs.length vd)
    clear K12 G12 Xr12 Xx12
    have zr0_15 := Xr14.out.cell (j := 0) rfl
    have zr1_15 := Xr14.out.cell (j := 1) rfl
    have zr2_15 := Xr14.out.cell (j := 2) rfl
    have zr3_15 := Xr14.out.cell (j := 3) rfl
    have zr4_15 := Xr14.out.cell (j := 4) rfl
    have zr5_15 := Xr14.out.cell (j := 5) rfl
    have zr6_15 := Xr14.out.cell (j := 6) rfl
    have zr7_15 := Xr14.out.cell (j := 7) rfl
    have zr8_15 := Xr14.out.cell (j := 8) rfl
    have zr9_15 := Xr14.out.cell (j := 9) rfl
    have zr10_15 := Xr14.out.cell (j := 10) rfl
    have zr11_15 := Xr14.out.cell (j := 11) rfl
    have yr0_15 := Xr14.out.thaw 0
    have yr1_15 := Xr14.out.thaw 1
    have yr2_15 := Xr14.out.thaw 2
    have yr3_15 := Xr14.out.thaw 3
    have yr4_15 := Xr14.out.thaw 4
    have yr5_15 := Xr14.out.thaw 5
    have yr6_15 := Xr14.out.thaw 6
    have yr7_15 := Xr14.out.thaw 7
    have yr8_15 := Xr14.out.thaw 8
    have yr9_15 := Xr14.out.thaw 9
    have yr10_15 := Xr14.out.thaw 10
    have yr11_15 := Xr14.out.thaw 11
    have zx0_15 := Xx14.out.cell (j := 0) rfl
    have zx1_15 := Xx14.out.cell (j := 1) rfl
    have zx2_15 := Xx14.out.cell (j := 2) rfl
    have zx3_15 := Xx14.out.cell (j := 3) rfl
    have zx4_15 := Xx14.out.cell (j := 4) rfl
    have zx5_15 := Xx14.out.cell (j := 5) rfl
    have zx6_15 := Xx14.out.cell (j := 6) rfl
    have zx7_15 := Xx14.out.cell (j := 7) rfl
    have zx8_15 := Xx14.out.cell (j := 8) rfl
    have zx9_15 := Xx14.out.cell (j := 9) rfl
    have zx10_15 := Xx14.out.cell (j := 10) rfl
    have zx11_15 := Xx14.out.cell (j := 11) rfl
    have yx0_15 := Xx14.out.thaw 0
    have yx1_15 := Xx14.out.thaw 1
    have yx2_15 := Xx14.out.thaw 2
    have yx3_15 := Xx14.out.thaw 3
    have yx4_15 := Xx14.out.thaw 4
    have yx5_15 := Xx14.out.thaw 5
    have yx6_15 := Xx14.out.thaw 6
    have yx7_15 := Xx14.out.thaw 7
    have yx8_15 := Xx14.out.thaw 8
    have yx9_15 := Xx14.out.thaw 9
    have yx10_15 := Xx14.out.thaw 10
    have yx11_15 := Xx14.out.thaw 11
    clear HF
    go_wp2_with fail
    refine Calls.mono (l01Below_any C 9 (by omega) (by omega) _ K14.out) ?_
    rintro e w9 ⟨y9, rfl, lo9, hi9, k9, q9⟩
    have K16 := hid (k9)
    have G16 := hid (G14.out.trans q9)
    have Xr16 := hid (Xr14.out.cur q9 Nr.out)
    have Xx16 := hid (Xx14.out.cur q9 Nx.out)
    have Ov16 := hid (row_pastM Ov14s.out q9 Fv.out)
    clear k9 q9 K14 G14 zr0_15 zr1_15 zr2_15 zr3_15 zr4_15 zr5_15 zr6_15 zr7_15 zr8_15 zr9_15 zr10_15 zr11_15 yr0_15 yr1_15 yr2_15 yr3_15 yr4_15 yr5_15 yr6_15 yr7_15 yr8_15 yr9_15 yr10_15 yr11_15 zx0_15 zx1_15 zx2_15 zx3_15 zx4_15 zx5_15 zx6_15 zx7_15 zx8_15 zx9_15 zx10_15 zx11_15 yx0_15 yx1_15 yx2_15 yx3_15 yx4_15 yx5_15 yx6_15 yx7_15 yx8_15 yx9_15 yx10_15 yx11_15 zr0_13 zr1_13 zr2_13 zr3_13 zr4_13 zr5_13 zr6_13 zr7_13 zr8_13 zr9_13 zr10_13 zr11_13 yr0_13 yr1_13 yr2_13 yr3_13 yr4_13 yr5_13 yr6_13 yr7_13 yr8_13 yr9_13 yr10_13 yr11_13 zx0_13 zx1_13 zx2_13 zx3_13 zx4_13 zx5_13 zx6_13 zx7_13 zx8_13 zx9_13 zx10_13 zx11_13 yx0_13 yx1_13 yx2_13 yx3_13 yx4_13 yx5_13 yx6_13 yx7_13 yx8_13 yx9_13 yx10_13 yx11_13 Xr14 Xx14 Ov14s
    obtain ⟨n9, rfl⟩ : ∃ n : Nat, y9 = n := ⟨y9.toNat, by omega⟩
    go_wp2_with fail
    refine Calls.mono (l01Text_any C n9 (by omega) _ K16.out) ?_
    rintro e w10 ⟨s10, rfl, hs10, k10, q10⟩
    have K17 := hid (k10)
    have G17 := hid (G16.out.trans q10)
    have Xr17 := hid (Xr16.out.cur q10 Nr.out)
    have Xx17 := hid (Xx16.out.cur q10 Nx.out)
    have Ov17 := hid (row_pastM Ov16.out q10 Fv.out)
    clear k10 q10 K16 G16 Xr16 Xx16 Ov16
    have zr0_18 := Xr17.out.cell (j := 0) rfl
    have zr1_18 := Xr17.out.cell (j := 1) rfl
    have zr2_18 := Xr17.out.cell (j := 2) rfl
    have zr3_18 := Xr17.out.cell (j := 3) rfl
    have zr4_18 := Xr17.out.cell (j := 4) rfl
    have zr5_18 := Xr17.out.cell (j := 5) rfl
    have zr6_18 := Xr17.out.cell (j := 6) rfl
    have zr7_18 := Xr17.out.cell (j := 7) rfl
    have zr8_18 := Xr17.out.cell (j := 8) rfl
    have zr9_18 := Xr17.out.cell (j := 9) rfl
    have zr10_18 := Xr17.out.cell (j := 10) rfl
    have zr11_18 := Xr17.out.cell (j := 11) rfl
    have yr0_18 := Xr17.out.thaw 0
    have yr1_18 := Xr17.out.thaw 1
    have yr2_18 := Xr17.out.thaw 2
    have yr3_18 := Xr17.out.thaw 3
    have yr4_18 := Xr17.out.thaw 4
    have yr5_18 := Xr17.out.thaw 5
    have yr6_18 := Xr17.out.thaw 6
    have yr7_18 := Xr17.out.thaw 7
    have yr8_18 := Xr17.out.thaw 8
    have yr9_18 := Xr17.out.thaw 9
    have yr10_18 := Xr17.out.thaw 10
    have yr11_18 := Xr17.out.thaw 11
    have zx0_18 := Xx17.out.cell (j := 0) rfl
    have zx1_18 := Xx17.out.cell (j := 1) rfl
    have zx2_18 := Xx17.out.cell (j := 2) rfl
    have zx3_18 := Xx17.out.cell (j := 3) rfl
    have zx4_18 := Xx17.out.cell (j := 4) rfl
    have zx5_18 := Xx17.out.cell (j := 5) rfl
    have zx6_18 := Xx17.out.cell (j := 6) rfl
    have zx7_18 := Xx17.out.cell (j := 7) rfl
    have zx8_18 := Xx17.out.cell (j := 8) rfl
    have zx9_18 := Xx17.out.cell (j := 9) rfl
    have zx10_18 := Xx17.out.cell (j := 10) rfl
    have zx11_18 := Xx17.out.cell (j := 11) rfl
    have yx0_18 := Xx17.out.thaw 0
    have yx1_18 := Xx17.out.thaw 1
    have yx2_18 := Xx17.out.thaw 2
    have yx3_18 := Xx17.out.thaw 3
    have yx4_18 := Xx17.out.thaw 4
    have yx5_18 := Xx17.out.thaw 5
    have yx6_18 := Xx17.out.thaw 6
    have yx7_18 := Xx17.out.thaw 7
    have yx8_18 := Xx17.out.thaw 8
    have yx9_18 := Xx17.out.thaw 9
    have yx10_18 := Xx17.out.thaw 10
    have yx11_18 := Xx17.out.thaw 11
    have Ov19s := hid (row_kindM (j := 10) (v := (.string s10)) Ov17.out Xx17.out (by decide))
    have K19 := hid (K17.out.set (b := w7.heap.size) (j := 10) (v := (.string s10)) Nx.out)
    have G19 := hid (grown_far (b := w7.heap.size) (j := 10) (v := (.string s10)) G17.out Mx.out)
    have Xr19 := hid (Xr17.out.far (b := w7.heap.size) (j := 10) (by have := Arx.out; omega) (.string s10))
    have Xx19 : Hid (BlockIs (w10.setCell ⟨w7.heap.size, 10, none⟩ (.string s10)) (w7.heap.size) 39 [.int .i64 5, .int .i64 fr, .int .i64 (tq + 1), .int .i64 y3, .int .i64 y4, .int .i64 y5, .int .i64 y6, .bool b7, .slice none 0 0, .slice vb zs.length vd, .string s10, .bool false]) := Xx17.out.set 10 (.string s10)
    clear K17 G17 Xr17 Xx17
    have zr0_20 := Xr19.out.cell (j := 0) rfl
    have zr1_20 := Xr19.out.cell (j := 1) rfl
    have zr2_20 := Xr19.out.cell (j := 2) rfl
    have zr3_20 := Xr19.out.cell (j := 3) rfl
    have zr4_20 := Xr19.out.cell (j := 4) rfl
    have zr5_20 := Xr19.out.cell (j := 5) rfl
    have zr6_20 := Xr19.out.cell (j := 6) rfl
    have zr7_20 := Xr19.out.cell (j := 7) rfl
    have zr8_20 := Xr19.out.cell (j := 8) rfl
    have zr9_20 := Xr19.out.cell (j := 9) rfl
    have zr10_20 := Xr19.out.cell (j := 10) rfl
    have zr11_20 := Xr19.out.cell (j := 11) rfl
    have yr0_20 := Xr19.out.thaw 0
    have yr1_20 := Xr19.out.thaw 1
    have yr2_20 := Xr19.out.thaw 2
    have yr3_20 := Xr19.out.thaw 3
    have yr4_20 := Xr19.out.thaw 4
    have yr5_20 := Xr19.out.thaw 5
    have yr6_20 := Xr19.out.thaw 6
    have yr7_20 := Xr19.out.thaw 7
    have yr8_20 := Xr19.out.thaw 8
    have yr9_20 := Xr19.out.thaw 9
    have yr10_20 := Xr19.out.thaw 10
    have yr11_20 := Xr19.out.thaw 11
    have zx0_20 := Xx19.out.cell (j := 0) rfl
    have zx1_20 := Xx19.out.cell (j := 1) rfl
    have zx2_20 := Xx19.out.cell (j := 2) rfl
    have zx3_20 := Xx19.out.cell (j := 3) rfl
    have zx4_20 := Xx19.out.cell (j := 4) rfl
    have zx5_20 := Xx19.out.cell (j := 5) rfl
    have zx6_20 := Xx19.out.cell (j := 6) rfl
    have zx7_20 := Xx19.out.cell (j := 7) rfl
    have zx8_20 := Xx19.out.cell (j := 8) rfl
    have zx9_20 := Xx19.out.cell (j := 9) rfl
    have zx10_20 := Xx19.out.cell (j := 10) rfl
    have zx11_20 := Xx19.out.cell (j := 11) rfl
    have yx0_20 := Xx19.out.thaw 0
    have yx1_20 := Xx19.out.thaw 1
    have yx2_20 := Xx19.out.thaw 2
    have yx3_20 := Xx19.out.thaw 3
    have yx4_20 := Xx19.out.thaw 4
    have yx5_20 := Xx19.out.thaw 5
    have yx6_20 := Xx19.out.thaw 6
    have yx7_20 := Xx19.out.thaw 7
    have yx8_20 := Xx19.out.thaw 8
    have yx9_20 := Xx19.out.thaw 9
    have yx10_20 := Xx19.out.thaw 10
    have yx11_20 := Xx19.out.thaw 11
    clear Ov17
    go_wp2_with fail
    refine Calls.mono (l01Once_any C 2 (by omega) (by omega) _ K19.out) ?_
    rintro e w11 ⟨b11, rfl, k11, q11⟩
    have K21 := hid (k11)
    have G21 := hid (G19.out.trans q11)
    have Xr21 := hid (Xr19.out.cur q11 Nr.out)
    have Xx21 := hid (Xx19.out.cur q11 Nx.out)
    have Ov21 := hid (row_pastM Ov19s.out q11 Fv.out)
    clear k11 q11 K19 G19 zr0_20 zr1_20 zr2_20 zr3_20 zr4_20 zr5_20 zr6_20 zr7_20 zr8_20 zr9_20 zr10_20 zr11_20 yr0_20 yr1_20 yr2_20 yr3_20 yr4_20 yr5_20 yr6_20 yr7_20 yr8_20 yr9_20 yr10_20 yr11_20 zx0_20 zx1_20 zx2_20 zx3_20 zx4_20 zx5_20 zx6_20 zx7_20 zx8_20 zx9_20 zx10_20 zx11_20 yx0_20 yx1_20 yx2_20 yx3_20 yx4_20 yx5_20 yx6_20 yx7_20 yx8_20 yx9_20 yx10_20 yx11_20 zr0_18 zr1_18 zr2_18 zr3_18 zr4_18 zr5_18 zr6_18 zr7_18 zr8_18 zr9_18 zr10_18 zr11_18 yr0_18 yr1_18 yr2_18 yr3_18 yr4_18 yr5_18 yr6_18 yr7_18 yr8_18 yr9_18 yr10_18 yr11_18 zx0_18 zx1_18 zx2_18 zx3_18 zx4_18 zx5_18 zx6_18 zx7_18 zx8_18 zx9_18 zx10_18 zx11_18 yx0_18 yx1_18 yx2_18 yx3_18 yx4_18 yx5_18 yx6_18 yx7_18 yx8_18 yx9_18 yx10_18 yx11_18 Xr19 Xx19 Ov19s
    have zr0_22 := Xr21.out.cell (j := 0) rfl
    have zr1_22 := Xr21.out.cell (j := 1) rfl
    have zr2_22 := Xr21.out.cell (j := 2) rfl
    have zr3_22 := Xr21.out.cell (j := 3) rfl
    have zr4_22 := Xr21.out.cell (j := 4) rfl
    have zr5_22 := Xr21.out.cell (j := 5) rfl
    have zr6_22 := Xr21.out.cell (j := 6) rfl
    have zr7_22 := Xr21.out.cell (j := 7) rfl
    have zr8_22 := Xr21.out.cell (j := 8) rfl
    have zr9_22 := Xr21.out.cell (j := 9) rfl
    have zr10_22 := Xr21.out.cell (j := 10) rfl
    have zr11_22 := Xr21.out.cell (j := 11) rfl
    have yr0_22 := Xr21.out.thaw 0
    have yr1_22 := Xr21.out.thaw 1
    have yr2_22 := Xr21.out.thaw 2
    have yr3_22 := Xr21.out.thaw 3
    have yr4_22 := Xr21.out.thaw 4
    have yr5_22 := Xr21.out.thaw 5
    have yr6_22 := Xr21.out.thaw 6
    have yr7_22 := Xr21.out.thaw 7
    have yr8_22 := Xr21.out.thaw 8
    have yr9_22 := Xr21.out.thaw 9
    have yr10_22 := Xr21.out.thaw 10
    have yr11_22 := Xr21.out.thaw 11
    have zx0_22 := Xx21.out.cell (j := 0) rfl
    have zx1_22 := Xx21.out.cell (j := 1) rfl
    have zx2_22 := Xx21.out.cell (j := 2) rfl
    have zx3_22 := Xx21.out.cell (j := 3) rfl
    have zx4_22 := Xx21.out.cell (j := 4) rfl
    have zx5_22 := Xx21.out.cell (j := 5) rfl
    have zx6_22 := Xx21.out.cell (j := 6) rfl
    have zx7_22 := Xx21.out.cell (j := 7) rfl
    have zx8_22 := Xx21.out.cell (j := 8) rfl
    have zx9_22 := Xx21.out.cell (j := 9) rfl
    have zx10_22 := Xx21.out.cell (j := 10) rfl
    have zx11_22 := Xx21.out.cell (j := 11) rfl
    have yx0_22 := Xx21.out.thaw 0
    have yx1_22 := Xx21.out.thaw 1
    have yx2_22 := Xx21.out.thaw 2
    have yx3_22 := Xx21.out.thaw 3
    have yx4_22 := Xx21.out.thaw 4
    have yx5_22 := Xx21.out.thaw 5
    have yx6_22 := Xx21.out.thaw 6
    have yx7_22 := Xx21.out.thaw 7
    have yx8_22 := Xx21.out.thaw 8
    have yx9_22 := Xx21.out.thaw 9
    have yx10_22 := Xx21.out.thaw 10
    have yx11_22 := Xx21.out.thaw 11
    have Ov23s := hid (row_kindM (j := 11) (v := (.bool b11)) Ov21.out Xx21.out (by decide))
    have K23 := hid (K21.out.set (b := w7.heap.size) (j := 11) (v := (.bool b11)) Nx.out)
    have G23 := hid (grown_far (b := w7.heap.size) (j := 11) (v := (.bool b11)) G21.out Mx.out)
    have Xr23 := hid (Xr21.out.far (b := w7.heap.size) (j := 11) (by have := Arx.out; omega) (.bool b11))
    have Xx23 : Hid (BlockIs (w11.setCell ⟨w7.heap.size, 11, none⟩ (.bool b11)) (w7.heap.size) 39 [.int .i64 5, .int .i64 fr, .int .i64 (tq + 1), .int .i64 y3, .int .i64 y4, .int .i64 y5, .int .i64 y6, .bool b7, .slice none 0 0, .slice vb zs.length vd, .string s10, .bool b11]) := Xx21.out.set 11 (.bool b11)
    clear K21 G21 Xr21 Xx21
    have zr0_24 := Xr23.out.cell (j := 0) rfl
    have zr1_24 := Xr23.out.cell (j := 1) rfl
    have zr2_24 := Xr23.out.cell (j := 2) rfl
    have zr3_24 := Xr23.out.cell (j := 3) rfl
    have zr4_24 := Xr23.out.cell (j := 4) rfl
    have zr5_24 := Xr23.out.cell (j := 5) rfl
    have zr6_24 := Xr23.out.cell (j := 6) rfl
    have zr7_24 := Xr23.out.cell (j := 7) rfl
    have zr8_24 := Xr23.out.cell (j := 8) rfl
    have zr9_24 := Xr23.out.cell (j := 9) rfl
    have zr10_24 := Xr23.out.cell (j := 10) rfl
    have zr11_24 := Xr23.out.cell (j := 11) rfl
    have yr0_24 := Xr23.out.thaw 0
    have yr1_24 := Xr23.out.thaw 1
    have yr2_24 := Xr23.out.thaw 2
    have yr3_24 := Xr23.out.thaw 3
    have yr4_24 := Xr23.out.thaw 4
    have yr5_24 := Xr23.out.thaw 5
    have yr6_24 := Xr23.out.thaw 6
    have yr7_24 := Xr23.out.thaw 7
    have yr8_24 := Xr23.out.thaw 8
    have yr9_24 := Xr23.out.thaw 9
    have yr10_24 := Xr23.out.thaw 10
    have yr11_24 := Xr23.out.thaw 11
    have zx0_24 := Xx23.out.cell (j := 0) rfl
    have zx1_24 := Xx23.out.cell (j := 1) rfl
    have zx2_24 := Xx23.out.cell (j := 2) rfl
    have zx3_24 := Xx23.out.cell (j := 3) rfl
    have zx4_24 := Xx23.out.cell (j := 4) rfl
    have zx5_24 := Xx23.out.cell (j := 5) rfl
    have zx6_24 := Xx23.out.cell (j := 6) rfl
    have zx7_24 := Xx23.out.cell (j := 7) rfl
    have zx8_24 := Xx23.out.cell (j := 8) rfl
    have zx9_24 := Xx23.out.cell (j := 9) rfl
    have zx10_24 := Xx23.out.cell (j := 10) rfl
    have zx11_24 := Xx23.out.cell (j := 11) rfl
    have yx0_24 := Xx23.out.thaw 0
    have yx1_24 := Xx23.out.thaw 1
    have yx2_24 := Xx23.out.thaw 2
    have yx3_24 := Xx23.out.thaw 3
    have yx4_24 := Xx23.out.thaw 4
    have yx5_24 := Xx23.out.thaw 5
    have yx6_24 := Xx23.out.thaw 6
    have yx7_24 := Xx23.out.thaw 7
    have yx8_24 := Xx23.out.thaw 8
    have yx9_24 := Xx23.out.thaw 9
    have yx10_24 := Xx23.out.thaw 10
    have yx11_24 := Xx23.out.thaw 11
    clear Ov21
    have Lv := hid (row_kindM (j := 11) (v := .bool b11) (row_kindM (j := 10) (v := .string s10) (row_kindM (j := 9) (v := .slice vb zs.length vd) (row_kindM (j := 8) (v := .slice none 0 0) (row_kindM (j := 7) (v := .bool b7) (row_kindM (j := 6) (v := .int .i64 y6) (row_kindM (j := 5) (v := .int .i64 y5) (row_kindM (j := 4) (v := .int .i64 y4) (row_kindM (j := 3) (v := .int .i64 y3) (row_kindM (j := 2) (v := .int .i64 (tq + 1)) (row_kindM (j := 1) (v := .int .i64 fr) (row_kindM (j := 0) (v := .int .i64 5) Ov23s.out Xr23.out (by decide)) (Xr23.out.set 0 (.int .i64 5)) (by decide)) ((Xr23.out.set 0 (.int .i64 5)).set 1 (.int .i64 fr)) (by decide)) (((Xr23.out.set 0 (.int .i64 5)).set 1 (.int .i64 fr)).set 2 (.int .i64 (tq + 1))) (by decide)) ((((Xr23.out.set 0 (.int .i64 5)).set 1 (.int .i64 fr)).set 2 (.int .i64 (tq + 1))).set 3 (.int .i64 y3)) (by decide)) (((((Xr23.out.set 0 (.int .i64 5)).set 1 (.int .i64 fr)).set 2 (.int .i64 (tq + 1))).set 3 (.int .i64 y3)).set 4 (.int .i64 y4)) (by decide)) ((((((Xr23.out.set 0 (.int .i64 5)).set 1 (.int .i64 fr)).set 2 (.int .i64 (tq + 1))).set 3 (.int .i64 y3)).set 4 (.int .i64 y4)).set 5 (.int .i64 y5)) (by decide)) (((((((Xr23.out.set 0 (.int .i64 5)).set 1 (.int .i64 fr)).set 2 (.int .i64 (tq + 1))).set 3 (.int .i64 y3)).set 4 (.int .i64 y4)).set 5 (.int .i64 y5)).set 6 (.int .i64 y6)) (by decide)) ((((((((Xr23.out.set 0 (.int .i64 5)).set 1 (.int .i64 fr)).set 2 (.int .i64 (tq + 1))).set 3 (.int .i64 y3)).set 4 (.int .i64 y4)).set 5 (.int .i64 y5)).set 6 (.int .i64 y6)).set 7 (.bool b7)) (by decide)) (((((((((Xr23.out.set 0 (.int .i64 5)).set 1 (.int .i64 fr)).set 2 (.int .i64 (tq + 1))).set 3 (.int .i64 y3)).set 4 (.int .i64 y4)).set 5 (.int .i64 y5)).set 6 (.int .i64 y6)).set 7 (.bool b7)).set 8 (.slice none 0 0)) (by decide)) ((((((((((Xr23.out.set 0 (.int .i64 5)).set 1 (.int .i64 fr)).set 2 (.int .i64 (tq + 1))).set 3 (.int .i64 y3)).set 4 (.int .i64 y4)).set 5 (.int .i64 y5)).set 6 (.int .i64 y6)).set 7 (.bool b7)).set 8 (.slice none 0 0)).set 9 (.slice vb zs.length vd)) (by decide)) (((((((((((Xr23.out.set 0 (.int .i64 5)).set 1 (.int .i64 fr)).set 2 (.int .i64 (tq + 1))).set 3 (.int .i64 y3)).set 4 (.int .i64 y4)).set 5 (.int .i64 y5)).set 6 (.int .i64 y6)).set 7 (.bool b7)).set 8 (.slice none 0 0)).set 9 (.slice vb zs.length vd)).set 10 (.string s10)) (by decide))
    have KL := hid ((((((((((((K23.out.set (b := w.heap.size) (j := 0) (v := .int .i64 5) Nr.out).set (b := w.heap.size) (j := 1) (v := .int .i64 fr) Nr.out).set (b := w.heap.size) (j := 2) (v := .int .i64 (tq + 1)) Nr.out).set (b := w.heap.size) (j := 3) (v := .int .i64 y3) Nr.out).set (b := w.heap.size) (j := 4) (v := .int .i64 y4) Nr.out).set (b := w.heap.size) (j := 5) (v := .int .i64 y5) Nr.out).set (b := w.heap.size) (j := 6) (v := .int .i64 y6) Nr.out).set (b := w.heap.size) (j := 7) (v := .bool b7) Nr.out).set (b := w.heap.size) (j := 8) (v := .slice none 0 0) Nr.out).set (b := w.heap.size) (j := 9) (v := .slice vb zs.length vd) Nr.out).set (b := w.heap.size) (j := 10) (v := .string s10) Nr.out).set (b := w.heap.size) (j := 11) (v := .bool b11) Nr.out)
    have GL := hid (grown_far (b := w.heap.size) (j := 11) (v := .bool b11) (grown_far (b := w.heap.size) (j := 10) (v := .string s10) (grown_far (b := w.heap.size) (j := 9) (v := .slice vb zs.length vd) (grown_far (b := w.heap.size) (j := 8) (v := .slice none 0 0) (grown_far (b := w.heap.size) (j := 7) (v := .bool b7) (grown_far (b := w.heap.size) (j := 6) (v := .int .i64 y6) (grown_far (b := w.heap.size) (j := 5) (v := .int .i64 y5) (grown_far (b := w.heap.size) (j := 4) (v := .int .i64 y4) (grown_far (b := w.heap.size) (j := 3) (v := .int .i64 y3) (grown_far (b := w.heap.size) (j := 2) (v := .int .i64 (tq + 1)) (grown_far (b := w.heap.size) (j := 1) (v := .int .i64 fr) (grown_far (b := w.heap.size) (j := 0) (v := .int .i64 5) G23.out Mr.out) Mr.out) Mr.out) Mr.out) Mr.out) Mr.out) Mr.out) Mr.out) Mr.out) Mr.out) Mr.out) Mr.out)
    go_wp2
    refine bodyPost_ret (v := .agg #[.int .i64 5, .int .i64 fr, .int .i64 (tq + 1), .int .i64 y3, .int .i64 y4, .int .i64 y5, .int .i64 y6, .bool b7, .slice none 0 0, .slice vb zs.length vd, .string s10, .bool b11]) (by simp [results, Tryz.results76, go_sem, zr0_24, zr1_24, zr2_24, zr3_24, zr4_24, zr5_24, zr6_24, zr7_24, zr8_24, zr9_24, zr10_24, zr11_24]) rfl ?_
    exact ⟨⟨5, fr, tq + 1, y3, y4, y5, y6, b7, [], zs, s10, b11⟩, _, _, _, _, rfl, right_chunk ⟨hfr0, by omega, htq0.2, by omega, by omega, by omega, by omega⟩ hcf8.2 (by omega), ⟨rfl, Or.inl ⟨rfl, rfl⟩⟩, row_down Lv.out MF.out, KL.out, GL.out⟩
  obtain ⟨kd, hkd⟩ : ∃ k, 1 + y1 = k := ⟨_, rfl⟩
  have hkd0 : (1 ≤ kd ∧ kd ≤ 6) ∧ ¬ kd = 3 ∧ ¬ kd = 5 := by omega
  clear k3 k5 lo1 hi1
  obtain ⟨hkd1, hkd3, hkd5⟩ := hkd0
  have hb3 : (kd == 3) = false := by simpa using hkd3
  have hb5 : (kd == 5) = false := by simpa using hkd5
  go_wp2_with fail
  refine Calls.mono (l01Below_any C 4 (by omega) (by omega) _ K3.out) ?_
  rintro e w2 ⟨y2, rfl, lo2, hi2, k2, q2⟩
  have K4 := hid (k2)
  have G4 := hid (G3.out.trans q2)
  have Xr4 := hid (Xr3.out.cur q2 Nr.out)
  clear k2 q2 K3 G3 Xr3
  obtain ⟨fr, hfr⟩ : ∃ f, 1 + y2 = f := ⟨_, rfl⟩
  have hfr0 : 1 ≤ fr ∧ fr ≤ 4 := by omega
  clear lo2 hi2
  go_wp2_with fail
  refine Calls.mono (l01Below_any C 8 (by omega) (by omega) _ K4.out) ?_
  rintro e w3 ⟨y3, rfl, lo3, hi3, k3, q3⟩
  have K5 := hid (k3)
  have G5 := hid (G4.out.trans q3)
  have Xr5 := hid (Xr4.out.cur q3 Nr.out)
  clear k3 q3 K4 G4 Xr4
  go_wp2_with fail
  refine Calls.mono (l01Below_any C 12 (by omega) (by omega) _ K5.out) ?_
  rintro e w4 ⟨y4, rfl, lo4, hi4, k4, q4⟩
  have K6 := hid (k4)
  have G6 := hid (G5.out.trans q4)
  have Xr6 := hid (Xr5.out.cur q4 Nr.out)
  clear k4 q4 K5 G5 Xr5
  go_wp2_with fail
  refine Calls.mono (l01Below_any C 5 (by omega) (by omega) _ K6.out) ?_
  rintro e w5 ⟨y5, rfl, lo5, hi5, k5, q5⟩
  have K7 := hid (k5)
  have G7 := hid (G6.out.trans q5)
  have Xr7 := hid (Xr6.out.cur q5 Nr.out)
  clear k5 q5 K6 G6 Xr6
  go_wp2_with fail
  refine Calls.mono (l01Below_any C 9 (by omega) (by omega) _ K7.out) ?_
  rintro e w6 ⟨y6, rfl, lo6, hi6, k6, q6⟩
  have K8 := hid (k6)
  have G8 := hid (G7.out.trans q6)
  have Xr8 := hid (Xr7.out.cur q6 Nr.out)
  clear k6 q6 K7 G7 Xr7
  go_wp2_with fail
  refine Calls.mono (l01Once_any C 2 (by omega) (by omega) _ K8.out) ?_
  rintro e w7 ⟨b7, rfl, k7, q7⟩
  have K9 := hid (k7)
  have G9 := hid (G8.out.trans q7)
  have Xr9 := hid (Xr8.out.cur q7 Nr.out)
  clear k7 q7 K8 G8 Xr8
  obtain ⟨tq, htq⟩ : ∃ q, fr.tmod 4 = q := ⟨_, rfl⟩
  have htq0 : (0 ≤ tq ∧ tq ≤ 3) ∧ ¬ fr = tq + 1 := by
    rcases (show fr = 1 ∨ fr = 2 ∨ fr = 3 ∨ fr = 4 by omega) with h | h | h | h <;> subst h <;> subst htq <;> decide
  have ba := below_more (Below.refl w7.heap.size w7) (.cells #[.int .i64 kd, .int .i64 fr, .int .i64 (tq + 1), .int .i64 y3, .int .i64 y4, .int .i64 y5, .int .i64 y6, .bool b7, .slice none 0 0, .slice none 0 0, .string ⟨#[]⟩, .bool false] 39)
  have Mx := hid G9.out.size
  have Nx := hid (Nat.lt_of_lt_of_le hCl G9.out.size)
  have hx : BlockIs (w7.alloc (.cells #[.int .i64 kd, .int .i64 fr, .int .i64 (tq + 1), .int .i64 y3, .int .i64 y4, .int .i64 y5, .int .i64 y6, .bool b7, .slice none 0 0, .slice none 0 0, .string ⟨#[]⟩, .bool false] 39)) w7.heap.size 39 [.int .i64 kd, .int .i64 fr, .int .i64 (tq + 1), .int .i64 y3, .int .i64 y4, .int .i64 y5, .int .i64 y6, .bool b7, .slice none 0 0, .slice none 0 0, .string ⟨#[]⟩, .bool false] := heap_alloc_new w7 _
  have Arx := hid Xr9.out.lt
  have K10 := hid (K9.out.below ba)
  have G10 := hid (grown_below G9.out ba)
  have Xr10 := hid (Xr9.out.on ba Xr9.out.lt)
  have Xx10 := hid hx
  clear hx
  clear ba K9 G9 Xr9
  have zr0_11 := Xr10.out.cell (j := 0) rfl
  have zr1_11 := Xr10.out.cell (j := 1) rfl
  have zr2_11 := Xr10.out.cell (j := 2) rfl
  have zr3_11 := Xr10.out.cell (j := 3) rfl
  have zr4_11 := Xr10.out.cell (j := 4) rfl
  have zr5_11 := Xr10.out.cell (j := 5) rfl
  have zr6_11 := Xr10.out.cell (j := 6) rfl
  have zr7_11 := Xr10.out.cell (j := 7) rfl
  have zr8_11 := Xr10.out.cell (j := 8) rfl
  have zr9_11 := Xr10.out.cell (j := 9) rfl
  have zr10_11 := Xr10.out.cell (j := 10) rfl
  have zr11_11 := Xr10.out.cell (j := 11) rfl
  have yr0_11 := Xr10.out.thaw 0
  have yr1_11 := Xr10.out.thaw 1
  have yr2_11 := Xr10.out.thaw 2
  have yr3_11 := Xr10.out.thaw 3
  have yr4_11 := Xr10.out.thaw 4
  have yr5_11 := Xr10.out.thaw 5
  have yr6_11 := Xr10.out.thaw 6
  have yr7_11 := Xr10.out.thaw 7
  have yr8_11 := Xr10.out.thaw 8
  have yr9_11 := Xr10.out.thaw 9
  have yr10_11 := Xr10.out.thaw 10
  have yr11_11 := Xr10.out.thaw 11
  have zx0_11 := Xx10.out.cell (j := 0) rfl
  have zx1_11 := Xx10.out.cell (j := 1) rfl
  have zx2_11 := Xx10.out.cell (j := 2) rfl
  have zx3_11 := Xx10.out.cell (j := 3) rfl
  have zx4_11 := Xx10.out.cell (j := 4) rfl
  have zx5_11 := Xx10.out.cell (j := 5) rfl
  have zx6_11 := Xx10.out.cell (j := 6) rfl
  have zx7_11 := Xx10.out.cell (j := 7) rfl
  have zx8_11 := Xx10.out.cell (j := 8) rfl
  have zx9_11 := Xx10.out.cell (j := 9) rfl
  have zx10_11 := Xx10.out.cell (j := 10) rfl
  have zx11_11 := Xx10.out.cell (j := 11) rfl
  have yx0_11 := Xx10.out.thaw 0
  have yx1_11 := Xx10.out.thaw 1
  have yx2_11 := Xx10.out.thaw 2
  have yx3_11 := Xx10.out.thaw 3
  have yx4_11 := Xx10.out.thaw 4
  have yx5_11 := Xx10.out.thaw 5
  have yx6_11 := Xx10.out.thaw 6
  have yx7_11 := Xx10.out.thaw 7
  have yx8_11 := Xx10.out.thaw 8
  have yx9_11 := Xx10.out.thaw 9
  have yx10_11 := Xx10.out.thaw 10
  have yx11_11 := Xx10.out.thaw 11
  have KL := hid ((((((((((((K10.out.set (b := w.heap.size) (j := 0) (v := .int .i64 kd) Nr.out).set (b := w.heap.size) (j := 1) (v := .int .i64 fr) Nr.out).set (b := w.heap.size) (j := 2) (v := .int .i64 (tq + 1)) Nr.out).set (b := w.heap.size) (j := 3) (v := .int .i64 y3) Nr.out).set (b := w.heap.size) (j := 4) (v := .int .i64 y4) Nr.out).set (b := w.heap.size) (j := 5) (v := .int .i64 y5) Nr.out).set (b := w.heap.size) (j := 6) (v := .int .i64 y6) Nr.out).set (b := w.heap.size) (j := 7) (v := .bool b7) Nr.out).set (b := w.heap.size) (j := 8) (v := .slice none 0 0) Nr.out).set (b := w.heap.size) (j := 9) (v := .slice none 0 0) Nr.out).set (b := w.heap.size) (j := 10) (v := .string ⟨#[]⟩) Nr.out).set (b := w.heap.size) (j := 11) (v := .bool false) Nr.out)
  have GL := hid (grown_far (b := w.heap.size) (j := 11) (v := .bool false) (grown_far (b := w.heap.size) (j := 10) (v := .string ⟨#[]⟩) (grown_far (b := w.heap.size) (j := 9) (v := .slice none 0 0) (grown_far (b := w.heap.size) (j := 8) (v := .slice none 0 0) (grown_far (b := w.heap.size) (j := 7) (v := .bool b7) (grown_far (b := w.heap.size) (j := 6) (v := .int .i64 y6) (grown_far (b := w.heap.size) (j := 5) (v := .int .i64 y5) (grown_far (b := w.heap.size) (j := 4) (v := .int .i64 y4) (grown_far (b := w.heap.size) (j := 3) (v := .int .i64 y3) (grown_far (b := w.heap.size) (j := 2) (v := .int .i64 (tq + 1)) (grown_far (b := w.heap.size) (j := 1) (v := .int .i64 fr) (grown_far (b := w.heap.size) (j := 0) (v := .int .i64 kd) G10.out Mr.out) Mr.out) Mr.out) Mr.out) Mr.out) Mr.out) Mr.out) Mr.out) Mr.out) Mr.out) Mr.out) Mr.out)
  go_wp2
  refine bodyPost_ret (v := .agg #[.int .i64 kd, .int .i64 fr, .int .i64 (tq + 1), .int .i64 y3, .int .i64 y4, .int .i64 y5, .int .i64 y6, .bool b7, .slice none 0 0, .slice none 0 0, .string ⟨#[]⟩, .bool false]) (by simp [results, Tryz.results76, go_sem, zr0_11, zr1_11, zr2_11, zr3_11, zr4_11, zr5_11, zr6_11, zr7_11, zr8_11, zr9_11, zr10_11, zr11_11]) rfl ?_
  exact ⟨⟨kd, fr, tq + 1, y3, y4, y5, y6, b7, [], [], ⟨#[]⟩, false⟩, _, _, _, _, rfl, right_bare ⟨hfr0, by omega, htq0.2, by omega, by omega, by omega, by omega⟩ hkd1 hkd3 hkd5, ⟨rfl, Or.inl ⟨rfl, rfl⟩⟩, ⟨rfl, Or.inl ⟨rfl, rfl⟩⟩, KL.out, GL.out⟩
end Go.Proofs.YtohmfmajgehadaaGreatDoor

namespace Go.Proofs.YtohmfmajgehadaaGreatDoor
open Go.RowKit

theorem curLong_info5 : (Tryz.prog.info? 5).map (fun i => (i.zero, i.size, i.bytes)) = some (some (.int .u8 0), 1, 1) := by kernel_rfl

theorem zeros_cs (n : Nat) : (madeCells #[Value.int .u8 0] n).toList = cs (List.replicate n 0) := by
  apply List.ext_getElem?
  intro i
  simp only [madeCells, cs, Array.toList_map, List.getElem?_map, List.getElem?_replicate]
  by_cases h : i < n
  · simp [h, Nat.mod_one]
  · simp [h]

set_option maxRecDepth 1000000 in
set_option maxHeartbeats 1000000 in
theorem l01Long_any (n : Nat) (hn : n ≤ 1000000) (x : Int) (x0 : 0 ≤ x) (x1 : x ≤ 255) (w : World) :
    Calls Tryz.prog 78 #[.int .i64 n, .int .u8 x] w fun e w' => ∃ s : ByteArray, e = .returned (.string s) ∧ s.size = n ∧ Below w.heap.size w w' := by
  obtain ⟨i0, hi, hz0, hz1, hz2⟩ := info_parts curLong_info5
  go_enter Tryz.func78, Tryz.ntmps78
  go_wp2_with (at_make; refine wpList_make_full _ rfl (.tmp 7) (.tmp 7) 22 rfl w.heap.size 5 i0 (.int .u8 0) 1 Tryz.underlying22 hi hz0 hz1 _ _ _ _ n rfl rfl rfl rfl ?b2 ?b3 ?b4 ?_)
  case b2 => rw [hz2]; omega
  case b3 => unfold maxLen; omega
  case b4 => exact Nat.le_refl _
  intro w0 hown0 hgrow0
  rw [zeros_cs] at hown0
  have hb0 : Below w.heap.size w w0 := (Below.refl _ _).grown hgrow0 (Nat.le_refl _) (fun k h => by cases h)
  clear hgrow0
  go_wp2
  go_loopw [6] (fun i wr => ∃ (k : Nat) (l : List UInt8), k ≤ n ∧ i = .int .i64 k ∧ l.length = n ∧ wr.ownsRow w.heap.size 5 1 (.slice (some ⟨w.heap.size, 0, none⟩) n n) n (cs l) ∧ Below w.heap.size w wr) (fun i _ => n - (intOf i).toNat)
  case atStart => exact ⟨0, List.replicate n 0, Nat.zero_le _, rfl, by simp, hown0, hb0⟩
  case round =>
    obtain ⟨k, l, hk, rfl, hl, hown, hb⟩ := hrel
    clear hown0 hb0
    have HL := (show Hid _ from hl)
    clear hl
    by_cases hlt : k < n
    · obtain ⟨u0, hc0, hf0⟩ := at_row hown k hlt
      have k1 : (k : Int) < (n : Int) := by omega
      have HO : Hid ((wr.setCell ⟨w.heap.size, k, none⟩ (.int .u8 x)).ownsRow w.heap.size 5 1 (.slice (some ⟨w.heap.size, 0, none⟩) n n) n (cs (l.set k (UInt8.ofNat x.toNat)))) := by
        have h1 := ownsRow_set hown (g := w.heap.size) rfl k (.int .u8 x)
        have h2 : (cs l).set k (.int .u8 x) = cs (l.set k (UInt8.ofNat x.toNat)) := by
          have e : Value.int .u8 x = .int .u8 ((UInt8.ofNat x.toNat).toNat : Int) := by rw [UInt8.toNat_ofNat']; congr 1; omega
          rw [e]
          simp only [cs, List.map_set]
        rw [h2] at h1
        exact h1
      have HB := (show Hid _ from hb.setCell (p := ⟨w.heap.size, k, none⟩) (Nat.le_refl _) (.int .u8 x))
      clear hown hb
      go_wp2
      go_roundw
      case rel => exact ⟨k + 1, l.set k (UInt8.ofNat x.toNat), by omega, by go_num, by simp [HL.out], HO.out, HB.out⟩
      case measure => simp [intOf]; omega
    · have hown2 : wr.ownsRow w.heap.size 5 1 (.slice (some ⟨w.heap.size, 0, none⟩) n n) l.length (cs l) := by rw [HL.out]; exact hown
      have hcv := text_of_row (P := Tryz.prog) Tryz.underlying22 Tryz.underlying5 Tryz.underlying9 hown2
      clear hown hown2
      go_wp2
      go_ret
      exact ⟨_, rfl, by simp [ByteArray.size, HL.out], hb⟩
end Go.Proofs.YtohmfmajgehadaaGreatDoor
