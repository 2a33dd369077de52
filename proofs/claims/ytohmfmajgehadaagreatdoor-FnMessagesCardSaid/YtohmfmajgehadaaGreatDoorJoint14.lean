/-
  The walk of spec.l05Right: some entry, whose data are short.
-/
import Derived.Test.YtohmfmajgehadaaGreatDoorJoint6
import Derived.Test.YtohmfmajgehadaaGreatDoorJoint8
import Derived.Test.YtohmfmajgehadaaGreatDoorJoint11
import Derived.Test.YtohmfmajgehadaaGreatDoorJoint13
import Derived.Test.YtohmfmajgehadaaGreatDoorJoint1
namespace Go.Proofs.YtohmfmajgehadaaGreatDoor
open Go.RowKit

theorem confText_few (zs : List Int) (h : zs.length ≤ 5) : (confText zs).1.size ≤ 5 := by
  cases hq : confOk zs with
  | true =>
    rw [confText_yes hq]
    show (confBytes zs).toArray.size ≤ 5
    simpa [confBytes] using h
  | false => rw [confText_no hq]; decide
theorem rowInts {w : World} {base : Nat} {va : Option Addr} {vc : Nat} {zs : List Int} (h : w.ownsRow base 3 1 (.slice va zs.length vc) zs.length (is zs)) : IntsAt w va zs := by
  intro h0
  obtain ⟨_, (⟨he, h1⟩ | ⟨g, cap, cur, he, _, hg, _, _, _, ht⟩)⟩ := h
  · exact absurd (List.length_eq_zero_iff.1 h1) h0
  · cases he
    refine ⟨g, 0, rfl, fun j hj => ?_⟩
    have e1 : (cur.toList.take (zs.length * 1))[j]? = some (.int .i64 zs[j]) := by rw [ht]; simp [is, hj]
    rw [List.getElem?_take_of_lt (by omega)] at e1
    have e2 : cur[j]? = some (.int .i64 zs[j]) := by simpa using e1
    rw [Nat.zero_add]
    simp [World.cell?, hg, e2]
/-- an entry of a term whose data are short -/
def EntD.Short (d : EntD) (tm : Int) : Prop := d.term = tm ∧ 1 ≤ d.kind ∧ d.kind ≤ 3 ∧ d.data.size ≤ 120 ∧ (within tm 0 100000 = true → entryOk d = true)
theorem short_mk {tm kd : Int} {T : ByteArray} (h1 : 1 ≤ kd) (h2 : kd ≤ 3) (h3 : T.size ≤ 120) (h4 : within tm 0 100000 = true → entryOk ⟨tm, kd, T⟩ = true) : EntD.Short ⟨tm, kd, T⟩ tm := ⟨rfl, h1, h2, h3, h4⟩
theorem ent_conf {tm : Int} {zs : List Int} {T : ByteArray} (h : within tm 0 100000 = true) (hz : confOk zs = true) (hT : (confText zs).1 = T) : entryOk ⟨tm, 2, T⟩ = true := by
  rw [confText_yes hz] at hT
  dsimp only at hT
  subst hT
  simp [entryOk, h, confs_back hz]
theorem ent_command {tm : Int} {T : ByteArray} (h : within tm 0 100000 = true) (hT : T.size ≤ 120) : entryOk ⟨tm, 3, T⟩ = true := by simp [entryOk, h, hT]
theorem ent_none {tm kd : Int} (h : within tm 0 100000 = true) (hk : kd = 1) : entryOk ⟨tm, kd, ⟨#[]⟩⟩ = true := by subst hk; simp [entryOk, h]; rfl

set_option maxRecDepth 1000000 in
set_option maxHeartbeats 2000000 in
theorem l05Right_any (C : Nat) (tm : Int) (w : World) (hc : CurAt w C) :
    Calls Tryz.prog 121 #[.pointer (some ⟨C, 0, none⟩), .int .i64 tm] w fun e w' => ∃ d : EntD, e = .returned (.agg #[.int .i64 d.term, .int .i64 d.kind, .string d.data]) ∧ d.Short tm ∧ CurAt w' C ∧ w.grownBy w' (some C) := by
  have hCl := hc.lt
  have K0 := hid hc
  have G0 := hid (World.grownBy.refl w (some C))
  clear hc
  have be := below_more (Below.refl w.heap.size w) (.cells #[.int .i64 0, .int .i64 0, .string ⟨#[]⟩] 57)
  have hx1 : BlockIs (w.alloc (.cells #[.int .i64 0, .int .i64 0, .string ⟨#[]⟩] 57)) w.heap.size 57 [.int .i64 0, .int .i64 0, .string ⟨#[]⟩] := heap_alloc_new w _
  have K1 := hid (K0.out.below be)
  have G1 := hid (grown_below G0.out be)
  have Xr1 := hid hx1
  have Nr : Hid (C < w.heap.size) := (show _ < _ by omega)
  have Mr : Hid (w.heap.size ≤ w.heap.size) := (show _ ≤ _ by omega)
  clear be hx1  K0 G0
  obtain ⟨W0, hW0⟩ : ∃ W, w.alloc (.cells #[.int .i64 0, .int .i64 0, .string ⟨#[]⟩] 57) = W := ⟨_, rfl⟩
  rw [hW0] at K1 G1 Xr1
  have zr0_2 := Xr1.out.cell (j := 0) rfl
  have zr1_2 := Xr1.out.cell (j := 1) rfl
  have zr2_2 := Xr1.out.cell (j := 2) rfl
  have yr0_2 := Xr1.out.thaw 0
  have yr1_2 := Xr1.out.thaw 1
  have yr2_2 := Xr1.out.thaw 2
  go_enter Tryz.func121, Tryz.ntmps121
  go_wp2_with fail
  refine Calls.mono (pickI_any C [1, 2, 3, 3, 3] (by decide) (by decide) 3 _ _ rfl K1.out) ?_
  rintro e w1 ⟨kd1, rfl, hk1, k1, q1⟩
  have K3 := hid (k1)
  have G3 := hid (G1.out.trans q1)
  have Xr3 := hid (Xr1.out.cur q1 Nr.out)
  clear k1 q1 K1 G1 zr0_2 zr1_2 zr2_2 yr0_2 yr1_2 yr2_2 Xr1
  have zr0_4 := Xr3.out.cell (j := 0) rfl
  have zr1_4 := Xr3.out.cell (j := 1) rfl
  have zr2_4 := Xr3.out.cell (j := 2) rfl
  have yr0_4 := Xr3.out.thaw 0
  have yr1_4 := Xr3.out.thaw 1
  have yr2_4 := Xr3.out.thaw 2
  have hkd : 1 ≤ kd1 ∧ kd1 ≤ 3 := by simp at hk1; omega
  clear hk1
  have ba := below_more (Below.refl w1.heap.size w1) (.cells #[.int .i64 tm, .int .i64 kd1, .string ⟨#[]⟩] 57)
  have Me := hid G3.out.size
  have Ne := hid (Nat.lt_of_lt_of_le hCl G3.out.size)
  have hx : BlockIs (w1.alloc (.cells #[.int .i64 tm, .int .i64 kd1, .string ⟨#[]⟩] 57)) w1.heap.size 57 [.int .i64 tm, .int .i64 kd1, .string ⟨#[]⟩] := heap_alloc_new w1 _
  have Are := hid Xr3.out.lt
  have K5 := hid (K3.out.below ba)
  have G5 := hid (grown_below G3.out ba)
  have Xr5 := hid (Xr3.out.on ba Xr3.out.lt)
  have Xe5 := hid hx
  clear hx
  clear ba K3 G3 zr0_4 zr1_4 zr2_4 yr0_4 yr1_4 yr2_4 Xr3
  have zr0_6 := Xr5.out.cell (j := 0) rfl
  have zr1_6 := Xr5.out.cell (j := 1) rfl
  have zr2_6 := Xr5.out.cell (j := 2) rfl
  have yr0_6 := Xr5.out.thaw 0
  have yr1_6 := Xr5.out.thaw 1
  have yr2_6 := Xr5.out.thaw 2
  have ze0_6 := Xe5.out.cell (j := 0) rfl
  have ze1_6 := Xe5.out.cell (j := 1) rfl
  have ze2_6 := Xe5.out.cell (j := 2) rfl
  have ye0_6 := Xe5.out.thaw 0
  have ye1_6 := Xe5.out.thaw 1
  have ye2_6 := Xe5.out.thaw 2
  by_cases h2 : kd1 = 2
  · subst h2
    go_wp2_with fail
    refine Calls.mono (l05Conf_any C _ K5.out) ?_
    rintro e w2 ⟨v2, zs2, rfl, hf2, ⟨hz2, hok2⟩, ho2, k2, q2⟩
    have K7 := hid (k2)
    have G7 := hid (G5.out.trans q2)
    have Xr7 := hid (Xr5.out.cur q2 Nr.out)
    have Xe7 := hid (Xe5.out.cur q2 Ne.out)
    clear k2 q2 K5 G5 zr0_6 zr1_6 zr2_6 yr0_6 yr1_6 yr2_6 ze0_6 ze1_6 ze2_6 ye0_6 ye1_6 ye2_6 Xr5 Xe5
    obtain ⟨va, vc, rfl⟩ := row_shape ho2
    have HI := hid (rowInts ho2)
    clear ho2
    have zr0_8 := Xr7.out.cell (j := 0) rfl
    have zr1_8 := Xr7.out.cell (j := 1) rfl
    have zr2_8 := Xr7.out.cell (j := 2) rfl
    have yr0_8 := Xr7.out.thaw 0
    have yr1_8 := Xr7.out.thaw 1
    have yr2_8 := Xr7.out.thaw 2
    have ze0_8 := Xe7.out.cell (j := 0) rfl
    have ze1_8 := Xe7.out.cell (j := 1) rfl
    have ze2_8 := Xe7.out.cell (j := 2) rfl
    have ye0_8 := Xe7.out.thaw 0
    have ye1_8 := Xe7.out.thaw 1
    have ye2_8 := Xe7.out.thaw 2
    go_wp2_with fail
    refine Calls.mono (specConfText_any va zs2 vc (by omega) _ HI.out) ?_
    rintro e w3 ⟨rfl, b3⟩
    have K9 := hid (K7.out.below b3)
    have G9 := hid (grown_below G7.out b3)
    have Xr9 := hid (Xr7.out.on b3 Xr7.out.lt)
    have Xe9 := hid (Xe7.out.on b3 Xe7.out.lt)
    clear b3 K7 G7 zr0_8 zr1_8 zr2_8 yr0_8 yr1_8 yr2_8 ze0_8 ze1_8 ze2_8 ye0_8 ye1_8 ye2_8 Xr7 Xe7
    clear HI
    have hct := confText_few zs2 hz2
    obtain ⟨T, hT⟩ : ∃ T, (confText zs2).1 = T := ⟨_, rfl⟩
    obtain ⟨B9, hB9⟩ : ∃ b, (confText zs2).2 = b := ⟨_, rfl⟩
    rw [hT] at hct ⊢
    rw [hB9]
    have zr0_10 := Xr9.out.cell (j := 0) rfl
    have zr1_10 := Xr9.out.cell (j := 1) rfl
    have zr2_10 := Xr9.out.cell (j := 2) rfl
    have yr0_10 := Xr9.out.thaw 0
    have yr1_10 := Xr9.out.thaw 1
    have yr2_10 := Xr9.out.thaw 2
    have ze0_10 := Xe9.out.cell (j := 0) rfl
    have ze1_10 := Xe9.out.cell (j := 1) rfl
    have ze2_10 := Xe9.out.cell (j := 2) rfl
    have ye0_10 := Xe9.out.thaw 0
    have ye1_10 := Xe9.out.thaw 1
    have ye2_10 := Xe9.out.thaw 2
    have K11 := hid (K9.out.set (b := w1.heap.size) (j := 2) (v := (.string T)) Ne.out)
    have G11 := hid (grown_far (b := w1.heap.size) (j := 2) (v := (.string T)) G9.out Me.out)
    have Xr11 := hid (Xr9.out.far (b := w1.heap.size) (j := 2) (by have := Are.out; omega) (.string T))
    have Xe11 : Hid (BlockIs (w3.setCell ⟨w1.heap.size, 2, none⟩ (.string T)) (w1.heap.size) 57 [.int .i64 tm, .int .i64 2, .string T]) := Xe9.out.set 2 (.string T)
    clear K9 G9 Xr9 Xe9
    have zr0_12 := Xr11.out.cell (j := 0) rfl
    have zr1_12 := Xr11.out.cell (j := 1) rfl
    have zr2_12 := Xr11.out.cell (j := 2) rfl
    have yr0_12 := Xr11.out.thaw 0
    have yr1_12 := Xr11.out.thaw 1
    have yr2_12 := Xr11.out.thaw 2
    have ze0_12 := Xe11.out.cell (j := 0) rfl
    have ze1_12 := Xe11.out.cell (j := 1) rfl
    have ze2_12 := Xe11.out.cell (j := 2) rfl
    have ye0_12 := Xe11.out.thaw 0
    have ye1_12 := Xe11.out.thaw 1
    have ye2_12 := Xe11.out.thaw 2
    have KL := hid (((K11.out.set (b := w.heap.size) (j := 0) (v := .int .i64 tm) Nr.out).set (b := w.heap.size) (j := 1) (v := .int .i64 2) Nr.out).set (b := w.heap.size) (j := 2) (v := .string T) Nr.out)
    have GL := hid (grown_far (b := w.heap.size) (j := 2) (v := .string T) (grown_far (b := w.heap.size) (j := 1) (v := .int .i64 2) (grown_far (b := w.heap.size) (j := 0) (v := .int .i64 tm) G11.out Mr.out) Mr.out) Mr.out)
    go_wp2
    refine bodyPost_ret (v := .agg #[.int .i64 tm, .int .i64 2, .string T]) (by simp [results, Tryz.results121, go_sem, zr0_12, zr1_12, zr2_12]) rfl ?_
    exact ⟨⟨tm, 2, T⟩, rfl, short_mk (by omega) (by omega) (by omega) (fun h => ent_conf h hok2 hT), KL.out, GL.out⟩
  by_cases h3 : kd1 = 3
  · subst h3
    clear h2
    go_wp2_with fail
    refine Calls.mono (l16Right_any C _ K5.out) ?_
    rintro e w2 ⟨d2, rfl, k2, q2⟩
    have K7 := hid (k2)
    have G7 := hid (G5.out.trans q2)
    have Xr7 := hid (Xr5.out.cur q2 Nr.out)
    have Xe7 := hid (Xe5.out.cur q2 Ne.out)
    clear k2 q2 K5 G5 zr0_6 zr1_6 zr2_6 yr0_6 yr1_6 yr2_6 ze0_6 ze1_6 ze2_6 ye0_6 ye1_6 ye2_6 Xr5 Xe5
    have zr0_8 := Xr7.out.cell (j := 0) rfl
    have zr1_8 := Xr7.out.cell (j := 1) rfl
    have zr2_8 := Xr7.out.cell (j := 2) rfl
    have yr0_8 := Xr7.out.thaw 0
    have yr1_8 := Xr7.out.thaw 1
    have yr2_8 := Xr7.out.thaw 2
    have ze0_8 := Xe7.out.cell (j := 0) rfl
    have ze1_8 := Xe7.out.cell (j := 1) rfl
    have ze2_8 := Xe7.out.cell (j := 2) rfl
    have ye0_8 := Xe7.out.thaw 0
    have ye1_8 := Xe7.out.thaw 1
    have ye2_8 := Xe7.out.thaw 2
    go_wp2_with fail
    refine Calls.mono (commandText_any d2 _) ?_
    rintro e w3 ⟨⟨T, b9, rfl, hT⟩, b3⟩
    have K9 := hid (K7.out.below b3)
    have G9 := hid (grown_below G7.out b3)
    have Xr9 := hid (Xr7.out.on b3 Xr7.out.lt)
    have Xe9 := hid (Xe7.out.on b3 Xe7.out.lt)
    clear b3 K7 G7 zr0_8 zr1_8 zr2_8 yr0_8 yr1_8 yr2_8 ze0_8 ze1_8 ze2_8 ye0_8 ye1_8 ye2_8 Xr7 Xe7
    have zr0_10 := Xr9.out.cell (j := 0) rfl
    have zr1_10 := Xr9.out.cell (j := 1) rfl
    have zr2_10 := Xr9.out.cell (j := 2) rfl
    have yr0_10 := Xr9.out.thaw 0
    have yr1_10 := Xr9.out.thaw 1
    have yr2_10 := Xr9.out.thaw 2
    have ze0_10 := Xe9.out.cell (j := 0) rfl
    have ze1_10 := Xe9.out.cell (j := 1) rfl
    have ze2_10 := Xe9.out.cell (j := 2) rfl
    have ye0_10 := Xe9.out.thaw 0
    have ye1_10 := Xe9.out.thaw 1
    have ye2_10 := Xe9.out.thaw 2
    have K11 := hid (K9.out.set (b := w1.heap.size) (j := 2) (v := (.string T)) Ne.out)
    have G11 := hid (grown_far (b := w1.heap.size) (j := 2) (v := (.string T)) G9.out Me.out)
    have Xr11 := hid (Xr9.out.far (b := w1.heap.size) (j := 2) (by have := Are.out; omega) (.string T))
    have Xe11 : Hid (BlockIs (w3.setCell ⟨w1.heap.size, 2, none⟩ (.string T)) (w1.heap.size) 57 [.int .i64 tm, .int .i64 3, .string T]) := Xe9.out.set 2 (.string T)
    clear K9 G9 Xr9 Xe9
    have zr0_12 := Xr11.out.cell (j := 0) rfl
    have zr1_12 := Xr11.out.cell (j := 1) rfl
    have zr2_12 := Xr11.out.cell (j := 2) rfl
    have yr0_12 := Xr11.out.thaw 0
    have yr1_12 := Xr11.out.thaw 1
    have yr2_12 := Xr11.out.thaw 2
    have ze0_12 := Xe11.out.cell (j := 0) rfl
    have ze1_12 := Xe11.out.cell (j := 1) rfl
    have ze2_12 := Xe11.out.cell (j := 2) rfl
    have ye0_12 := Xe11.out.thaw 0
    have ye1_12 := Xe11.out.thaw 1
    have ye2_12 := Xe11.out.thaw 2
    have KL := hid (((K11.out.set (b := w.heap.size) (j := 0) (v := .int .i64 tm) Nr.out).set (b := w.heap.size) (j := 1) (v := .int .i64 3) Nr.out).set (b := w.heap.size) (j := 2) (v := .string T) Nr.out)
    have GL := hid (grown_far (b := w.heap.size) (j := 2) (v := .string T) (grown_far (b := w.heap.size) (j := 1) (v := .int .i64 3) (grown_far (b := w.heap.size) (j := 0) (v := .int .i64 tm) G11.out Mr.out) Mr.out) Mr.out)
    go_wp2
    refine bodyPost_ret (v := .agg #[.int .i64 tm, .int .i64 3, .string T]) (by simp [results, Tryz.results121, go_sem, zr0_12, zr1_12, zr2_12]) rfl ?_
    exact ⟨⟨tm, 3, T⟩, rfl, short_mk (by omega) (by omega) (by omega) (fun h => ent_command h (by omega)), KL.out, GL.out⟩
  have h2' : (kd1 == 2) = false := by simpa using h2
  have h3' : (kd1 == 3) = false := by simpa using h3
  have KL := hid (((K5.out.set (b := w.heap.size) (j := 0) (v := .int .i64 tm) Nr.out).set (b := w.heap.size) (j := 1) (v := .int .i64 kd1) Nr.out).set (b := w.heap.size) (j := 2) (v := .string ⟨#[]⟩) Nr.out)
  have GL := hid (grown_far (b := w.heap.size) (j := 2) (v := .string ⟨#[]⟩) (grown_far (b := w.heap.size) (j := 1) (v := .int .i64 kd1) (grown_far (b := w.heap.size) (j := 0) (v := .int .i64 tm) G5.out Mr.out) Mr.out) Mr.out)
  go_wp2
  refine bodyPost_ret (v := .agg #[.int .i64 tm, .int .i64 kd1, .string ⟨#[]⟩]) (by simp [results, Tryz.results121, go_sem, zr0_6, zr1_6, zr2_6]) rfl ?_
  exact ⟨⟨tm, kd1, ⟨#[]⟩⟩, rfl, short_mk (by omega) (by omega) (by decide) (fun h => ent_none h (by omega)), KL.out, GL.out⟩

/-- an entry that is not great -/
def EntD.Tame (d : EntD) : Prop := (-1 ≤ d.term ∧ d.term ≤ 100001) ∧ (0 ≤ d.kind ∧ d.kind ≤ 4) ∧ d.data.size ≤ 200
theorem tame_mk {tm kd : Int} {T : ByteArray} (h1 : -1 ≤ tm ∧ tm ≤ 100001) (h2 : 0 ≤ kd ∧ kd ≤ 4) (h3 : T.size ≤ 200) : EntD.Tame ⟨tm, kd, T⟩ := ⟨h1, h2, h3⟩
end Go.Proofs.YtohmfmajgehadaaGreatDoor
