/-
  The walk of spec.PostRing: what it answers, in memory of its own.
-/
import Derived.Test.YtbajffpkfjkolaaRingCopyS
import Derived.Test.YtbajffpkfjkolaaRingOkS
import Derived.Test.YtbajffpkfjkolaaPostDid
namespace Go.Proofs.Ytbajffpkfjkolaa
open Go.RowKit

set_option maxRecDepth 1000000 in
set_option maxHeartbeats 4000000 in
theorem specPost_any (s t : Int) (hs : -9223372036854775808 ≤ s ∧ s ≤ 9223372036854775807) (ht : -9223372036854775808 ≤ t ∧ t ≤ 9223372036854775807) (ao : Option Addr) (l : List SlotD) (cap : Nat) (hl : l.length ≤ 1048576) (hsm : ∀ f ∈ l, slotOne f ≤ 1048576) (x : ByteArray) (hx : x.size ≤ 1048576) (w : World) (ha : SlotsAt w ao l) :
    Calls Try.prog 13 #[.agg #[.slice ao l.length cap, .int .i64 s, .int .i64 t], .string x] w fun e w' => PostRDid l s t x w e w' := by
  have CC := hid (fun w ha => l09Copy_any s t ao l cap hl w ha)
  have CO := hid (fun w ha => specRingOk_any s t hs ht ao l cap hl hsm w ha)
  have CI := hid (fun x a b w => l01In_any x a b w)
  have hx0 : BlockIs ((w.alloc (.cells #[.slice ao l.length cap, .int .i64 s, .int .i64 t] 26)).alloc (.cells #[.slice none 0 0, .int .i64 0, .int .i64 0] 26)) w.heap.size 26 [.slice ao l.length cap, .int .i64 s, .int .i64 t] := by
    show ((w.heap.push _).push _)[w.heap.size]? = some _
    rw [Array.getElem?_push, if_neg (by simp), Array.getElem?_push, if_pos rfl]
  have hx1 : BlockIs ((w.alloc (.cells #[.slice ao l.length cap, .int .i64 s, .int .i64 t] 26)).alloc (.cells #[.slice none 0 0, .int .i64 0, .int .i64 0] 26)) (w.heap.size + 1) 26 [.slice none 0 0, .int .i64 0, .int .i64 0] := by
    show ((w.heap.push _).push _)[w.heap.size + 1]? = some _
    rw [Array.getElem?_push, if_pos (by simp)]
  have hb0 := below_more (below_more (Below.refl w.heap.size w) (.cells #[.slice ao l.length cap, .int .i64 s, .int .i64 t] 26)) (.cells #[.slice none 0 0, .int .i64 0, .int .i64 0] 26)
  obtain ⟨WW, hWW⟩ : ∃ WW, (w.alloc (.cells #[.slice ao l.length cap, .int .i64 s, .int .i64 t] 26)).alloc (.cells #[.slice none 0 0, .int .i64 0, .int .i64 0] 26) = WW := ⟨_, rfl⟩
  rw [hWW] at hx0 hx1 hb0
  have HA := hid ha
  have X0 := hid hx0
  have X1 := hid hx1
  have B0 := hid hb0
  have c00 := hx0.cell (j := 0) rfl
  have c01 := hx0.cell (j := 1) rfl
  have c02 := hx0.cell (j := 2) rfl
  clear hx0 hx1 hb0 ha hsm
  go_enter Try.func13, Try.ntmps13
  go_wp2_with fail
  refine (CC.out _ (HA.out.on B0.out)).mono ?_
  rintro e w1 ⟨va, vc, rfl, hvc, ho, b1⟩
  have ba := below_more (Below.refl w1.heap.size w1) (.cells #[.slice va l.length vc, .int .i64 s, .int .i64 t] 26)
  have hx2 : BlockIs (w1.alloc (.cells #[.slice va l.length vc, .int .i64 s, .int .i64 t] 26)) w1.heap.size 26 [.slice va l.length vc, .int .i64 s, .int .i64 t] := heap_alloc_new w1 _
  have OW := hid (ho.on ba)
  have hWl := X1.out.lt
  have hw1l := b1.size
  have bc := below_via b1 ba
  have X0a := hid (X0.out.on bc X0.out.lt)
  have X1a := hid (X1.out.on bc X1.out.lt)
  have B0a := hid (below_via B0.out bc)
  have X2 := hid hx2
  obtain ⟨w2, hw2⟩ : ∃ w2, w1.alloc (.cells #[.slice va l.length vc, .int .i64 s, .int .i64 t] 26) = w2 := ⟨_, rfl⟩
  rw [hw2] at X0a X1a B0a X2 OW
  have d00 := X0a.out.cell (j := 0) rfl
  have d01 := X0a.out.cell (j := 1) rfl
  have d02 := X0a.out.cell (j := 2) rfl
  clear hx2 ba bc b1 ho c00 c01 c02 X0 X1 B0 CC
  go_wp2_with fail
  refine (CO.out _ (HA.out.on B0a.out)).mono ?_
  rintro e w3 ⟨rfl, b3⟩
  have Y0 := hid (X0a.out.on b3 X0a.out.lt)
  have Y1 := hid (X1a.out.on b3 X1a.out.lt)
  have Y2 := hid (X2.out.on b3 X2.out.lt)
  have B3 := hid (below_via B0a.out b3)
  have O3 := hid ((OW.out.on b3))
  have hw3l := Y2.out.lt
  clear b3 d00 d01 d02 X0a X1a X2 B0a OW CO
  have y00 := Y0.out.cell (j := 0) rfl
  have y01 := Y0.out.cell (j := 1) rfl
  have y02 := Y0.out.cell (j := 2) rfl
  have y10 := Y1.out.cell (j := 0) rfl
  have y11 := Y1.out.cell (j := 1) rfl
  have y12 := Y1.out.cell (j := 2) rfl
  have y20 := Y2.out.cell (j := 0) rfl
  have y21 := Y2.out.cell (j := 1) rfl
  have y22 := Y2.out.cell (j := 2) rfl
  have f10 := Y1.out.thaw 0
  have f20 := Y2.out.thaw 0
  have f11 := Y1.out.thaw 1
  have f21 := Y2.out.thaw 1
  have f12 := Y1.out.thaw 2
  have f22 := Y2.out.thaw 2
  cases hok : ringOk l s t with
  | false =>
    have HN : Hid (postOk l s t x = false) := by show _ = _; simp [postOk, hok]
    have BL := hid (((B3.out.setCell (p := ⟨w.heap.size + 1, 0, none⟩) (by show _ ≤ _ + 1; omega) (.slice va l.length vc)).setCell (p := ⟨w.heap.size + 1, 1, none⟩) (by show _ ≤ _ + 1; omega) (.int .i64 s)).setCell (p := ⟨w.heap.size + 1, 2, none⟩) (by show _ ≤ _ + 1; omega) (.int .i64 t))
    have OL := hid (((O3.out.down (Nat.le_refl _) (show w1.heap.size + 0 ≤ w3.heap.size by omega) |>.down (show w.heap.size + 1 + 1 ≤ WW.heap.size by omega) (Nat.le_refl _)).far (show w.heap.size + 1 < w.heap.size + 1 + 1 by omega) (j := 0) (.slice va l.length vc)).far (show w.heap.size + 1 < w.heap.size + 1 + 1 by omega) (j := 1) (.int .i64 s) |>.far (show w.heap.size + 1 < w.heap.size + 1 + 1 by omega) (j := 2) (.int .i64 t))
    go_wp2
    refine bodyPost_ret (v := .tuple #[.agg #[.slice va l.length vc, .int .i64 s, .int .i64 t], .bool false]) (by simp [results, Try.results13, go_sem, y10, y11, y12]) rfl ?_
    exact post_no HN.out hvc (OL.out.down (by omega) (Nat.le_refl _)) BL.out
  | true =>
    have hp := ringOk_places hok
    obtain ⟨⟨p0, p1⟩, ⟨p2, p3⟩, p4, p5⟩ := hp
    obtain ⟨h, rfl⟩ := Int.eq_ofNat_of_zero_le p2
    obtain ⟨u, rfl⟩ := Int.eq_ofNat_of_zero_le p4
    have q3 : h < l.length := by omega
    have q5 : u < l.length := by omega
    have hne : ¬ l = [] := by intro e; rw [e] at q3; simp at q3
    obtain ⟨ab, aoff, rfl, hca⟩ := HA.out.on B3.out hne
    obtain ⟨i0, i1⟩ := hca h q3
    clear hca
    by_cases hxs : 1 ≤ x.size ∧ x.size ≤ 100
    · have hwi : Hid (within (x.size : Int) 1 100 = true) := by show _ = _; simp [within]; omega
      go_wp2_with fail
      refine (CI.out _ _ _ _).mono ?_
      rintro e w5 ⟨rfl, hw5⟩
      rw [hw5, hwi.out]; clear hw5 w5
      by_cases hown : l[h].own = 1
      · have hown2 : (l[h].own == 1) = true := by simp [hown]
        have HN : Hid (postOk l h u x = false) := by show _ = _; unfold postOk; rw [hok, Int.toNat_natCast, slotAt_eq q3, hown]; simp
        have BL := hid (((B3.out.setCell (p := ⟨w.heap.size + 1, 0, none⟩) (by show _ ≤ _ + 1; omega) (.slice va l.length vc)).setCell (p := ⟨w.heap.size + 1, 1, none⟩) (by show _ ≤ _ + 1; omega) (.int .i64 h)).setCell (p := ⟨w.heap.size + 1, 2, none⟩) (by show _ ≤ _ + 1; omega) (.int .i64 u))
        have OL := hid (((O3.out.down (Nat.le_refl _) (show w1.heap.size + 0 ≤ w3.heap.size by omega) |>.down (show w.heap.size + 1 + 1 ≤ WW.heap.size by omega) (Nat.le_refl _)).far (show w.heap.size + 1 < w.heap.size + 1 + 1 by omega) (j := 0) (.slice va l.length vc)).far (show w.heap.size + 1 < w.heap.size + 1 + 1 by omega) (j := 1) (.int .i64 h) |>.far (show w.heap.size + 1 < w.heap.size + 1 + 1 by omega) (j := 2) (.int .i64 u))
        go_wp2
        refine bodyPost_ret (v := .tuple #[.agg #[.slice va l.length vc, .int .i64 h, .int .i64 u], .bool false]) (by simp [results, Try.results13, go_sem, y10, y11, y12]) rfl ?_
        exact post_no HN.out hvc (OL.out.down (by omega) (Nat.le_refl _)) BL.out
      · have hown2 : (l[h].own == 1) = false := by simp [hown]
        have HN : Hid (postOk l h u x = true) := by show _ = _; unfold postOk; rw [hok, Int.toNat_natCast, slotAt_eq q3]; simp [hown, hxs]
        obtain ⟨N, hN⟩ : ∃ N, (h + 1) % l.length = N := ⟨_, rfl⟩
        have hN1 : ((h : Int) + 1) % (l.length : Int) = (N : Int) := by rw [← hN]; rfl
        rcases O3.out with h0 | ⟨g, r, rfl, hlo, hhi, hbl⟩
        · exact absurd h0 (by omega)
        have hq2 : (slotCells l ++ r)[h * 2]? = some (.int .i64 l[h].own) := row_at slotEnc 2 (fun _ => rfl) l r h 0 q3 (by omega)
        have hq3 : (slotCells l ++ r)[h * 2 + 1]? = some (.string l[h].text) := row_at slotEnc 2 (fun _ => rfl) l r h 1 q3 (by omega)
        have s0 := hbl.cell hq2
        have s1 := hbl.cell hq3
        have t0 := hbl.thaw (h * 2)
        have t1 := hbl.thaw (h * 2 + 1)
        have hset := (hbl.set (h * 2) (.int .i64 1)).set (h * 2 + 1) (.string x)
        rw [List.set_append_left _ _ (by rw [slotCells_length]; omega), List.set_append_left _ _ (by rw [List.length_set, slotCells_length]; omega), show ((slotCells l).set (h * 2) (.int .i64 1)).set (h * 2 + 1) (.string x) = slotCells (l.set h ⟨1, x⟩) from slotCells_set l h q3 ⟨1, x⟩] at hset
        have Z0 := (Y0.out.far (show g ≠ w.heap.size by omega) (j := h * 2) (.int .i64 1)).far (show g ≠ w.heap.size by omega) (j := h * 2 + 1) (.string x)
        have Z1 := (Y1.out.far (show g ≠ w.heap.size + 1 by omega) (j := h * 2) (.int .i64 1)).far (show g ≠ w.heap.size + 1 by omega) (j := h * 2 + 1) (.string x)
        have Z2 := (Y2.out.far (show g ≠ w1.heap.size by omega) (j := h * 2) (.int .i64 1)).far (show g ≠ w1.heap.size by omega) (j := h * 2 + 1) (.string x)
        have B4 := hid ((B3.out.setCell (p := ⟨g, h * 2, none⟩) (by show _ ≤ g; omega) (.int .i64 1)).setCell (p := ⟨g, h * 2 + 1, none⟩) (by show _ ≤ g; omega) (.string x))
        obtain ⟨w4, hw4⟩ : ∃ w4, (w3.setCell ⟨g, h * 2, none⟩ (.int .i64 1)).setCell ⟨g, h * 2 + 1, none⟩ (.string x) = w4 := ⟨_, rfl⟩
        have hsz4 : w4.heap.size = w3.heap.size := by rw [← hw4]; simp [World.size_setCell]
        rw [hw4] at hset Z0 Z1 Z2 B4
        have z00 := Z0.cell (j := 0) rfl
        have z01 := Z0.cell (j := 1) rfl
        have z02 := Z0.cell (j := 2) rfl
        have z10 := Z1.cell (j := 0) rfl
        have z11 := Z1.cell (j := 1) rfl
        have z12 := Z1.cell (j := 2) rfl
        have z20 := Z2.cell (j := 0) rfl
        have z21 := Z2.cell (j := 1) rfl
        have z22 := Z2.cell (j := 2) rfl
        have k10 := Z1.thaw 0
        have k20 := Z2.thaw 0
        have k11 := Z1.thaw 1
        have k21 := Z2.thaw 1
        have k12 := Z1.thaw 2
        have k22 := Z2.thaw 2
        have HP := hid (((((hset.far (show w1.heap.size ≠ g by omega) (j := 1) (.int .i64 N))).far (show w.heap.size + 1 ≠ g by omega) (j := 0) (.slice (some ⟨g, 0, none⟩) l.length vc)).far (show w.heap.size + 1 ≠ g by omega) (j := 1) (.int .i64 N)).far (show w.heap.size + 1 ≠ g by omega) (j := 2) (.int .i64 u))
        have BL := hid ((((B4.out.setCell (p := ⟨w1.heap.size, 1, none⟩) (by show _ ≤ w1.heap.size; omega) (.int .i64 N)).setCell (p := ⟨w.heap.size + 1, 0, none⟩) (by show _ ≤ _ + 1; omega) (.slice (some ⟨g, 0, none⟩) l.length vc)).setCell (p := ⟨w.heap.size + 1, 1, none⟩) (by show _ ≤ _ + 1; omega) (.int .i64 N)).setCell (p := ⟨w.heap.size + 1, 2, none⟩) (by show _ ≤ _ + 1; omega) (.int .i64 u))
        have HNN := hid hN
        clear hset Z0 Z1 Z2 hN hbl O3 Y0 Y1 Y2
        go_wp2
        refine bodyPost_ret (v := .tuple #[.agg #[.slice (some ⟨g, 0, none⟩) l.length vc, .int .i64 N, .int .i64 u], .bool true]) (by simp [results, Try.results13, go_sem, z10, z11, z12]) rfl ?_
        exact post_yes HN.out HNN.out hvc (by omega) HP.out BL.out
    · have hwi : Hid (within (x.size : Int) 1 100 = false) := by show _ = _; simp [within]; omega
      go_wp2_with fail
      refine (CI.out _ _ _ _).mono ?_
      rintro e w5 ⟨rfl, hw5⟩
      rw [hw5, hwi.out]; clear hw5 w5
      have HN : Hid (postOk l h u x = false) := by show _ = _; unfold postOk; rw [hok]; simp; omega
      have BL := hid (((B3.out.setCell (p := ⟨w.heap.size + 1, 0, none⟩) (by show _ ≤ _ + 1; omega) (.slice va l.length vc)).setCell (p := ⟨w.heap.size + 1, 1, none⟩) (by show _ ≤ _ + 1; omega) (.int .i64 h)).setCell (p := ⟨w.heap.size + 1, 2, none⟩) (by show _ ≤ _ + 1; omega) (.int .i64 u))
      have OL := hid (((O3.out.down (Nat.le_refl _) (show w1.heap.size + 0 ≤ w3.heap.size by omega) |>.down (show w.heap.size + 1 + 1 ≤ WW.heap.size by omega) (Nat.le_refl _)).far (show w.heap.size + 1 < w.heap.size + 1 + 1 by omega) (j := 0) (.slice va l.length vc)).far (show w.heap.size + 1 < w.heap.size + 1 + 1 by omega) (j := 1) (.int .i64 h) |>.far (show w.heap.size + 1 < w.heap.size + 1 + 1 by omega) (j := 2) (.int .i64 u))
      go_wp2
      refine bodyPost_ret (v := .tuple #[.agg #[.slice va l.length vc, .int .i64 h, .int .i64 u], .bool false]) (by simp [results, Try.results13, go_sem, y10, y11, y12]) rfl ?_
      exact post_no HN.out hvc (OL.out.down (by omega) (Nat.le_refl _)) BL.out
end Go.Proofs.Ytbajffpkfjkolaa
