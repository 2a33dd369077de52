/-
  The walks of laws.toBits, toBitsS: bits laid anew, in memory of their own.
-/
import Derived.Test.YtpknpodmoeaggabTidyDid
import Derived.Test.YtpknpodmoeaggabTextS
import Derived.Test.YtpknpodmoeaggabIntS
namespace Go.Proofs.Ytpknpodmoeaggab
open Go.RowKit

set_option maxRecDepth 1000000 in
set_option maxHeartbeats 4000000 in
theorem toBits_any (e : BitD) (r : BitsD) (hs : SmallB e) (w : World) (h : HoldsB w e r) :
    Calls Try.prog 36 #[.agg #[.int .i64 r.src, .int .i64 r.ident, .slice r.tx.ad r.tx.len r.tx.cap, .slice r.ax.ad r.ax.len r.ax.cap, .int .i64 r.total, .int .i64 r.lim]] w fun e' w' => ∃ r', e' = .returned (.agg #[.int .i64 r'.src, .int .i64 r'.ident, .slice r'.tx.ad r'.tx.len r'.tx.cap, .slice r'.ax.ad r'.ax.len r'.ax.cap, .int .i64 r'.total, .int .i64 r'.lim]) ∧ OwnB w' e r' w.heap.size w'.heap.size ∧ Below w.heap.size w w' := by
  obtain ⟨ta, tc, aa, ac, rfl, h1t, h1a⟩ := h
  obtain ⟨hs1, hs2, _⟩ := hs
  simp only [rawB]
  have hp0 : BlockIs (w.alloc (.cells #[.int .i64 e.src, .int .i64 e.ident, .slice ta e.texts.length tc, .slice aa e.ats.length ac, .int .i64 e.total, .int .i64 e.lim] 58)) w.heap.size 58 [.int .i64 e.src, .int .i64 e.ident, .slice ta e.texts.length tc, .slice aa e.ats.length ac, .int .i64 e.total, .int .i64 e.lim] := heap_alloc_new w _
  have hz0 : (w.alloc (.cells #[.int .i64 e.src, .int .i64 e.ident, .slice ta e.texts.length tc, .slice aa e.ats.length ac, .int .i64 e.total, .int .i64 e.lim] 58)).heap.size = w.heap.size + 1 := by simp [World.alloc, -World.alloc_eq]
  have b0 := below_more (Below.refl w.heap.size w) (.cells #[.int .i64 e.src, .int .i64 e.ident, .slice ta e.texts.length tc, .slice aa e.ats.length ac, .int .i64 e.total, .int .i64 e.lim] 58)
  obtain ⟨Wa, hWa⟩ : ∃ W, w.alloc (.cells #[.int .i64 e.src, .int .i64 e.ident, .slice ta e.texts.length tc, .slice aa e.ats.length ac, .int .i64 e.total, .int .i64 e.lim] 58) = W := ⟨_, rfl⟩
  rw [hWa] at hp0 hz0 b0
  have hq0 : BlockIs (Wa.alloc (.cells #[.int .i64 0, .int .i64 0, .slice none 0 0, .slice none 0 0, .int .i64 0, .int .i64 0] 60)) (w.heap.size + 1) 60 [.int .i64 0, .int .i64 0, .slice none 0 0, .slice none 0 0, .int .i64 0, .int .i64 0] := by
    have := heap_alloc_new Wa (.cells #[.int .i64 0, .int .i64 0, .slice none 0 0, .slice none 0 0, .int .i64 0, .int .i64 0] 60)
    rw [hz0] at this
    exact this
  have bb0 := below_more (Below.refl Wa.heap.size Wa) (.cells #[.int .i64 0, .int .i64 0, .slice none 0 0, .slice none 0 0, .int .i64 0, .int .i64 0] 60)
  have hz1 : (Wa.alloc (.cells #[.int .i64 0, .int .i64 0, .slice none 0 0, .slice none 0 0, .int .i64 0, .int .i64 0] 60)).heap.size = w.heap.size + 1 + 1 := by simp [World.alloc, -World.alloc_eq, hz0]
  obtain ⟨Wb, hWb⟩ : ∃ W, Wa.alloc (.cells #[.int .i64 0, .int .i64 0, .slice none 0 0, .slice none 0 0, .int .i64 0, .int .i64 0] 60) = W := ⟨_, rfl⟩
  rw [hWb] at hq0 bb0 hz1
  have ho0 : BlockIs (Wb.alloc (.cells #[.int .i64 e.src, .int .i64 e.ident, .slice none 0 0, .slice none 0 0, .int .i64 0, .int .i64 0] 60)) (w.heap.size + 1 + 1) 60 [.int .i64 e.src, .int .i64 e.ident, .slice none 0 0, .slice none 0 0, .int .i64 0, .int .i64 0] := by
    have := heap_alloc_new Wb (.cells #[.int .i64 e.src, .int .i64 e.ident, .slice none 0 0, .slice none 0 0, .int .i64 0, .int .i64 0] 60)
    rw [hz1] at this
    exact this
  have bb1 := below_more (Below.refl Wb.heap.size Wb) (.cells #[.int .i64 e.src, .int .i64 e.ident, .slice none 0 0, .slice none 0 0, .int .i64 0, .int .i64 0] 60)
  obtain ⟨W0, hW0⟩ : ∃ W, Wb.alloc (.cells #[.int .i64 e.src, .int .i64 e.ident, .slice none 0 0, .slice none 0 0, .int .i64 0, .int .i64 0] 60) = W := ⟨_, rfl⟩
  rw [hW0] at ho0 bb1
  have P0 := hid (hp0.on (below_via bb0 bb1) hp0.lt)
  have Z0 := hid (hq0.on bb1 hq0.lt)
  have O0 := hid ho0
  have B0 := hid (below_via b0 (below_via bb0 bb1))
  have hlt0 : w.heap.size + 1 + 1 < W0.heap.size := ho0.lt
  have ht := h1t.on B0.out
  have HA := hid h1a
  clear hp0 hq0 ho0 b0 bb0 bb1 h1t h1a
  rw [← hWb, ← hWa] at hW0
  clear hWa hWb hz0 hz1
  go_enter Try.func36, Try.ntmps36
  have sc1 := P0.out.cell (j := 2) rfl
  have sf1 := P0.out.thaw 2
  have sc2 := P0.out.cell (j := 3) rfl
  have sf2 := P0.out.thaw 3
  go_wp2_with fail
  refine Calls.mono (toStringS_any ta e.texts tc hs1 _ ht) ?_
  rintro e9 w1 ⟨rfl, k1, bb⟩
  have BB3 := hid (below_via B0.out bb)
  have HP3 := hid (P0.out.on bb P0.out.lt)
  have HZ3 := hid (Z0.out.on bb Z0.out.lt)
  have HO3 := hid (O0.out.on bb O0.out.lt)
  clear sc1 sf1 sc2 sf2
  clear bb B0 P0 Z0 O0
  have hlt1 : w.heap.size + 1 + 1 < w1.heap.size := HO3.out.lt
  have hT1 : W0.heap.size < w1.heap.size := k1.lt
  have K1 := hid k1
  clear k1
  have sc4 := HO3.out.cell (j := 2) rfl
  have sf4 := HO3.out.thaw 2
  have BB5 := hid (BB3.out.setCell (p := ⟨w.heap.size + 1 + 1, 2, none⟩) (show w.heap.size ≤ w.heap.size + 1 + 1 by omega) (.slice (some ⟨W0.heap.size, 0, none⟩) e.texts.length e.texts.length))
  have HP5 := hid (HP3.out.far (b := w.heap.size + 1 + 1) (j := 2) (by omega) (.slice (some ⟨W0.heap.size, 0, none⟩) e.texts.length e.texts.length))
  have HZ5 := hid (HZ3.out.far (b := w.heap.size + 1 + 1) (j := 2) (by omega) (.slice (some ⟨W0.heap.size, 0, none⟩) e.texts.length e.texts.length))
  have HO5 : Hid (BlockIs (w1.setCell ⟨w.heap.size + 1 + 1, 2, none⟩ (.slice (some ⟨W0.heap.size, 0, none⟩) e.texts.length e.texts.length)) (w.heap.size + 1 + 1) 60 [.int .i64 e.src, .int .i64 e.ident, .slice (some ⟨W0.heap.size, 0, none⟩) e.texts.length e.texts.length, .slice none 0 0, .int .i64 0, .int .i64 0]) := HO3.out.set 2 (.slice (some ⟨W0.heap.size, 0, none⟩) e.texts.length e.texts.length)
  have HT5 := hid (K1.out.far (b := w.heap.size + 1 + 1) (j := 2) (by omega) (.slice (some ⟨W0.heap.size, 0, none⟩) e.texts.length e.texts.length))
  have hz5 : (w1.setCell ⟨w.heap.size + 1 + 1, 2, none⟩ (.slice (some ⟨W0.heap.size, 0, none⟩) e.texts.length e.texts.length)).heap.size = w1.heap.size := World.size_setCell _ _ _
  obtain ⟨V1, hnV1⟩ : ∃ W, (w1.setCell ⟨w.heap.size + 1 + 1, 2, none⟩ (.slice (some ⟨W0.heap.size, 0, none⟩) e.texts.length e.texts.length)) = W := ⟨_, rfl⟩
  rw [hnV1] at BB5 hz5 HP5 HZ5 HO5 HT5
  have SZ5 := hid hz5
  clear hz5 BB3 HP3 HZ3 HO3 K1
  have sc6 := HP5.out.cell (j := 3) rfl
  have sf6 := HP5.out.thaw 3
  have ha1 := HA.out.on BB5.out
  go_wp2_with fail
  refine Calls.mono (toIntS_any aa e.ats ac hs2 _ ha1.ints) ?_
  rintro e9 w2 ⟨rfl, k2, bb⟩
  have BB7 := hid (below_via BB5.out bb)
  have HP7 := hid (HP5.out.on bb HP5.out.lt)
  have HZ7 := hid (HZ5.out.on bb HZ5.out.lt)
  have HO7 := hid (HO5.out.on bb HO5.out.lt)
  have HT7 := hid (HT5.out.on bb HT5.out.lt)
  clear sc4 sf4 sc6 sf6
  clear bb BB5 HP5 HZ5 HO5 HT5
  have hA2 : V1.heap.size < w2.heap.size := k2.lt
  have hV1 : w1.heap.size ≤ V1.heap.size := Nat.le_of_eq SZ5.out.symm
  have K2 := hid k2
  clear k2 ha1
  have sc8 := HO7.out.cell (j := 3) rfl
  have sf8 := HO7.out.thaw 3
  have sc9 := HP7.out.cell (j := 4) rfl
  have sf9 := HP7.out.thaw 4
  have sc10 := HP7.out.cell (j := 5) rfl
  have sf10 := HP7.out.thaw 5
  have BB11 := hid (BB7.out.setCell (p := ⟨w.heap.size + 1 + 1, 3, none⟩) (show w.heap.size ≤ w.heap.size + 1 + 1 by omega) (.slice (some ⟨V1.heap.size, 0, none⟩) e.ats.length e.ats.length))
  have HP11 := hid (HP7.out.far (b := w.heap.size + 1 + 1) (j := 3) (by omega) (.slice (some ⟨V1.heap.size, 0, none⟩) e.ats.length e.ats.length))
  have HZ11 := hid (HZ7.out.far (b := w.heap.size + 1 + 1) (j := 3) (by omega) (.slice (some ⟨V1.heap.size, 0, none⟩) e.ats.length e.ats.length))
  have HO11 : Hid (BlockIs (w2.setCell ⟨w.heap.size + 1 + 1, 3, none⟩ (.slice (some ⟨V1.heap.size, 0, none⟩) e.ats.length e.ats.length)) (w.heap.size + 1 + 1) 60 [.int .i64 e.src, .int .i64 e.ident, .slice (some ⟨W0.heap.size, 0, none⟩) e.texts.length e.texts.length, .slice (some ⟨V1.heap.size, 0, none⟩) e.ats.length e.ats.length, .int .i64 0, .int .i64 0]) := HO7.out.set 3 (.slice (some ⟨V1.heap.size, 0, none⟩) e.ats.length e.ats.length)
  have HT11 := hid (HT7.out.far (b := w.heap.size + 1 + 1) (j := 3) (by omega) (.slice (some ⟨V1.heap.size, 0, none⟩) e.ats.length e.ats.length))
  have HA11 := hid (K2.out.far (b := w.heap.size + 1 + 1) (j := 3) (by omega) (.slice (some ⟨V1.heap.size, 0, none⟩) e.ats.length e.ats.length))
  have hz11 : (w2.setCell ⟨w.heap.size + 1 + 1, 3, none⟩ (.slice (some ⟨V1.heap.size, 0, none⟩) e.ats.length e.ats.length)).heap.size = w2.heap.size := World.size_setCell _ _ _
  obtain ⟨V2, hnV2⟩ : ∃ W, (w2.setCell ⟨w.heap.size + 1 + 1, 3, none⟩ (.slice (some ⟨V1.heap.size, 0, none⟩) e.ats.length e.ats.length)) = W := ⟨_, rfl⟩
  rw [hnV2] at BB11 hz11 HP11 HZ11 HO11 HT11 HA11
  have SZ11 := hid hz11
  clear hz11 BB7 HP7 HZ7 HO7 HT7 K2
  have sc12 := HO11.out.cell (j := 4) rfl
  have sf12 := HO11.out.thaw 4
  have sc13 := HP11.out.cell (j := 4) rfl
  have sf13 := HP11.out.thaw 4
  have sc14 := HP11.out.cell (j := 5) rfl
  have sf14 := HP11.out.thaw 5
  have BB15 := hid (BB11.out.setCell (p := ⟨w.heap.size + 1 + 1, 4, none⟩) (show w.heap.size ≤ w.heap.size + 1 + 1 by omega) (.int .i64 e.total))
  have HP15 := hid (HP11.out.far (b := w.heap.size + 1 + 1) (j := 4) (by omega) (.int .i64 e.total))
  have HZ15 := hid (HZ11.out.far (b := w.heap.size + 1 + 1) (j := 4) (by omega) (.int .i64 e.total))
  have HO15 : Hid (BlockIs (V2.setCell ⟨w.heap.size + 1 + 1, 4, none⟩ (.int .i64 e.total)) (w.heap.size + 1 + 1) 60 [.int .i64 e.src, .int .i64 e.ident, .slice (some ⟨W0.heap.size, 0, none⟩) e.texts.length e.texts.length, .slice (some ⟨V1.heap.size, 0, none⟩) e.ats.length e.ats.length, .int .i64 e.total, .int .i64 0]) := HO11.out.set 4 (.int .i64 e.total)
  have HT15 := hid (HT11.out.far (b := w.heap.size + 1 + 1) (j := 4) (by omega) (.int .i64 e.total))
  have HA15 := hid (HA11.out.far (b := w.heap.size + 1 + 1) (j := 4) (by omega) (.int .i64 e.total))
  have hz15 : (V2.setCell ⟨w.heap.size + 1 + 1, 4, none⟩ (.int .i64 e.total)).heap.size = V2.heap.size := World.size_setCell _ _ _
  obtain ⟨V3, hnV3⟩ : ∃ W, (V2.setCell ⟨w.heap.size + 1 + 1, 4, none⟩ (.int .i64 e.total)) = W := ⟨_, rfl⟩
  rw [hnV3] at BB15 hz15 HP15 HZ15 HO15 HT15 HA15
  have SZ15 := hid hz15
  clear hz15 BB11 HP11 HZ11 HO11 HT11 HA11
  have sc16 := HO15.out.cell (j := 5) rfl
  have sf16 := HO15.out.thaw 5
  have sc17 := HP15.out.cell (j := 5) rfl
  have sf17 := HP15.out.thaw 5
  have BB18 := hid (BB15.out.setCell (p := ⟨w.heap.size + 1 + 1, 5, none⟩) (show w.heap.size ≤ w.heap.size + 1 + 1 by omega) (.int .i64 e.lim))
  have HP18 := hid (HP15.out.far (b := w.heap.size + 1 + 1) (j := 5) (by omega) (.int .i64 e.lim))
  have HZ18 := hid (HZ15.out.far (b := w.heap.size + 1 + 1) (j := 5) (by omega) (.int .i64 e.lim))
  have HO18 : Hid (BlockIs (V3.setCell ⟨w.heap.size + 1 + 1, 5, none⟩ (.int .i64 e.lim)) (w.heap.size + 1 + 1) 60 [.int .i64 e.src, .int .i64 e.ident, .slice (some ⟨W0.heap.size, 0, none⟩) e.texts.length e.texts.length, .slice (some ⟨V1.heap.size, 0, none⟩) e.ats.length e.ats.length, .int .i64 e.total, .int .i64 e.lim]) := HO15.out.set 5 (.int .i64 e.lim)
  have HT18 := hid (HT15.out.far (b := w.heap.size + 1 + 1) (j := 5) (by omega) (.int .i64 e.lim))
  have HA18 := hid (HA15.out.far (b := w.heap.size + 1 + 1) (j := 5) (by omega) (.int .i64 e.lim))
  have hz18 : (V3.setCell ⟨w.heap.size + 1 + 1, 5, none⟩ (.int .i64 e.lim)).heap.size = V3.heap.size := World.size_setCell _ _ _
  obtain ⟨V4, hnV4⟩ : ∃ W, (V3.setCell ⟨w.heap.size + 1 + 1, 5, none⟩ (.int .i64 e.lim)) = W := ⟨_, rfl⟩
  rw [hnV4] at BB18 hz18 HP18 HZ18 HO18 HT18 HA18
  have SZ18 := hid hz18
  clear hz18 BB15 HP15 HZ15 HO15 HT15 HA15
  have sc19 := HO18.out.cell (j := 0) rfl
  have sf19 := HO18.out.thaw 0
  have sc20 := HO18.out.cell (j := 1) rfl
  have sf20 := HO18.out.thaw 1
  have sc21 := HO18.out.cell (j := 2) rfl
  have sf21 := HO18.out.thaw 2
  have sc22 := HO18.out.cell (j := 3) rfl
  have sf22 := HO18.out.thaw 3
  have sc23 := HO18.out.cell (j := 4) rfl
  have sf23 := HO18.out.thaw 4
  have sc24 := HO18.out.cell (j := 5) rfl
  have sf24 := HO18.out.thaw 5
  have sc25 := HZ18.out.cell (j := 0) rfl
  have sf25 := HZ18.out.thaw 0
  have sc26 := HZ18.out.cell (j := 1) rfl
  have sf26 := HZ18.out.thaw 1
  have sc27 := HZ18.out.cell (j := 2) rfl
  have sf27 := HZ18.out.thaw 2
  have sc28 := HZ18.out.cell (j := 3) rfl
  have sf28 := HZ18.out.thaw 3
  have sc29 := HZ18.out.cell (j := 4) rfl
  have sf29 := HZ18.out.thaw 4
  have sc30 := HZ18.out.cell (j := 5) rfl
  have sf30 := HZ18.out.thaw 5
  have BB31 := hid (BB18.out.setCell (p := ⟨w.heap.size + 1, 0, none⟩) (show w.heap.size ≤ w.heap.size + 1 by omega) (.int .i64 e.src))
  have HP31 := hid (HP18.out.far (b := w.heap.size + 1) (j := 0) (by omega) (.int .i64 e.src))
  have HZ31 : Hid (BlockIs (V4.setCell ⟨w.heap.size + 1, 0, none⟩ (.int .i64 e.src)) (w.heap.size + 1) 60 [.int .i64 e.src, .int .i64 0, .slice none 0 0, .slice none 0 0, .int .i64 0, .int .i64 0]) := HZ18.out.set 0 (.int .i64 e.src)
  have HO31 := hid (HO18.out.far (b := w.heap.size + 1) (j := 0) (by omega) (.int .i64 e.src))
  have HT31 := hid (HT18.out.far (b := w.heap.size + 1) (j := 0) (by omega) (.int .i64 e.src))
  have HA31 := hid (HA18.out.far (b := w.heap.size + 1) (j := 0) (by omega) (.int .i64 e.src))
  have hz31 : (V4.setCell ⟨w.heap.size + 1, 0, none⟩ (.int .i64 e.src)).heap.size = V4.heap.size := World.size_setCell _ _ _
  obtain ⟨U0, hnU0⟩ : ∃ W, (V4.setCell ⟨w.heap.size + 1, 0, none⟩ (.int .i64 e.src)) = W := ⟨_, rfl⟩
  rw [hnU0] at BB31 hz31 HP31 HZ31 HO31 HT31 HA31
  have SZ31 := hid hz31
  clear hz31 BB18 HP18 HZ18 HO18 HT18 HA18
  have sc32 := HZ31.out.cell (j := 1) rfl
  have sf32 := HZ31.out.thaw 1
  have BB33 := hid (BB31.out.setCell (p := ⟨w.heap.size + 1, 1, none⟩) (show w.heap.size ≤ w.heap.size + 1 by omega) (.int .i64 e.ident))
  have HP33 := hid (HP31.out.far (b := w.heap.size + 1) (j := 1) (by omega) (.int .i64 e.ident))
  have HZ33 : Hid (BlockIs (U0.setCell ⟨w.heap.size + 1, 1, none⟩ (.int .i64 e.ident)) (w.heap.size + 1) 60 [.int .i64 e.src, .int .i64 e.ident, .slice none 0 0, .slice none 0 0, .int .i64 0, .int .i64 0]) := HZ31.out.set 1 (.int .i64 e.ident)
  have HO33 := hid (HO31.out.far (b := w.heap.size + 1) (j := 1) (by omega) (.int .i64 e.ident))
  have HT33 := hid (HT31.out.far (b := w.heap.size + 1) (j := 1) (by omega) (.int .i64 e.ident))
  have HA33 := hid (HA31.out.far (b := w.heap.size + 1) (j := 1) (by omega) (.int .i64 e.ident))
  have hz33 : (U0.setCell ⟨w.heap.size + 1, 1, none⟩ (.int .i64 e.ident)).heap.size = U0.heap.size := World.size_setCell _ _ _
  obtain ⟨U1, hnU1⟩ : ∃ W, (U0.setCell ⟨w.heap.size + 1, 1, none⟩ (.int .i64 e.ident)) = W := ⟨_, rfl⟩
  rw [hnU1] at BB33 hz33 HP33 HZ33 HO33 HT33 HA33
  have SZ33 := hid hz33
  clear hz33 BB31 HP31 HZ31 HO31 HT31 HA31
  have sc34 := HZ33.out.cell (j := 2) rfl
  have sf34 := HZ33.out.thaw 2
  have BB35 := hid (BB33.out.setCell (p := ⟨w.heap.size + 1, 2, none⟩) (show w.heap.size ≤ w.heap.size + 1 by omega) (.slice (some ⟨W0.heap.size, 0, none⟩) e.texts.length e.texts.length))
  have HP35 := hid (HP33.out.far (b := w.heap.size + 1) (j := 2) (by omega) (.slice (some ⟨W0.heap.size, 0, none⟩) e.texts.length e.texts.length))
  have HZ35 : Hid (BlockIs (U1.setCell ⟨w.heap.size + 1, 2, none⟩ (.slice (some ⟨W0.heap.size, 0, none⟩) e.texts.length e.texts.length)) (w.heap.size + 1) 60 [.int .i64 e.src, .int .i64 e.ident, .slice (some ⟨W0.heap.size, 0, none⟩) e.texts.length e.texts.length, .slice none 0 0, .int .i64 0, .int .i64 0]) := HZ33.out.set 2 (.slice (some ⟨W0.heap.size, 0, none⟩) e.texts.length e.texts.length)
  have HO35 := hid (HO33.out.far (b := w.heap.size + 1) (j := 2) (by omega) (.slice (some ⟨W0.heap.size, 0, none⟩) e.texts.length e.texts.length))
  have HT35 := hid (HT33.out.far (b := w.heap.size + 1) (j := 2) (by omega) (.slice (some ⟨W0.heap.size, 0, none⟩) e.texts.length e.texts.length))
  have HA35 := hid (HA33.out.far (b := w.heap.size + 1) (j := 2) (by omega) (.slice (some ⟨W0.heap.size, 0, none⟩) e.texts.length e.texts.length))
  have hz35 : (U1.setCell ⟨w.heap.size + 1, 2, none⟩ (.slice (some ⟨W0.heap.size, 0, none⟩) e.texts.length e.texts.length)).heap.size = U1.heap.size := World.size_setCell _ _ _
  obtain ⟨U2, hnU2⟩ : ∃ W, (U1.setCell ⟨w.heap.size + 1, 2, none⟩ (.slice (some ⟨W0.heap.size, 0, none⟩) e.texts.length e.texts.length)) = W := ⟨_, rfl⟩
  rw [hnU2] at BB35 hz35 HP35 HZ35 HO35 HT35 HA35
  have SZ35 := hid hz35
  clear hz35 BB33 HP33 HZ33 HO33 HT33 HA33
  have sc36 := HZ35.out.cell (j := 3) rfl
  have sf36 := HZ35.out.thaw 3
  have BB37 := hid (BB35.out.setCell (p := ⟨w.heap.size + 1, 3, none⟩) (show w.heap.size ≤ w.heap.size + 1 by omega) (.slice (some ⟨V1.heap.size, 0, none⟩) e.ats.length e.ats.length))
  have HP37 := hid (HP35.out.far (b := w.heap.size + 1) (j := 3) (by omega) (.slice (some ⟨V1.heap.size, 0, none⟩) e.ats.length e.ats.length))
  have HZ37 : Hid (BlockIs (U2.setCell ⟨w.heap.size + 1, 3, none⟩ (.slice (some ⟨V1.heap.size, 0, none⟩) e.ats.length e.ats.length)) (w.heap.size + 1) 60 [.int .i64 e.src, .int .i64 e.ident, .slice (some ⟨W0.heap.size, 0, none⟩) e.texts.length e.texts.length, .slice (some ⟨V1.heap.size, 0, none⟩) e.ats.length e.ats.length, .int .i64 0, .int .i64 0]) := HZ35.out.set 3 (.slice (some ⟨V1.heap.size, 0, none⟩) e.ats.length e.ats.length)
  have HO37 := hid (HO35.out.far (b := w.heap.size + 1) (j := 3) (by omega) (.slice (some ⟨V1.heap.size, 0, none⟩) e.ats.length e.ats.length))
  have HT37 := hid (HT35.out.far (b := w.heap.size + 1) (j := 3) (by omega) (.slice (some ⟨V1.heap.size, 0, none⟩) e.ats.length e.ats.length))
  have HA37 := hid (HA35.out.far (b := w.heap.size + 1) (j := 3) (by omega) (.slice (some ⟨V1.heap.size, 0, none⟩) e.ats.length e.ats.length))
  have hz37 : (U2.setCell ⟨w.heap.size + 1, 3, none⟩ (.slice (some ⟨V1.heap.size, 0, none⟩) e.ats.length e.ats.length)).heap.size = U2.heap.size := World.size_setCell _ _ _
  obtain ⟨U3, hnU3⟩ : ∃ W, (U2.setCell ⟨w.heap.size + 1, 3, none⟩ (.slice (some ⟨V1.heap.size, 0, none⟩) e.ats.length e.ats.length)) = W := ⟨_, rfl⟩
  rw [hnU3] at BB37 hz37 HP37 HZ37 HO37 HT37 HA37
  have SZ37 := hid hz37
  clear hz37 BB35 HP35 HZ35 HO35 HT35 HA35
  have sc38 := HZ37.out.cell (j := 4) rfl
  have sf38 := HZ37.out.thaw 4
  have BB39 := hid (BB37.out.setCell (p := ⟨w.heap.size + 1, 4, none⟩) (show w.heap.size ≤ w.heap.size + 1 by omega) (.int .i64 e.total))
  have HP39 := hid (HP37.out.far (b := w.heap.size + 1) (j := 4) (by omega) (.int .i64 e.total))
  have HZ39 : Hid (BlockIs (U3.setCell ⟨w.heap.size + 1, 4, none⟩ (.int .i64 e.total)) (w.heap.size + 1) 60 [.int .i64 e.src, .int .i64 e.ident, .slice (some ⟨W0.heap.size, 0, none⟩) e.texts.length e.texts.length, .slice (some ⟨V1.heap.size, 0, none⟩) e.ats.length e.ats.length, .int .i64 e.total, .int .i64 0]) := HZ37.out.set 4 (.int .i64 e.total)
  have HO39 := hid (HO37.out.far (b := w.heap.size + 1) (j := 4) (by omega) (.int .i64 e.total))
  have HT39 := hid (HT37.out.far (b := w.heap.size + 1) (j := 4) (by omega) (.int .i64 e.total))
  have HA39 := hid (HA37.out.far (b := w.heap.size + 1) (j := 4) (by omega) (.int .i64 e.total))
  have hz39 : (U3.setCell ⟨w.heap.size + 1, 4, none⟩ (.int .i64 e.total)).heap.size = U3.heap.size := World.size_setCell _ _ _
  obtain ⟨U4, hnU4⟩ : ∃ W, (U3.setCell ⟨w.heap.size + 1, 4, none⟩ (.int .i64 e.total)) = W := ⟨_, rfl⟩
  rw [hnU4] at BB39 hz39 HP39 HZ39 HO39 HT39 HA39
  have SZ39 := hid hz39
  clear hz39 BB37 HP37 HZ37 HO37 HT37 HA37
  have sc40 := HZ39.out.cell (j := 5) rfl
  have sf40 := HZ39.out.thaw 5
  have BB41 := hid (BB39.out.setCell (p := ⟨w.heap.size + 1, 5, none⟩) (show w.heap.size ≤ w.heap.size + 1 by omega) (.int .i64 e.lim))
  have HP41 := hid (HP39.out.far (b := w.heap.size + 1) (j := 5) (by omega) (.int .i64 e.lim))
  have HZ41 : Hid (BlockIs (U4.setCell ⟨w.heap.size + 1, 5, none⟩ (.int .i64 e.lim)) (w.heap.size + 1) 60 [.int .i64 e.src, .int .i64 e.ident, .slice (some ⟨W0.heap.size, 0, none⟩) e.texts.length e.texts.length, .slice (some ⟨V1.heap.size, 0, none⟩) e.ats.length e.ats.length, .int .i64 e.total, .int .i64 e.lim]) := HZ39.out.set 5 (.int .i64 e.lim)
  have HO41 := hid (HO39.out.far (b := w.heap.size + 1) (j := 5) (by omega) (.int .i64 e.lim))
  have HT41 := hid (HT39.out.far (b := w.heap.size + 1) (j := 5) (by omega) (.int .i64 e.lim))
  have HA41 := hid (HA39.out.far (b := w.heap.size + 1) (j := 5) (by omega) (.int .i64 e.lim))
  have hz41 : (U4.setCell ⟨w.heap.size + 1, 5, none⟩ (.int .i64 e.lim)).heap.size = U4.heap.size := World.size_setCell _ _ _
  obtain ⟨U5, hnU5⟩ : ∃ W, (U4.setCell ⟨w.heap.size + 1, 5, none⟩ (.int .i64 e.lim)) = W := ⟨_, rfl⟩
  rw [hnU5] at BB41 hz41 HP41 HZ41 HO41 HT41 HA41
  have SZ41 := hid hz41
  clear hz41 BB39 HP39 HZ39 HO39 HT39 HA39
  have r0 := HZ41.out.cell (j := 0) rfl
  have r1 := HZ41.out.cell (j := 1) rfl
  have r2 := HZ41.out.cell (j := 2) rfl
  have r3 := HZ41.out.cell (j := 3) rfl
  have r4 := HZ41.out.cell (j := 4) rfl
  have r5 := HZ41.out.cell (j := 5) rfl
  have hsz : w2.heap.size ≤ U5.heap.size := by have := SZ11.out; have := SZ15.out; have := SZ18.out; have := SZ31.out; have := SZ33.out; have := SZ35.out; have := SZ37.out; have := SZ39.out; have := SZ41.out; omega
  go_wp2
  refine bodyPost_ret (v := .agg #[.int .i64 e.src, .int .i64 e.ident, .slice (some ⟨W0.heap.size, 0, none⟩) e.texts.length e.texts.length, .slice (some ⟨V1.heap.size, 0, none⟩) e.ats.length e.ats.length, .int .i64 e.total, .int .i64 e.lim]) (by simp [results, Try.results36, go_sem, r0, r1, r2, r3, r4, r5]) rfl ?_
  exact ⟨rawB e (some ⟨W0.heap.size, 0, none⟩) e.texts.length (some ⟨V1.heap.size, 0, none⟩) e.ats.length, rfl, ⟨_, _, _, _, V1.heap.size, rfl, Or.inr ⟨W0.heap.size, [], rfl, by omega, by omega, by rw [List.append_nil]; exact HT41.out⟩, Or.inr ⟨V1.heap.size, [], rfl, Nat.le_refl _, by omega, by rw [List.append_nil]; exact HA41.out⟩, by omega, by omega⟩, BB41.out⟩
end Go.Proofs.Ytpknpodmoeaggab
