/-
  The walk of impl.copiedBits: bits in memory of their own.
  The walk of impl.TidyBits: what it answers.
-/
import Derived.Test.YthdklbmachplmaaJoint1
import Derived.Test.YthdklbmachplmaaJoint40
import Derived.BigQuiet
import Derived.Deep.LoopGhost
namespace Go.Proofs.Ythdklbmachplmaa
open Go.RowKit

theorem put_text {w : World} {g k : Nat} {t : TypeId} {ts : List ByteArray} {r : List Value} (z : ByteArray) (h : BlockIs w g t (st ts ++ r)) (hk : ts.length = k) (hr : 0 < r.length) :
    (∃ x, w.cell? ⟨g, k, none⟩ = some x) ∧ w.frozen? ⟨g, k, none⟩ = false ∧ BlockIs (w.setCell ⟨g, k, none⟩ (.string z)) g t (st (ts ++ [z]) ++ r.drop 1) := by
  have hlen : (st ts).length = k := by rw [st_length, hk]
  match r, hr with
  | x :: r', _ =>
    have hs := h.set k (.string z)
    have e1 := set_one (st ts) (.string z) x r'
    rw [hlen] at e1
    rw [e1] at hs
    refine ⟨⟨x, h.cell ?_⟩, h.thaw k, ?_⟩
    · rw [List.getElem?_append_right (by omega), hlen, Nat.sub_self]; rfl
    · simpa [st] using hs
theorem made_texts (n : Nat) : (madeCells #[Value.string ⟨#[]⟩] n).toList.length = n := by simp [madeCells]
set_option maxRecDepth 1000000 in
set_option maxHeartbeats 4000000 in
theorem copiedBits_raw (e : BitD) (ta : Option Addr) (tc : Nat) (aa : Option Addr) (ac : Nat) (hs : SmallB e) (w : World) (ht : ValsAt w ta (st e.texts)) (ha : ValsAt w aa (intCells e.ats)) :
    Calls Try.prog 35 #[.agg #[.int .i64 e.src, .int .i64 e.ident, .slice ta e.texts.length tc, .slice aa e.ats.length ac, .int .i64 e.total, .int .i64 e.lim]] w fun e' w' => ∃ G va vc m, e' = .returned (.agg #[.int .i64 e.src, .int .i64 e.ident, .slice (some ⟨G, 0, none⟩) e.texts.length e.texts.length, .slice va e.ats.length vc, .int .i64 e.total, .int .i64 e.lim]) ∧ w.heap.size ≤ G ∧ G < m ∧ m ≤ w'.heap.size ∧ BlockIs w' G 9 (st e.texts) ∧ OwnAt w' 3 (intCells e.ats) e.ats.length va m w'.heap.size ∧ Below w.heap.size w w' := by
  obtain ⟨i0, hi, hz0, hz1, hz2⟩ := info_parts vals_info9
  obtain ⟨hs1, hs2, hs3⟩ := hs
  have HS3 := hid hs3
  have HT := hid ht
  have HA := hid ha
  clear hs3 ht ha
  have hx0 : BlockIs (w.alloc (.cells #[.int .i64 e.src, .int .i64 e.ident, .slice ta e.texts.length tc, .slice aa e.ats.length ac, .int .i64 e.total, .int .i64 e.lim] 35)) w.heap.size 35 [.int .i64 e.src, .int .i64 e.ident, .slice ta e.texts.length tc, .slice aa e.ats.length ac, .int .i64 e.total, .int .i64 e.lim] := heap_alloc_new w _
  have b0 := below_more (Below.refl w.heap.size w) (.cells #[.int .i64 e.src, .int .i64 e.ident, .slice ta e.texts.length tc, .slice aa e.ats.length ac, .int .i64 e.total, .int .i64 e.lim] 35)
  have hz00 : (w.alloc (.cells #[.int .i64 e.src, .int .i64 e.ident, .slice ta e.texts.length tc, .slice aa e.ats.length ac, .int .i64 e.total, .int .i64 e.lim] 35)).heap.size = w.heap.size + 1 := by simp [World.alloc, -World.alloc_eq]
  have hx1 := hx0.on (below_more (Below.refl _ _) (.cells #[.int .i64 0, .int .i64 0, .slice none 0 0, .slice none 0 0, .int .i64 0, .int .i64 0] 35)) hx0.lt
  have hy1 : BlockIs ((w.alloc (.cells #[.int .i64 e.src, .int .i64 e.ident, .slice ta e.texts.length tc, .slice aa e.ats.length ac, .int .i64 e.total, .int .i64 e.lim] 35)).alloc (.cells #[.int .i64 0, .int .i64 0, .slice none 0 0, .slice none 0 0, .int .i64 0, .int .i64 0] 35)) (w.heap.size + 1) 35 [.int .i64 0, .int .i64 0, .slice none 0 0, .slice none 0 0, .int .i64 0, .int .i64 0] := by
    have := heap_alloc_new (w.alloc (.cells #[.int .i64 e.src, .int .i64 e.ident, .slice ta e.texts.length tc, .slice aa e.ats.length ac, .int .i64 e.total, .int .i64 e.lim] 35)) (.cells #[.int .i64 0, .int .i64 0, .slice none 0 0, .slice none 0 0, .int .i64 0, .int .i64 0] 35)
    rw [hz00] at this
    exact this
  have b1 := below_more b0 (.cells #[.int .i64 0, .int .i64 0, .slice none 0 0, .slice none 0 0, .int .i64 0, .int .i64 0] 35)
  obtain ⟨W0, hW0⟩ : ∃ W, (w.alloc (.cells #[.int .i64 e.src, .int .i64 e.ident, .slice ta e.texts.length tc, .slice aa e.ats.length ac, .int .i64 e.total, .int .i64 e.lim] 35)).alloc (.cells #[.int .i64 0, .int .i64 0, .slice none 0 0, .slice none 0 0, .int .i64 0, .int .i64 0] 35) = W := ⟨_, rfl⟩
  rw [hW0] at hx1 hy1 b1
  have X0 := hid hx1
  have Y0 := hid hy1
  have B0 := hid b1
  have h0w : w.heap.size + 1 < W0.heap.size := hy1.lt
  have c2 := hx1.cell (j := 2) rfl
  clear hx0 b0 hz00 hx1 hy1 b1
  go_enter Try.func35, Try.ntmps35
  go_wp2_with (at_make; refine wpList_make_full _ rfl (.tmp 8) (.tmp 8) 32 rfl W0.heap.size 9 i0 (.string ⟨#[]⟩) 1 Try.underlying32 hi hz0 hz1 _ _ _ _ e.texts.length rfl rfl rfl rfl ?b2 ?b3 ?b4 ?_)
  case b2 => rw [hz2]; omega
  case b3 => unfold maxLen; omega
  case b4 => exact Nat.le_refl _
  intro w1 hown hgrow
  have bb := (Below.refl W0.heap.size W0).grown hgrow (Nat.le_refl _) (fun k h => by cases h)
  have X1 := hid (X0.out.on bb X0.out.lt)
  have Y1 := hid (Y0.out.on bb Y0.out.lt)
  have B1 := hid (below_via B0.out bb)
  have HM := hid (BlockIs.made hown)
  clear hown hgrow bb X0 Y0 B0 c2 hW0 hi hz0 hz1 hz2 i0
  have c2 := X1.out.cell (j := 2) rfl
  obtain ⟨G, hG⟩ : ∃ G, W0.heap.size = G := ⟨_, rfl⟩
  rw [hG] at HM h0w ⊢
  clear hG
  go_wp2
  go_loopg [13] e.texts.length (fun q i wr => ∃ (k : Nat), k + q = e.texts.length ∧ i = .int .i64 k ∧ Hid (Below w.heap.size w wr) ∧ Hid (BlockIs wr w.heap.size 35 [.int .i64 e.src, .int .i64 e.ident, .slice ta e.texts.length tc, .slice aa e.ats.length ac, .int .i64 e.total, .int .i64 e.lim]) ∧ Hid (BlockIs wr (w.heap.size + 1) 35 [.int .i64 0, .int .i64 0, .slice none 0 0, .slice none 0 0, .int .i64 0, .int .i64 0]) ∧ ∃ rest, Hid (rest.length = e.texts.length - k) ∧ Hid (BlockIs wr G 9 (st (e.texts.take k) ++ rest)))
  case atStart => exact ⟨0, by omega, rfl, B1, X1, Y1, (madeCells #[Value.string ⟨#[]⟩] e.texts.length).toList, made_texts _, HM⟩
  case round =>
    obtain ⟨k, hkg, rfl, BR, XR, YR, rest, hrl, FP⟩ := hrel
    clear HM B1 X1 Y1 c2
    cases gk with
    | zero =>
      have hlt : ¬ (k : Int) < (e.texts.length : Int) := by omega
      have HP : Hid (BlockIs wr G 9 (st e.texts)) := by
        have h0 : rest = [] := List.length_eq_zero_iff.1 (by rw [hrl.out]; omega)
        have := FP.out
        rw [h0, List.append_nil, List.take_of_length_le (by omega)] at this
        exact this
      clear FP hrl
      have hGl : G < wr.heap.size := HP.out.lt
      have c2 := XR.out.cell (j := 2) rfl
      have f2 := XR.out.thaw 2
      have x1 : BlockIs (wr.setCell ⟨w.heap.size, 2, none⟩ (.slice (some ⟨G, 0, none⟩) e.texts.length e.texts.length)) w.heap.size 35 [.int .i64 e.src, .int .i64 e.ident, .slice (some ⟨G, 0, none⟩) e.texts.length e.texts.length, .slice aa e.ats.length ac, .int .i64 e.total, .int .i64 e.lim] := XR.out.set 2 _
      have y1 := YR.out.far (b := w.heap.size) (j := 2) (by omega) (.slice (some ⟨G, 0, none⟩) e.texts.length e.texts.length)
      have p1 := HP.out.far (b := w.heap.size) (j := 2) (by omega) (.slice (some ⟨G, 0, none⟩) e.texts.length e.texts.length)
      have b1 := BR.out.setCell (p := ⟨w.heap.size, 2, none⟩) (Nat.le_refl _) (.slice (some ⟨G, 0, none⟩) e.texts.length e.texts.length)
      have hz1 : (wr.setCell ⟨w.heap.size, 2, none⟩ (.slice (some ⟨G, 0, none⟩) e.texts.length e.texts.length)).heap.size = wr.heap.size := World.size_setCell _ _ _
      obtain ⟨V1, hV1⟩ : ∃ W, wr.setCell ⟨w.heap.size, 2, none⟩ (.slice (some ⟨G, 0, none⟩) e.texts.length e.texts.length) = W := ⟨_, rfl⟩
      rw [hV1] at x1 y1 p1 b1 hz1
      have hz1a : wr.heap.size ≤ V1.heap.size := Nat.le_of_eq hz1.symm
      clear hz1
      have bb := below_more (Below.refl V1.heap.size V1) (.cells #[] 3)
      have hr0 := vals_nil V1 3 V1.heap.size (Nat.le_refl _)
      have x2 := x1.on bb x1.lt
      have y2 := y1.on bb y1.lt
      have p2 := p1.on bb p1.lt
      have b2 := below_via b1 bb
      obtain ⟨V2, hV2⟩ : ∃ W, V1.alloc (.cells #[] 3) = W := ⟨_, rfl⟩
      rw [hV2] at x2 y2 p2 b2 hr0 bb
      have hbs : V1.heap.size ≤ V2.heap.size := bb.size
      have ha2 := HA.out.on b2
      have d3 := x2.cell (j := 3) rfl
      have X2 := hid x2
      have Y2 := hid y2
      have P2 := hid p2
      have B2 := hid b2
      have R0 := hid hr0
      clear x1 y1 p1 b1 bb x2 y2 p2 b2 XR YR BR HP
      go_wp2_with (at_builtin; refine wpList_append_vals Try.underlying33 vals_info3 rfl (by decide) rfl (.tmp 26) (.tmp 28) rfl rfl (base := V1.heap.size) (xs := []) (ys := intCells e.ats) (N := e.ats.length) rfl rfl (intCells_length _) rfl (Nat.zero_add _) (int_one _) (by omega) hbs hr0 ha2 ?_)
      intro va vc w5 hrow hgr
      have bg := (Below.refl V1.heap.size V2).grown hgr hbs (fun k e => (R0.out.lt k e).1)
      have x5 := X2.out.on bg (by omega)
      have y5 := Y2.out.on bg (by omega)
      have p5 := P2.out.on bg (by omega)
      have b5 := row_grow B2.out R0.out hgr (by omega) (by omega)
      have o5 := own_of_row hrow
      have g3 := x5.cell (j := 3) rfl
      have gf3 := x5.thaw 3
      have x6 : BlockIs (w5.setCell ⟨w.heap.size, 3, none⟩ (.slice va e.ats.length vc)) w.heap.size 35 [.int .i64 e.src, .int .i64 e.ident, .slice (some ⟨G, 0, none⟩) e.texts.length e.texts.length, .slice va e.ats.length vc, .int .i64 e.total, .int .i64 e.lim] := x5.set 3 _
      have y6 := y5.far (b := w.heap.size) (j := 3) (by omega) (.slice va e.ats.length vc)
      have p6 := p5.far (b := w.heap.size) (j := 3) (by omega) (.slice va e.ats.length vc)
      have b6 := b5.setCell (p := ⟨w.heap.size, 3, none⟩) (Nat.le_refl _) (.slice va e.ats.length vc)
      have o6 := o5.far (b := w.heap.size) (j := 3) (by omega) (.slice va e.ats.length vc)
      obtain ⟨V3, hV3⟩ : ∃ W, w5.setCell ⟨w.heap.size, 3, none⟩ (.slice va e.ats.length vc) = W := ⟨_, rfl⟩
      rw [hV3] at x6 y6 p6 b6 o6
      have k0 := x6.cell (j := 0) rfl
      have y0 := y6.cell (j := 0) rfl
      have yf0 := y6.thaw 0
      have k1 := x6.cell (j := 1) rfl
      have y1 := y6.cell (j := 1) rfl
      have yf1 := y6.thaw 1
      have k2 := x6.cell (j := 2) rfl
      have y2 := y6.cell (j := 2) rfl
      have yf2 := y6.thaw 2
      have k3 := x6.cell (j := 3) rfl
      have y3 := y6.cell (j := 3) rfl
      have yf3 := y6.thaw 3
      have k4 := x6.cell (j := 4) rfl
      have y4 := y6.cell (j := 4) rfl
      have yf4 := y6.thaw 4
      have k5 := x6.cell (j := 5) rfl
      have y5 := y6.cell (j := 5) rfl
      have yf5 := y6.thaw 5
      have P7 := hid (((((((p6.far (b := w.heap.size + 1) (j := 0) (by omega) (.int .i64 e.src)).far (b := w.heap.size + 1) (j := 1) (by omega) (.int .i64 e.ident)).far (b := w.heap.size + 1) (j := 2) (by omega) (.slice (some ⟨G, 0, none⟩) e.texts.length e.texts.length)).far (b := w.heap.size + 1) (j := 3) (by omega) (.slice va e.ats.length vc)).far (b := w.heap.size + 1) (j := 4) (by omega) (.int .i64 e.total)).far (b := w.heap.size + 1) (j := 5) (by omega) (.int .i64 e.lim)))
      have O7 := hid (((((((o6.far (b := w.heap.size + 1) (j := 0) (by omega) (.int .i64 e.src)).far (b := w.heap.size + 1) (j := 1) (by omega) (.int .i64 e.ident)).far (b := w.heap.size + 1) (j := 2) (by omega) (.slice (some ⟨G, 0, none⟩) e.texts.length e.texts.length)).far (b := w.heap.size + 1) (j := 3) (by omega) (.slice va e.ats.length vc)).far (b := w.heap.size + 1) (j := 4) (by omega) (.int .i64 e.total)).far (b := w.heap.size + 1) (j := 5) (by omega) (.int .i64 e.lim)))
      have B7 := hid (((((((b6.setCell (p := ⟨w.heap.size + 1, 0, none⟩) (show w.heap.size ≤ w.heap.size + 1 by omega) (.int .i64 e.src)).setCell (p := ⟨w.heap.size + 1, 1, none⟩) (show w.heap.size ≤ w.heap.size + 1 by omega) (.int .i64 e.ident)).setCell (p := ⟨w.heap.size + 1, 2, none⟩) (show w.heap.size ≤ w.heap.size + 1 by omega) (.slice (some ⟨G, 0, none⟩) e.texts.length e.texts.length)).setCell (p := ⟨w.heap.size + 1, 3, none⟩) (show w.heap.size ≤ w.heap.size + 1 by omega) (.slice va e.ats.length vc)).setCell (p := ⟨w.heap.size + 1, 4, none⟩) (show w.heap.size ≤ w.heap.size + 1 by omega) (.int .i64 e.total)).setCell (p := ⟨w.heap.size + 1, 5, none⟩) (show w.heap.size ≤ w.heap.size + 1 by omega) (.int .i64 e.lim)))
      have HZ : Hid (((((((V3.setCell ⟨w.heap.size + 1, 0, none⟩ (.int .i64 e.src)).setCell ⟨w.heap.size + 1, 1, none⟩ (.int .i64 e.ident)).setCell ⟨w.heap.size + 1, 2, none⟩ (.slice (some ⟨G, 0, none⟩) e.texts.length e.texts.length)).setCell ⟨w.heap.size + 1, 3, none⟩ (.slice va e.ats.length vc)).setCell ⟨w.heap.size + 1, 4, none⟩ (.int .i64 e.total)).setCell ⟨w.heap.size + 1, 5, none⟩ (.int .i64 e.lim)).heap.size = V3.heap.size) := (show _ = _ by simp [World.size_setCell])
      have HGV : Hid (V1.heap.size ≤ V3.heap.size) := (show _ ≤ _ by rw [← hV3, World.size_setCell]; have := bg.size; omega)
      clear x5 p5 b5 o5 x6 y6 p6 b6 o6 bg hrow hgr X2 Y2 P2 B2 R0
      go_wp2
      refine bodyPost_ret (v := .agg #[.int .i64 e.src, .int .i64 e.ident, .slice (some ⟨G, 0, none⟩) e.texts.length e.texts.length, .slice va e.ats.length vc, .int .i64 e.total, .int .i64 e.lim]) (by simp [results, Try.results35, go_sem, y0, y1, y2, y3, y4, y5]) rfl ?_
      refine ⟨G, va, vc, V1.heap.size, rfl, by omega, by omega, ?_, P7.out, O7.out, B7.out⟩
      have := HZ.out
      have := HGV.out
      omega
    | succ q =>
      have hlt : k < e.texts.length := by omega
      have hlt' : (k : Int) < (e.texts.length : Int) := by omega
      obtain ⟨b, off, rfl, hc⟩ := HT.out.on BR.out (by intro e; rw [← List.length_eq_zero_iff, st_length] at e; omega)
      have x0 := hc k (by rw [st_length]; omega)
      have hgt : (st e.texts)[k]'(by rw [st_length]; omega) = .string e.texts[k] := by simp [st]
      rw [hgt] at x0
      have hsz := HS3.out e.texts[k] (List.getElem_mem hlt)
      clear hc hgt
      obtain ⟨S, hS⟩ : ∃ S, e.texts[k] = S := ⟨_, rfl⟩
      have HSK : Hid (e.texts.take (k + 1) = e.texts.take k ++ [S]) := (show _ = _ by rw [List.take_succ_eq_append_getElem hlt, hS])
      rw [hS] at x0 hsz
      clear hS
      go_wp2_with fail
      refine (clone_any S (by omega) _).mono ?_
      rintro e2 w2 ⟨rfl, bb⟩
      obtain ⟨⟨y, y0⟩, f0, hnew⟩ := put_text (k := k) S (FP.out.on bb FP.out.lt) (by rw [List.length_take]; omega) (by rw [hrl.out]; omega)
      rw [← HSK.out] at hnew
      have HN := hid hnew
      have HR : Hid ((rest.drop 1).length = e.texts.length - (k + 1)) := by show _ = _; rw [List.length_drop, hrl.out]; omega
      have B2 := hid ((below_via BR.out bb).setCell (p := ⟨G, k, none⟩) (show w.heap.size ≤ G by omega) (.string S))
      have X2 := hid ((XR.out.on bb XR.out.lt).far (b := G) (j := k) (by omega) (.string S))
      have Y2 := hid ((YR.out.on bb YR.out.lt).far (b := G) (j := k) (by omega) (.string S))
      clear hnew FP hrl bb BR XR YR x0
      go_wp2
      go_roundg q
      case measure => omega
      case rel => exact ⟨k + 1, by omega, by go_num, B2, X2, Y2, _, HR, HN⟩
theorem copiedBits_any (e : BitD) (r : BitsD) (hs : SmallB e) (w : World) (h : HoldsB w e r) :
    Calls Try.prog 35 #[.agg #[.int .i64 r.src, .int .i64 r.ident, .slice r.tx.ad r.tx.len r.tx.cap, .slice r.ax.ad r.ax.len r.ax.cap, .int .i64 r.total, .int .i64 r.lim]] w fun e' w' => ∃ r', e' = .returned (.agg #[.int .i64 r'.src, .int .i64 r'.ident, .slice r'.tx.ad r'.tx.len r'.tx.cap, .slice r'.ax.ad r'.ax.len r'.ax.cap, .int .i64 r'.total, .int .i64 r'.lim]) ∧ OwnB w' e r' w.heap.size w'.heap.size ∧ Below w.heap.size w w' := by
  obtain ⟨ta, tc, aa, ac, rfl, h1, h2⟩ := h
  refine (copiedBits_raw e ta tc aa ac hs w h1 h2).mono ?_
  rintro e' w' ⟨G, va, vc, m, rfl, g1, g2, g3, g4, g5, g6⟩
  exact ⟨rawB e (some ⟨G, 0, none⟩) e.texts.length va vc, rfl, ⟨_, _, _, _, m, rfl, Or.inr ⟨G, [], rfl, g1, g2, by rw [List.append_nil]; exact g4⟩, g5, by omega, g3⟩, g6⟩
end Go.Proofs.Ythdklbmachplmaa

namespace Go.Proofs.Ythdklbmachplmaa
open Go.RowKit

set_option maxRecDepth 1000000 in
set_option maxHeartbeats 4000000 in
theorem implTidyBits_any (ao : Option Addr) (l : List BitD) (cap : Nat) (now : Int) (hl : l.length ≤ 1048576) (hs : ∀ e ∈ l, SmallB e) (w : World) (ha : BitsHold w ao l) :
    Calls Try.prog 9 #[.slice ao l.length cap, .int .i64 now] w fun e w' => BitsDid (tidyB l now) w e w' := by
  have HA := hid ha
  have HSM := hid hs
  have hr0 := bitsR_nil w w.heap.size (Nat.le_refl _)
  have hb0 := below_more (Below.refl w.heap.size w) (.cells #[] 35)
  obtain ⟨W0, hW0⟩ : ∃ W, w.alloc (.cells #[] 35) = W := ⟨_, rfl⟩
  rw [hW0] at hr0 hb0
  have R0 := hid hr0
  have B0 := hid hb0
  clear hr0 hb0 ha hs
  go_enter Try.func9, Try.ntmps9
  go_wp2
  go_loopg [5, 11] l.length (fun q v i wr => ∃ (k : Nat), k + q = l.length ∧ i = .int .i64 k ∧ ∃ va vc rs, v = .slice va rs.length vc ∧ Hid (rs.length ≤ k) ∧ Hid (Below w.heap.size w wr) ∧ Hid (wr.ownsRow w.heap.size 35 6 (.slice va rs.length vc) rs.length (bitsCells rs)) ∧ Hid (Nest wr (tidyB (l.take k) now) rs w.heap.size wr.heap.size))
  case atStart => exact ⟨0, by omega, rfl, _, _, [], rfl, Nat.le_refl _, B0, R0, B0.out.size⟩
  case round =>
    obtain ⟨k, hkg, rfl, va, vc, rs, rfl, hrk, BR, RR, NR⟩ := hrel
    clear B0 R0 hW0
    cases gk with
    | zero =>
      have hlt : ¬ (k : Int) < (l.length : Int) := by omega
      rw [List.take_of_length_le (show l.length ≤ k by omega)] at NR
      go_wp2
      go_ret
      have hN := NR.out.length
      exact ⟨va, vc, by rw [hN]; rfl, by rw [hN]; exact (row_cap RR.out).1, ⟨rs, own_of_row RR.out, NR.out⟩, BR.out⟩
    | succ q =>
      have hlt : k < l.length := by omega
      have hlt' : (k : Int) < (l.length : Int) := by omega
      obtain ⟨rs0, hat, htwo⟩ := HA.out.on BR.out
      have hll := htwo.length
      have hkr : k < rs0.length := by omega
      have hho := htwo.get k hlt hkr
      have hne : rs0 ≠ [] := by intro e; rw [e] at hkr; simp at hkr
      obtain ⟨b, off, rfl, hc⟩ := hat hne
      obtain ⟨x0, x1, x2, x3, x4, x5⟩ := hc k hkr
      have hsm := smallB_take HSM.out k hlt
      obtain ⟨R, hR⟩ : ∃ R, rs0[k] = R := ⟨_, rfl⟩
      rw [hR] at x0 x1 x2 x3 x4 x5 hho
      obtain ⟨e, he⟩ : ∃ e, l[k] = e := ⟨_, rfl⟩
      rw [he] at hho hsm
      have HHO := hid hho
      have HSE := hid hsm
      clear hat htwo hll hc hR hho hsm hne
      have HTK := hid (tidyB_take l now k hlt)
      rw [he] at HTK
      clear he
      have hrk2 : rs.length ≤ 1048576 := Nat.le_trans hrk.out (by omega)
      have hlim : R.lim = e.lim := by obtain ⟨_, _, _, _, rfl, _⟩ := HHO.out; rfl
      have bx := below_more (Below.refl wr.heap.size wr) (.cells #[.int .i64 R.src, .int .i64 R.ident, .slice R.tx.ad R.tx.len R.tx.cap, .slice R.ax.ad R.ax.len R.ax.cap, .int .i64 R.total, .int .i64 R.lim] 35)
      by_cases hn : now < R.lim
      · rw [if_pos (by rw [← hlim]; exact hn)] at HTK
        have h1 := HHO.out.on bx
        have hb1 : BlockIs (wr.alloc (.cells #[.int .i64 R.src, .int .i64 R.ident, .slice R.tx.ad R.tx.len R.tx.cap, .slice R.ax.ad R.ax.len R.ax.cap, .int .i64 R.total, .int .i64 R.lim] 35)) wr.heap.size 35 [.int .i64 R.src, .int .i64 R.ident, .slice R.tx.ad R.tx.len R.tx.cap, .slice R.ax.ad R.ax.len R.ax.cap, .int .i64 R.total, .int .i64 R.lim] := heap_alloc_new wr _
        have B1 := hid (below_via BR.out bx)
        have R1 := hid (rows_below RR.out bx)
        have N1 := hid (NR.out.on bx)
        have hw1 : wr.heap.size ≤ (wr.alloc (.cells #[.int .i64 R.src, .int .i64 R.ident, .slice R.tx.ad R.tx.len R.tx.cap, .slice R.ax.ad R.ax.len R.ax.cap, .int .i64 R.total, .int .i64 R.lim] 35)).heap.size := bx.size
        clear hlim bx BR RR NR
        obtain ⟨W1, hW1⟩ : ∃ W, wr.alloc (.cells #[.int .i64 R.src, .int .i64 R.ident, .slice R.tx.ad R.tx.len R.tx.cap, .slice R.ax.ad R.ax.len R.ax.cap, .int .i64 R.total, .int .i64 R.lim] 35) = W := ⟨_, rfl⟩
        rw [hW1] at h1 hb1 B1 R1 N1 hw1
        have y0 := hb1.cell (j := 0) rfl
        have y1 := hb1.cell (j := 1) rfl
        have y2 := hb1.cell (j := 2) rfl
        have y3 := hb1.cell (j := 3) rfl
        have y4 := hb1.cell (j := 4) rfl
        have y5 := hb1.cell (j := 5) rfl
        have CC := hid (copiedBits_any e R HSE.out W1 h1)
        clear hb1 h1
        go_wp2_with fail
        refine Calls.mono CC.out ?_
        rintro e2 w2 ⟨r', rfl, ho, b2⟩
        have bn := below_more (Below.refl w2.heap.size w2) (.cells #[.int .i64 r'.src, .int .i64 r'.ident, .slice r'.tx.ad r'.tx.len r'.tx.cap, .slice r'.ax.ad r'.ax.len r'.ax.cap, .int .i64 r'.total, .int .i64 r'.lim] 35)
        have hnw : BlockIs (w2.alloc (.cells #[.int .i64 r'.src, .int .i64 r'.ident, .slice r'.tx.ad r'.tx.len r'.tx.cap, .slice r'.ax.ad r'.ax.len r'.ax.cap, .int .i64 r'.total, .int .i64 r'.lim] 35)) w2.heap.size 35 (bitsCells [r'] ++ []) := heap_alloc_new w2 _
        have B3 := hid (below_via B1.out (below_via b2 bn))
        have hrow := rows_below R1.out (below_via b2 bn)
        have n3 := N1.out.on (below_via b2 bn)
        have o3 := (ho.on bn).down hw1 bn.size
        obtain ⟨W3, hW3⟩ : ∃ W, w2.alloc (.cells #[.int .i64 r'.src, .int .i64 r'.ident, .slice r'.tx.ad r'.tx.len r'.tx.cap, .slice r'.ax.ad r'.ax.len r'.ax.cap, .int .i64 r'.total, .int .i64 r'.lim] 35) = W := ⟨_, rfl⟩
        rw [hW3] at hnw B3 hrow n3 o3
        have hda := bitssAt_of hnw
        have hbs : w.heap.size ≤ W3.heap.size := B3.out.size
        have HROW := hid hrow
        have N3 := hid (n3.snoc o3)
        clear CC y0 y1 y2 y3 y4 y5 bn b2 ho n3 o3 hnw B1 R1 N1
        go_wp2_with (at_builtin; refine wpList_append_bitss rfl (.tmp 19) (.tmp 22) rfl rfl (base := w.heap.size) (L := rs) (M := [r']) (N := rs.length + 1) rfl rfl rfl (by simp) (by omega) hbs hrow hda ?_)
        intro va' vc' w5 hown hgr
        have B5 := hid (bitsR_down B3.out HROW.out hgr (Nat.le_refl _) hbs)
        have N5 := hid ((N3.out.row HROW.out hgr).up hgr.size)
        have R5 := hid hown
        have hln : (rs ++ [r']).length = rs.length + 1 := by simp
        rw [← hln] at R5 ⊢
        have hk5 : Hid ((rs ++ [r']).length ≤ k + 1) := (show _ ≤ _ by rw [hln]; have := hrk.out; omega)
        clear hln hgr hown HROW B3 N3 hrow hda
        go_wp2
        go_roundg q
        case measure => omega
        case rel => exact ⟨k + 1, by omega, by go_num, va', vc', rs ++ [r'], rfl, hk5, B5, R5, by rw [HTK.out]; exact N5⟩
      · rw [if_neg (by rw [← hlim]; exact hn), List.append_nil] at HTK
        have B1 := hid (below_via BR.out bx)
        have R1 := hid (rows_below RR.out bx)
        have N1 := hid ((NR.out.on bx).up bx.size)
        clear hlim bx BR RR NR
        go_wp2
        go_roundg q
        case measure => omega
        case rel => exact ⟨k + 1, by omega, by go_num, va, vc, rs, rfl, Nat.le_trans hrk.out (by omega), B1, R1, by rw [HTK.out]; exact N1⟩
end Go.Proofs.Ythdklbmachplmaa
