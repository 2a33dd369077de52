/-
  The walk of spec.Wrap: what it answers.
-/
import Derived.Test.YthkkhmmcgjcedaaDoorJoint1
import Derived.Test.YthkkhmmcgjcedaaDoorJoint10
import Derived.Test.YthkkhmmcgjcedaaDoorJoint12
import Derived.Test.YthkkhmmcgjcedaaDoorJoint15
import Derived.Test.YthkkhmmcgjcedaaDoorJoint21
import Derived.Deep.LoopGhost
import Derived.Test.YthkkhmmcgjcedaaDoorRows
namespace Go.Proofs.YthkkhmmcgjcedaaDoor
open Go.RowKit

set_option maxRecDepth 1000000 in
set_option maxHeartbeats 4000000 in
theorem specWrap_any (d : SegD) (src dst ident : Int) (hs : d.body.size ≤ 9223372036854775000) (w : World) :
    Calls Tryd.prog 5 #[.agg #[.int .i64 d.num, .int .i64 d.ack, .int .i64 d.flags, .string d.body], .int .i64 src, .int .i64 dst, .int .i64 ident] w fun e w' => WrapDid (wrapD d src dst ident) (wrapOk d src dst ident) w e w' := by
  obtain ⟨i0, hi, hz0, hz1, hz2⟩ := info_parts wrap_info9
  have hx0 : BlockIs (w.alloc (.cells #[.int .i64 d.num, .int .i64 d.ack, .int .i64 d.flags, .string d.body] 28)) w.heap.size 28 [.int .i64 d.num, .int .i64 d.ack, .int .i64 d.flags, .string d.body] := heap_alloc_new w _
  have B0 := hid (below_more (Below.refl w.heap.size w) (.cells #[.int .i64 d.num, .int .i64 d.ack, .int .i64 d.flags, .string d.body] 28))
  obtain ⟨W0, hW0⟩ : ∃ W, w.alloc (.cells #[.int .i64 d.num, .int .i64 d.ack, .int .i64 d.flags, .string d.body] 28) = W := ⟨_, rfl⟩
  rw [hW0] at hx0 B0
  have c0 := hx0.cell (j := 0) rfl
  have c1 := hx0.cell (j := 1) rfl
  have c2 := hx0.cell (j := 2) rfl
  have c3 := hx0.cell (j := 3) rfl
  clear hx0
  have hf := segText_few d
  have HNS := hid (fun h => wrap_no (d := d) (src := src) (dst := dst) (ident := ident) h)
  have HSO : Hid ((segText d).2 = segOk d) := by show _ = _; unfold segText; split <;> simp_all
  have HD : Hid (wrapDg d src dst ident = ⟨src, dst, ident, 0, false, (segText d).1⟩) := rfl
  have C1 := hid (specSegText_any d hs W0)
  obtain ⟨T, hT⟩ : ∃ T, (segText d).1 = T := ⟨_, rfl⟩
  obtain ⟨sk, hsk⟩ : ∃ b, (segText d).2 = b := ⟨_, rfl⟩
  rw [hT, hsk] at C1
  rw [hT] at HD hf
  rw [hsk] at HSO
  obtain ⟨D, hD⟩ : ∃ D, wrapDg d src dst ident = D := ⟨_, rfl⟩
  have HW : Hid (wrapD d src dst ident = (cutD D 8).map (wrapTx src dst)) := by show _ = _; rw [wrapD, hD]
  have HK : Hid (wrapOk d src dst ident = cutOk D 8) := by show _ = _; rw [wrapOk, hD]
  rw [hD] at HD
  clear hT hsk hD
  go_enter Tryd.func5, Tryd.ntmps5
  go_wp2_with fail
  refine Calls.mono C1.out ?_
  rintro e w1 ⟨rfl, b1⟩
  have B1 := hid (below_via B0.out b1)
  clear b1 C1 c0 c1 c2 c3 B0 hW0
  have hx1 : BlockIs (w1.alloc (.cells #[.int .i64 src, .int .i64 dst, .int .i64 ident, .int .i64 0, .bool false, .string T] 36)) w1.heap.size 36 [.int .i64 src, .int .i64 dst, .int .i64 ident, .int .i64 0, .bool false, .string T] := heap_alloc_new w1 _
  have B2 := hid (below_more B1.out (.cells #[.int .i64 src, .int .i64 dst, .int .i64 ident, .int .i64 0, .bool false, .string T] 36))
  obtain ⟨W1, hW1⟩ : ∃ W, w1.alloc (.cells #[.int .i64 src, .int .i64 dst, .int .i64 ident, .int .i64 0, .bool false, .string T] 36) = W := ⟨_, rfl⟩
  rw [hW1] at hx1 B2
  have c0 := hx1.cell (j := 0) rfl
  have c1 := hx1.cell (j := 1) rfl
  have c2 := hx1.cell (j := 2) rfl
  have c3 := hx1.cell (j := 3) rfl
  have c4 := hx1.cell (j := 4) rfl
  have c5 := hx1.cell (j := 5) rfl
  clear hx1 B1
  have C2 := hid (specCutDgram_any ⟨src, dst, ident, 0, false, T⟩ 8 (by show T.size ≤ _; omega) W1)
  dsimp only at C2
  rw [← HD.out] at C2
  unfold CutDid at C2
  have hA3 := cutD_few D 8
  have HCELL : Hid (cutOk D 8 = true → ∀ t : ByteArray, t.size ≤ 16 → (cellText ⟨dst, src, 1, t⟩).2 = true) := fun h t ht => wrap_cell (ident := ident) (b := T) (by rw [← HD.out]; exact h) ht
  have HFEW : Hid (∀ p ∈ cutD D 8, p.body.size ≤ 8) := fun p hp => part_few hp
  obtain ⟨L, hL⟩ : ∃ L, cutD D 8 = L := ⟨_, rfl⟩
  obtain ⟨ok, hok⟩ : ∃ b, cutOk D 8 = b := ⟨_, rfl⟩
  rw [hL] at C2 hA3 HW HFEW
  rw [hok] at C2 HK HCELL
  have HEMP : Hid (ok = false → L = []) := fun h => by rw [← hL]; exact cutD_no (by rw [hok]; exact h)
  clear hL hok HD
  go_wp2_with fail
  refine Calls.mono C2.out ?_
  rintro e w2 ⟨pa, pc, rfl, hpc, hown, b2⟩
  have B3 := hid (below_via B2.out b2)
  have PO := hid hown
  clear b2 C2 hown B2 c0 c1 c2 c3 c4 c5 hW1
  have hr0 : World.ownsRow (w2.alloc (.cells #[] 9)) w2.heap.size 9 1 (.slice (some ⟨w2.heap.size, 0, none⟩) 0 0) 0 (st []) := World.ownsRow_made w2 #[] 0 (Nat.le_refl _) (Nat.zero_le _) rfl
  have bn := below_more (Below.refl w2.heap.size w2) (.cells #[] 9)
  by_cases hgo : ok = true
  rotate_left
  · have hgo' : ok = false := by simpa using hgo
    have HLE := hid (HEMP.out hgo')
    subst hgo'
    clear hgo
    cases sk
    · skip
      go_wp2
      go_ret2
      rw [HW.out, HK.out, HLE.out]
      exact ⟨_, rfl, World.ownsRow_made w2 #[] 0 B3.out.size (Nat.zero_le _) rfl, (below_via B3.out bn)⟩
    · skip
      go_wp2
      go_ret2
      rw [HW.out, HK.out, HLE.out]
      exact ⟨_, rfl, World.ownsRow_made w2 #[] 0 B3.out.size (Nat.zero_le _) rfl, (below_via B3.out bn)⟩
  subst hgo
  obtain rfl : sk = true := by
    cases hq : sk with
    | true => rfl
    | false =>
      rw [hq] at HSO
      have h1 := HNS.out HSO.out.symm
      rw [HK.out] at h1
      cases h1
  clear HSO HNS HEMP
  obtain ⟨W2, hW2⟩ : ∃ W, w2.alloc (.cells #[] 9) = W := ⟨_, rfl⟩
  rw [hW2] at hr0 bn
  have R0 := hid hr0
  have BN := hid bn
  clear hr0 bn
  go_wp2
  go_loopg [15, 16] L.length (fun q v i wr => ∃ (k : Nat), k + q = L.length ∧ i = .int .i64 k ∧ ∃ va vc, v = .slice va k vc ∧ Hid (Below w2.heap.size w2 wr) ∧ Hid (wr.ownsRow w2.heap.size 9 1 (.slice va k vc) k (st ((L.map (wrapTx src dst)).take k))))
  case atStart => exact ⟨0, by omega, rfl, _, _, rfl, BN, R0⟩
  case round =>
    obtain ⟨k, hkg, rfl, va, vc, rfl, BR, RR⟩ := hrel
    clear R0 BN hW2
    cases gk with
    | zero =>
      have hlt : ¬ (k : Int) < (L.length : Int) := by omega
      rw [List.take_of_length_le (by rw [List.length_map]; omega)] at RR
      go_wp2
      go_ret2
      rw [HW.out, HK.out]
      obtain rfl : k = L.length := by omega
      refine ⟨_, rfl, ?_, below_via B3.out BR.out⟩
      rw [List.length_map]
      exact row_down RR.out B3.out.size
    | succ q =>
      have hlt : k < L.length := by omega
      have hlt' : (k : Int) < (L.length : Int) := by omega
      have hne : L ≠ [] := by intro e; rw [e] at hlt; simp at hlt
      obtain ⟨b, off, rfl, hc⟩ := (PO.out.on BR.out).dgrams hne
      obtain ⟨x0, x1, x2, x3, x4, x5⟩ := hc k hlt
      have hbs := HFEW.out _ (List.getElem_mem hlt)
      obtain ⟨p, hp⟩ : ∃ p, L[k] = p := ⟨_, rfl⟩
      rw [hp] at x0 x1 x2 x3 x4 x5 hbs
      have htf := dgramText_few hbs
      have HTX : Hid (wrapTx src dst p = (cellText ⟨dst, src, 1, (dgramText p).1⟩).1) := rfl
      have C3 := hid (specDgramText_any p (by omega) wr)
      obtain ⟨U, hU⟩ : ∃ U, (dgramText p).1 = U := ⟨_, rfl⟩
      obtain ⟨uk, huk⟩ : ∃ U, (dgramText p).2 = U := ⟨_, rfl⟩
      rw [hU, huk] at C3
      rw [hU] at HTX htf
      clear hU huk hc
      go_wp2_with fail
      refine Calls.mono C3.out ?_
      rintro e w4 ⟨rfl, b4⟩
      have B5 := hid (below_via BR.out b4)
      have R5 := hid (texts_below RR.out b4)
      clear b4 C3 BR RR x0 x1 x2 x3 x4 x5
      have C4 := hid (specCellText_any ⟨dst, src, 1, U⟩ w4)
      dsimp only at C4
      obtain ⟨X, hX⟩ : ∃ X, (cellText ⟨dst, src, 1, U⟩).1 = X := ⟨_, rfl⟩
      rw [HCELL.out (by simp) U htf, hX] at C4
      rw [hX] at HTX
      clear hX
      go_wp2_with fail
      refine Calls.mono C4.out ?_
      rintro e w5 ⟨rfl, b5⟩
      have hb := below_via B5.out b5
      have hown := texts_below R5.out b5
      clear b5 C4 B5 R5
      have hk20 : k ≤ 20 := by omega
      have hsz := hb.size
      go_wp2_with (at_builtin; refine wpList_append_own _ rfl (.tmp 69) (.tmp 71) 25 rfl w2.heap.size 9 i0 (.string ByteArray.empty) 1 16 Tryd.underlying25 hi hz0 hz1 hz2 rfl (by decide) _ _ _ rfl (hown.alloc _) ⟨w5.heap.size, 0, none⟩ 1 1 [.string X] rfl rfl (one_new _ _ _) (by intro u hu; simp at hu; subst hu; rfl) (by unfold maxLen; omega) (by omega) (by simp; omega) ?_)
      intro v' w6 hown' hgrow _
      have R := wrap_step (T := X) hlt (by rw [hp]; exact HTX.out) hown hb hown' hgrow
      clear hown' hgrow hown hb
      obtain ⟨va2, vc2, rfl⟩ := row_shape R.1
      have RA := hid R.1
      have RB := hid R.2
      clear R hp
      go_wp2
      go_roundg q
      case measure => omega
      case rel => exact ⟨k + 1, by omega, by go_num, _, _, rfl, RB, RA⟩
end Go.Proofs.YthkkhmmcgjcedaaDoor
