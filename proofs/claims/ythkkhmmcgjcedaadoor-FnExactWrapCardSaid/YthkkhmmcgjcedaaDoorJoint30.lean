/-
  The walk of impl.CutDgram: what it answers.
-/
import Derived.Test.YthkkhmmcgjcedaaDoorJoint1
import Derived.Test.YthkkhmmcgjcedaaDoorJoint28
import Derived.Test.YthkkhmmcgjcedaaDoorJoint29
namespace Go.Proofs.YthkkhmmcgjcedaaDoor
open Go.RowKit

set_option maxRecDepth 1000000 in
set_option maxHeartbeats 4000000 in
theorem implCutDgram_any (d : DgramD) (size : Int) (hs : d.body.size ≤ 9223372036854775000) (w : World) :
    Calls Tryd.prog 16 #[.agg #[.int .i64 d.src, .int .i64 d.dst, .int .i64 d.ident, .int .i64 d.place, .bool d.more, .string d.body], .int .i64 size] w fun e w' => CutDid (cutD d size) (cutOk d size) w e w' := by
  obtain ⟨m, hm⟩ : ∃ m, d.more = m := ⟨_, rfl⟩
  rw [hm]
  cases m with
  | false =>
    have hx0 : BlockIs (w.alloc (.cells #[.int .i64 d.src, .int .i64 d.dst, .int .i64 d.ident, .int .i64 d.place, .bool false, .string d.body] 36)) w.heap.size 36 [.int .i64 d.src, .int .i64 d.dst, .int .i64 d.ident, .int .i64 d.place, .bool false, .string d.body] := heap_alloc_new w _
    have B0 := hid (below_more (Below.refl w.heap.size w) (.cells #[.int .i64 d.src, .int .i64 d.dst, .int .i64 d.ident, .int .i64 d.place, .bool false, .string d.body] 36))
    obtain ⟨W0, hW0⟩ : ∃ W, w.alloc (.cells #[.int .i64 d.src, .int .i64 d.dst, .int .i64 d.ident, .int .i64 d.place, .bool false, .string d.body] 36) = W := ⟨_, rfl⟩
    rw [hW0] at hx0 B0
    have X0 := hid hx0
    have c0 := hx0.cell (j := 0) rfl
    have c1 := hx0.cell (j := 1) rfl
    have c2 := hx0.cell (j := 2) rfl
    have c3 := hx0.cell (j := 3) rfl
    have c4 := hx0.cell (j := 4) rfl
    have c5 := hx0.cell (j := 5) rfl
    clear hx0
    have CK := hid (implDgramOk_any d hs)
    rw [hm] at CK
    have HM := hid hm
    clear hm
    go_enter Tryd.func16, Tryd.ntmps16
    go_wp2_with fail
    refine (CK.out _).mono ?_
    rintro e w1 ⟨rfl, b1⟩
    have X1 := hid (X0.out.on b1 X0.out.lt)
    have B1 := hid (below_via B0.out b1)
    have h01 : w.heap.size < w1.heap.size := X1.out.lt
    clear b1 X0 B0 c0 c1 c2 c3 c4 c5 hW0
    cases hE : dgramOk d with
    | false =>
      have hco : cutOk d size = false := by simp [cutOk, hE]
      have HNO := hid (cutD_no hco)
      have HCO := hid hco
      clear hco hE
      have hr0 := dgramR_nil w1 w.heap.size B1.out.size
      have hb0 := hid (below_more B1.out (.cells #[] 36))
      go_wp2
      go_ret2
      rw [HNO.out, HCO.out]
      exact ⟨_, _, rfl, (at_of_row hr0).1, (at_of_row hr0).2, hb0.out⟩
    | true =>
      by_cases hI : within size 8 160 = true
      rotate_left
      · have hco : cutOk d size = false := by simp [cutOk, hI]
        have HNO := hid (cutD_no hco)
        have HCO := hid hco
        clear hco hE
        by_cases h8 : size < 8
        · clear hI
          have hr0 := dgramR_nil w1 w.heap.size B1.out.size
          have hb0 := hid (below_more B1.out (.cells #[] 36))
          go_wp2
          go_ret2
          rw [HNO.out, HCO.out]
          exact ⟨_, _, rfl, (at_of_row hr0).1, (at_of_row hr0).2, hb0.out⟩
        · have h160 : 160 < size := by
            rw [within_iff] at hI
            omega
          clear hI
          have hr0 := dgramR_nil w1 w.heap.size B1.out.size
          have hb0 := hid (below_more B1.out (.cells #[] 36))
          go_wp2
          go_ret2
          rw [HNO.out, HCO.out]
          exact ⟨_, _, rfl, (at_of_row hr0).1, (at_of_row hr0).2, hb0.out⟩
      · skip
        have hco : cutOk d size = true := by simp [cutOk, hE, hI]
        have HYES := hid (cutD_yes hco)
        have HCO := hid hco
        obtain ⟨hz1, hz2⟩ := within_iff.1 hI
        have hbd := dgramOk_bd hE
        have hp0 := hbd.2.2.2.1.1
        have hp1 := hbd.2.2.2.1.2
        have hb1 := hbd.2.2.2.2.2.1.2
        clear hco hE hI hbd
        obtain ⟨n, rfl⟩ : ∃ n : Nat, size = n := ⟨size.toNat, by omega⟩
        rw [Int.toNat_natCast] at HYES
        obtain ⟨sz, hsz⟩ : ∃ s, n / 8 * 8 = s := ⟨_, rfl⟩
        have hq1 : 8 ≤ sz := by omega
        have hq2 : sz ≤ 160 := by omega
        have hd8 : (n : Int).tmod 8 = (n : Int) % 8 := Int.tmod_eq_emod_of_nonneg (by omega)
        have hmz : (n : Int) - (n : Int) % 8 = (sz : Int) := by omega
        rw [hsz] at HYES
        have HSZ := hid hsz
        clear hsz
        have hr0 := dgramR_nil w1 w1.heap.size (Nat.le_refl _)
        have hb0 := below_more (Below.refl w1.heap.size w1) (.cells #[] 36)
        obtain ⟨W2, hW2⟩ : ∃ W, w1.alloc (.cells #[] 36) = W := ⟨_, rfl⟩
        rw [hW2] at hr0 hb0
        have R2 := hid hr0
        have B2 := hid (below_via B1.out hb0)
        have X2 := hid (X1.out.on hb0 X1.out.lt)
        have h12 : w1.heap.size ≤ W2.heap.size := hb0.size
        clear hr0 hb0
        go_wp2
        go_loopg [6, 7] (d.body.size + 1) (fun g v i wr => ∃ (k : Nat), k * sz + g * sz ≥ d.body.size + 1 ∧ k ≤ nParts d sz ∧ i = .int .i64 ((k * sz : Nat) : Int) ∧ ∃ va vc, v = .slice va k vc ∧ Hid (Below w.heap.size w wr) ∧ w1.heap.size ≤ wr.heap.size ∧ Hid (BlockIs wr w.heap.size 36 [.int .i64 d.src, .int .i64 d.dst, .int .i64 d.ident, .int .i64 d.place, .bool false, .string d.body]) ∧ Hid (wr.ownsRow w1.heap.size 36 6 (.slice va k vc) k (dgramCells (cutTo d sz k))))
        case atStart => exact ⟨0, by simp; exact Nat.le_trans (by omega) (Nat.le_mul_of_pos_right _ (by omega : 0 < sz)), Nat.zero_le _, by simp, _, _, rfl, B2, h12, X2, R2⟩
        case round =>
          obtain ⟨k, hkg, hkn, rfl, va, vc, rfl, BR, hwz, XR, RR⟩ := hrel
          clear R2 B2 X2 X1 B1 hW2
          have hk20 : k ≤ 20 := Nat.le_trans hkn (nParts_le hq1 (by omega))
          have c5 := XR.out.cell (j := 5) rfl
          obtain ⟨q, hq⟩ : ∃ q, k * sz = q := ⟨_, rfl⟩
          have hql : q ≤ 3200 := by
            rw [← hq]
            exact Nat.le_trans (Nat.mul_le_mul hk20 hq2) (by omega)
          by_cases hlt : q < d.body.size
          · have hmore : k < nParts d sz := (parts_more (by omega)).1 (by omega)
            have HMORE := hid hmore
            rw [hq] at hkg ⊢
            have hlt' : (q : Int) < (d.body.size : Int) := by omega
            have hkq : Hid ((k + 1) * sz = q + sz) := (show _ = _ by rw [Nat.succ_mul, hq])
            have HQ := hid hq
            cases gk with
            | zero => omega
            | succ g =>
              have hgg : Hid ((k + 1) * sz + g * sz ≥ d.body.size + 1) := (show _ ≥ _ by rw [hkq.out]; rw [Nat.succ_mul] at hkg; omega)
              clear hkg hmore hq
              have hpl : 0 ≤ d.place + (q : Int) ∧ d.place + (q : Int) ≤ 10000 := by omega
              have hone : (1 : Nat) ≤ 1 := Nat.le_refl _
              by_cases hle : d.body.size ≤ q + sz
              · by_cases hee : d.body.size = q + sz
                · have hee' : (q : Int) + (sz : Int) = (d.body.size : Int) := by omega
                  clear hee
                  have hE := slice_nat (P := Tryd.prog) Tryd.underlying9 d.body q d.body.size (q : Int) (d.body.size : Int) rfl (by omega) (by omega) (by omega)
                  have HP : Hid (partAt d sz k = ⟨d.src, d.dst, d.ident, d.place + (q : Int), false, d.body.extract q d.body.size⟩) := by
                    show _ = _
                    rw [partAt, HQ.out]
                    rw [if_pos (by omega), Nat.min_eq_right (by omega)]
                    rw [HM.out]
                  have hEs : (d.body.extract q d.body.size).size ≤ 1000 := by rw [ByteArray.size_extract]; omega
                  obtain ⟨E, he⟩ : ∃ E, d.body.extract q d.body.size = E := ⟨_, rfl⟩
                  rw [he] at hE HP hEs
                  clear he
                  have z0 := XR.out.cell (j := 0) rfl
                  have z1 := XR.out.cell (j := 1) rfl
                  have z2 := XR.out.cell (j := 2) rfl
                  have z3 := XR.out.cell (j := 3) rfl
                  have z4 := XR.out.cell (j := 4) rfl
                  have a3 := fun o => (XR.out.on (below_more (Below.refl _ wr) o) XR.out.lt).cell (j := 3) rfl
                  have a4 := fun o => (XR.out.on (below_more (Below.refl _ wr) o) XR.out.lt).cell (j := 4) rfl
                  have a5 := fun o => (XR.out.on (below_more (Below.refl _ wr) o) XR.out.lt).cell (j := 5) rfl
                  have bb1 := below_more (Below.refl wr.heap.size wr) (.cells #[.int .i64 d.src, .int .i64 d.dst, .int .i64 d.ident, .int .i64 (d.place + (q : Int)), .bool false, .string d.body] 36)
                  have hp1x : BlockIs (wr.alloc (.cells #[.int .i64 d.src, .int .i64 d.dst, .int .i64 d.ident, .int .i64 (d.place + (q : Int)), .bool false, .string d.body] 36)) wr.heap.size 36 [.int .i64 d.src, .int .i64 d.dst, .int .i64 d.ident, .int .i64 (d.place + (q : Int)), .bool false, .string d.body] := heap_alloc_new wr _
                  have BB1 := hid bb1
                  have HP1 := hid hp1x
                  clear bb1 hp1x
                  go_wp2_with fail
                  refine (clone_any E (by omega) _).mono ?_
                  rintro e w2 ⟨rfl, b2⟩
                  have hp2 := HP1.out.on b2 HP1.out.lt
                  have y5 := hp2.cell (j := 5) rfl
                  have yf5 := hp2.thaw 5
                  have hp3 : BlockIs (w2.setCell ⟨wr.heap.size, 5, none⟩ (.string E)) wr.heap.size 36 [.int .i64 d.src, .int .i64 d.dst, .int .i64 d.ident, .int .i64 (d.place + (q : Int)), .bool false, .string E] := hp2.set 5 (.string E)
                  have bb1 : Below wr.heap.size wr (w2.setCell ⟨wr.heap.size, 5, none⟩ (.string E)) := (below_via BB1.out b2).setCell (p := ⟨wr.heap.size, 5, none⟩) (Nat.le_refl _) (.string E)
                  obtain ⟨W3, hW3⟩ : ∃ W, w2.setCell ⟨wr.heap.size, 5, none⟩ (.string E) = W := ⟨_, rfl⟩
                  rw [hW3] at hp3 bb1
                  have p0 := hp3.cell (j := 0) rfl
                  have p1 := hp3.cell (j := 1) rfl
                  have p2 := hp3.cell (j := 2) rfl
                  have p3 := hp3.cell (j := 3) rfl
                  have p4 := hp3.cell (j := 4) rfl
                  have p5 := hp3.cell (j := 5) rfl
                  clear hp2 hp3 b2 BB1 HP1
                  have bb2 := below_more (Below.refl W3.heap.size W3) (.cells #[.int .i64 d.src, .int .i64 d.dst, .int .i64 d.ident, .int .i64 (d.place + (q : Int)), .bool false, .string E] 36)
                  have hnw : BlockIs (W3.alloc (.cells #[.int .i64 d.src, .int .i64 d.dst, .int .i64 d.ident, .int .i64 (d.place + (q : Int)), .bool false, .string E] 36)) W3.heap.size 36 (dgramCells [⟨d.src, d.dst, d.ident, d.place + (q : Int), false, E⟩] ++ []) := heap_alloc_new W3 _
                  have hrow := dgramR_below RR.out (below_via bb1 bb2)
                  have B4 := hid (below_via BR.out (below_via bb1 bb2))
                  have X4 := hid (XR.out.on (below_via bb1 bb2) XR.out.lt)
                  have hbs : w1.heap.size ≤ (W3.alloc (.cells #[.int .i64 d.src, .int .i64 d.dst, .int .i64 d.ident, .int .i64 (d.place + (q : Int)), .bool false, .string E] 36)).heap.size := Nat.le_trans hwz (below_via bb1 bb2).size
                  obtain ⟨W4, hW4⟩ : ∃ W, W3.alloc (.cells #[.int .i64 d.src, .int .i64 d.dst, .int .i64 d.ident, .int .i64 (d.place + (q : Int)), .bool false, .string E] 36) = W := ⟨_, rfl⟩
                  rw [hW4] at hnw hrow B4 X4 hbs
                  have hda := dgramsAt_of hnw
                  replace hrow : W4.ownsRow w1.heap.size 36 6 (.slice va k vc) (cutTo d sz k).length (dgramCells (cutTo d sz k)) := by rw [cutTo_length]; exact hrow
                  have HROW := hid hrow
                  clear bb1 bb2 hnw XR BR RR
                  go_wp2_with (at_builtin; refine wpList_append_dgrams rfl (.tmp 65) (.tmp 67) rfl rfl (base := w1.heap.size) (L := cutTo d sz k) (M := [⟨d.src, d.dst, d.ident, d.place + (q : Int), false, E⟩]) (N := k + 1) rfl rfl rfl (by simp [cutTo_length]) (by omega) hbs hrow hda ?_)
                  intro va' vc' w5 hown hgr
                  rw [← HP.out, ← cutTo_succ] at hown
                  have B5 := hid (dgramR_down B4.out HROW.out hgr (by omega) (by have := B4.out.size; omega))
                  have X5 := hid (X4.out.on ((Below.refl w1.heap.size W4).grown hgr hbs (fun j hj => (dgramR_block HROW.out hj).1)) h01)
                  have R5 := hid hown
                  have hw5 : w1.heap.size ≤ w5.heap.size := Nat.le_trans hbs hgr.size
                  clear hgr hown HROW B4 X4 hrow hda
                  go_wp2
                  go_roundg g
                  case measure => omega
                  case rel => exact ⟨k + 1, hgg.out, HMORE.out, by rw [hkq.out]; go_num, va', vc', rfl, B5, hw5, X5, R5⟩
                · have hle' : (d.body.size : Int) < (q : Int) + (sz : Int) := by omega
                  have hle2 : ¬ (q : Int) + (sz : Int) ≤ (d.body.size : Int) := by omega
                  have hE := slice_nat (P := Tryd.prog) Tryd.underlying9 d.body q d.body.size (q : Int) (d.body.size : Int) rfl (by omega) (by omega) (by omega)
                  have HP : Hid (partAt d sz k = ⟨d.src, d.dst, d.ident, d.place + (q : Int), false, d.body.extract q d.body.size⟩) := by
                    show _ = _
                    rw [partAt, HQ.out]
                    rw [if_pos (by omega), Nat.min_eq_right (by omega)]
                    rw [HM.out]
                  have hEs : (d.body.extract q d.body.size).size ≤ 1000 := by rw [ByteArray.size_extract]; omega
                  obtain ⟨E, he⟩ : ∃ E, d.body.extract q d.body.size = E := ⟨_, rfl⟩
                  rw [he] at hE HP hEs
                  clear he
                  have z0 := XR.out.cell (j := 0) rfl
                  have z1 := XR.out.cell (j := 1) rfl
                  have z2 := XR.out.cell (j := 2) rfl
                  have z3 := XR.out.cell (j := 3) rfl
                  have z4 := XR.out.cell (j := 4) rfl
                  have a3 := fun o => (XR.out.on (below_more (Below.refl _ wr) o) XR.out.lt).cell (j := 3) rfl
                  have a4 := fun o => (XR.out.on (below_more (Below.refl _ wr) o) XR.out.lt).cell (j := 4) rfl
                  have a5 := fun o => (XR.out.on (below_more (Below.refl _ wr) o) XR.out.lt).cell (j := 5) rfl
                  have bb1 := below_more (Below.refl wr.heap.size wr) (.cells #[.int .i64 d.src, .int .i64 d.dst, .int .i64 d.ident, .int .i64 (d.place + (q : Int)), .bool false, .string d.body] 36)
                  have hp1x : BlockIs (wr.alloc (.cells #[.int .i64 d.src, .int .i64 d.dst, .int .i64 d.ident, .int .i64 (d.place + (q : Int)), .bool false, .string d.body] 36)) wr.heap.size 36 [.int .i64 d.src, .int .i64 d.dst, .int .i64 d.ident, .int .i64 (d.place + (q : Int)), .bool false, .string d.body] := heap_alloc_new wr _
                  have BB1 := hid bb1
                  have HP1 := hid hp1x
                  clear bb1 hp1x
                  go_wp2_with fail
                  refine (clone_any E (by omega) _).mono ?_
                  rintro e w2 ⟨rfl, b2⟩
                  have hp2 := HP1.out.on b2 HP1.out.lt
                  have y5 := hp2.cell (j := 5) rfl
                  have yf5 := hp2.thaw 5
                  have hp3 : BlockIs (w2.setCell ⟨wr.heap.size, 5, none⟩ (.string E)) wr.heap.size 36 [.int .i64 d.src, .int .i64 d.dst, .int .i64 d.ident, .int .i64 (d.place + (q : Int)), .bool false, .string E] := hp2.set 5 (.string E)
                  have bb1 : Below wr.heap.size wr (w2.setCell ⟨wr.heap.size, 5, none⟩ (.string E)) := (below_via BB1.out b2).setCell (p := ⟨wr.heap.size, 5, none⟩) (Nat.le_refl _) (.string E)
                  obtain ⟨W3, hW3⟩ : ∃ W, w2.setCell ⟨wr.heap.size, 5, none⟩ (.string E) = W := ⟨_, rfl⟩
                  rw [hW3] at hp3 bb1
                  have p0 := hp3.cell (j := 0) rfl
                  have p1 := hp3.cell (j := 1) rfl
                  have p2 := hp3.cell (j := 2) rfl
                  have p3 := hp3.cell (j := 3) rfl
                  have p4 := hp3.cell (j := 4) rfl
                  have p5 := hp3.cell (j := 5) rfl
                  clear hp2 hp3 b2 BB1 HP1
                  have bb2 := below_more (Below.refl W3.heap.size W3) (.cells #[.int .i64 d.src, .int .i64 d.dst, .int .i64 d.ident, .int .i64 (d.place + (q : Int)), .bool false, .string E] 36)
                  have hnw : BlockIs (W3.alloc (.cells #[.int .i64 d.src, .int .i64 d.dst, .int .i64 d.ident, .int .i64 (d.place + (q : Int)), .bool false, .string E] 36)) W3.heap.size 36 (dgramCells [⟨d.src, d.dst, d.ident, d.place + (q : Int), false, E⟩] ++ []) := heap_alloc_new W3 _
                  have hrow := dgramR_below RR.out (below_via bb1 bb2)
                  have B4 := hid (below_via BR.out (below_via bb1 bb2))
                  have X4 := hid (XR.out.on (below_via bb1 bb2) XR.out.lt)
                  have hbs : w1.heap.size ≤ (W3.alloc (.cells #[.int .i64 d.src, .int .i64 d.dst, .int .i64 d.ident, .int .i64 (d.place + (q : Int)), .bool false, .string E] 36)).heap.size := Nat.le_trans hwz (below_via bb1 bb2).size
                  obtain ⟨W4, hW4⟩ : ∃ W, W3.alloc (.cells #[.int .i64 d.src, .int .i64 d.dst, .int .i64 d.ident, .int .i64 (d.place + (q : Int)), .bool false, .string E] 36) = W := ⟨_, rfl⟩
                  rw [hW4] at hnw hrow B4 X4 hbs
                  have hda := dgramsAt_of hnw
                  replace hrow : W4.ownsRow w1.heap.size 36 6 (.slice va k vc) (cutTo d sz k).length (dgramCells (cutTo d sz k)) := by rw [cutTo_length]; exact hrow
                  have HROW := hid hrow
                  clear bb1 bb2 hnw XR BR RR
                  go_wp2_with (at_builtin; refine wpList_append_dgrams rfl (.tmp 65) (.tmp 67) rfl rfl (base := w1.heap.size) (L := cutTo d sz k) (M := [⟨d.src, d.dst, d.ident, d.place + (q : Int), false, E⟩]) (N := k + 1) rfl rfl rfl (by simp [cutTo_length]) (by omega) hbs hrow hda ?_)
                  intro va' vc' w5 hown hgr
                  rw [← HP.out, ← cutTo_succ] at hown
                  have B5 := hid (dgramR_down B4.out HROW.out hgr (by omega) (by have := B4.out.size; omega))
                  have X5 := hid (X4.out.on ((Below.refl w1.heap.size W4).grown hgr hbs (fun j hj => (dgramR_block HROW.out hj).1)) h01)
                  have R5 := hid hown
                  have hw5 : w1.heap.size ≤ w5.heap.size := Nat.le_trans hbs hgr.size
                  clear hgr hown HROW B4 X4 hrow hda
                  go_wp2
                  go_roundg g
                  case measure => omega
                  case rel => exact ⟨k + 1, hgg.out, HMORE.out, by rw [hkq.out]; go_num, va', vc', rfl, B5, hw5, X5, R5⟩
              · have hle' : ¬ (d.body.size : Int) ≤ (q : Int) + (sz : Int) := by omega
                have hE := slice_nat (P := Tryd.prog) Tryd.underlying9 d.body q (q + sz) (q : Int) ((q : Int) + (sz : Int)) rfl (by omega) (by omega) (by omega)
                have HP : Hid (partAt d sz k = ⟨d.src, d.dst, d.ident, d.place + (q : Int), true, d.body.extract q (q + sz)⟩) := by
                  show _ = _
                  rw [partAt, HQ.out]
                  rw [if_neg (by omega), Nat.min_eq_left (by omega)]
                have hEs : (d.body.extract q (q + sz)).size ≤ 1000 := by rw [ByteArray.size_extract]; omega
                obtain ⟨E, he⟩ : ∃ E, d.body.extract q (q + sz) = E := ⟨_, rfl⟩
                rw [he] at hE HP hEs
                clear he
                have z0 := XR.out.cell (j := 0) rfl
                have z1 := XR.out.cell (j := 1) rfl
                have z2 := XR.out.cell (j := 2) rfl
                have z3 := XR.out.cell (j := 3) rfl
                have z4 := XR.out.cell (j := 4) rfl
                have a3 := fun o => (XR.out.on (below_more (Below.refl _ wr) o) XR.out.lt).cell (j := 3) rfl
                have a4 := fun o => (XR.out.on (below_more (Below.refl _ wr) o) XR.out.lt).cell (j := 4) rfl
                have a5 := fun o => (XR.out.on (below_more (Below.refl _ wr) o) XR.out.lt).cell (j := 5) rfl
                have bb1 := below_more (Below.refl wr.heap.size wr) (.cells #[.int .i64 d.src, .int .i64 d.dst, .int .i64 d.ident, .int .i64 (d.place + (q : Int)), .bool true, .string d.body] 36)
                have hp1x : BlockIs (wr.alloc (.cells #[.int .i64 d.src, .int .i64 d.dst, .int .i64 d.ident, .int .i64 (d.place + (q : Int)), .bool true, .string d.body] 36)) wr.heap.size 36 [.int .i64 d.src, .int .i64 d.dst, .int .i64 d.ident, .int .i64 (d.place + (q : Int)), .bool true, .string d.body] := heap_alloc_new wr _
                have BB1 := hid bb1
                have HP1 := hid hp1x
                clear bb1 hp1x
                go_wp2_with fail
                refine (clone_any E (by omega) _).mono ?_
                rintro e w2 ⟨rfl, b2⟩
                have hp2 := HP1.out.on b2 HP1.out.lt
                have y5 := hp2.cell (j := 5) rfl
                have yf5 := hp2.thaw 5
                have hp3 : BlockIs (w2.setCell ⟨wr.heap.size, 5, none⟩ (.string E)) wr.heap.size 36 [.int .i64 d.src, .int .i64 d.dst, .int .i64 d.ident, .int .i64 (d.place + (q : Int)), .bool true, .string E] := hp2.set 5 (.string E)
                have bb1 : Below wr.heap.size wr (w2.setCell ⟨wr.heap.size, 5, none⟩ (.string E)) := (below_via BB1.out b2).setCell (p := ⟨wr.heap.size, 5, none⟩) (Nat.le_refl _) (.string E)
                obtain ⟨W3, hW3⟩ : ∃ W, w2.setCell ⟨wr.heap.size, 5, none⟩ (.string E) = W := ⟨_, rfl⟩
                rw [hW3] at hp3 bb1
                have p0 := hp3.cell (j := 0) rfl
                have p1 := hp3.cell (j := 1) rfl
                have p2 := hp3.cell (j := 2) rfl
                have p3 := hp3.cell (j := 3) rfl
                have p4 := hp3.cell (j := 4) rfl
                have p5 := hp3.cell (j := 5) rfl
                clear hp2 hp3 b2 BB1 HP1
                have bb2 := below_more (Below.refl W3.heap.size W3) (.cells #[.int .i64 d.src, .int .i64 d.dst, .int .i64 d.ident, .int .i64 (d.place + (q : Int)), .bool true, .string E] 36)
                have hnw : BlockIs (W3.alloc (.cells #[.int .i64 d.src, .int .i64 d.dst, .int .i64 d.ident, .int .i64 (d.place + (q : Int)), .bool true, .string E] 36)) W3.heap.size 36 (dgramCells [⟨d.src, d.dst, d.ident, d.place + (q : Int), true, E⟩] ++ []) := heap_alloc_new W3 _
                have hrow := dgramR_below RR.out (below_via bb1 bb2)
                have B4 := hid (below_via BR.out (below_via bb1 bb2))
                have X4 := hid (XR.out.on (below_via bb1 bb2) XR.out.lt)
                have hbs : w1.heap.size ≤ (W3.alloc (.cells #[.int .i64 d.src, .int .i64 d.dst, .int .i64 d.ident, .int .i64 (d.place + (q : Int)), .bool true, .string E] 36)).heap.size := Nat.le_trans hwz (below_via bb1 bb2).size
                obtain ⟨W4, hW4⟩ : ∃ W, W3.alloc (.cells #[.int .i64 d.src, .int .i64 d.dst, .int .i64 d.ident, .int .i64 (d.place + (q : Int)), .bool true, .string E] 36) = W := ⟨_, rfl⟩
                rw [hW4] at hnw hrow B4 X4 hbs
                have hda := dgramsAt_of hnw
                replace hrow : W4.ownsRow w1.heap.size 36 6 (.slice va k vc) (cutTo d sz k).length (dgramCells (cutTo d sz k)) := by rw [cutTo_length]; exact hrow
                have HROW := hid hrow
                clear bb1 bb2 hnw XR BR RR
                go_wp2_with (at_builtin; refine wpList_append_dgrams rfl (.tmp 65) (.tmp 67) rfl rfl (base := w1.heap.size) (L := cutTo d sz k) (M := [⟨d.src, d.dst, d.ident, d.place + (q : Int), true, E⟩]) (N := k + 1) rfl rfl rfl (by simp [cutTo_length]) (by omega) hbs hrow hda ?_)
                intro va' vc' w5 hown hgr
                rw [← HP.out, ← cutTo_succ] at hown
                have B5 := hid (dgramR_down B4.out HROW.out hgr (by omega) (by have := B4.out.size; omega))
                have X5 := hid (X4.out.on ((Below.refl w1.heap.size W4).grown hgr hbs (fun j hj => (dgramR_block HROW.out hj).1)) h01)
                have R5 := hid hown
                have hw5 : w1.heap.size ≤ w5.heap.size := Nat.le_trans hbs hgr.size
                clear hgr hown HROW B4 X4 hrow hda
                go_wp2
                go_roundg g
                case measure => omega
                case rel => exact ⟨k + 1, hgg.out, HMORE.out, by rw [hkq.out]; go_num, va', vc', rfl, B5, hw5, X5, R5⟩
          · have hlt' : ¬ (q : Int) < (d.body.size : Int) := by omega
            have hkd : k = nParts d sz := parts_done (by omega) hkn (by omega)
            rw [hq]
            clear hkg hq
            subst hkd
            have OA := hid (at_of_row RR.out)
            clear RR XR
            go_wp2
            go_ret2
            rw [HYES.out, HCO.out, CutDid, cutTo_length]
            exact ⟨va, vc, rfl, OA.out.1, OA.out.2.down (by omega) (Nat.le_refl _), BR.out⟩
  | true =>
    have hx0 : BlockIs (w.alloc (.cells #[.int .i64 d.src, .int .i64 d.dst, .int .i64 d.ident, .int .i64 d.place, .bool true, .string d.body] 36)) w.heap.size 36 [.int .i64 d.src, .int .i64 d.dst, .int .i64 d.ident, .int .i64 d.place, .bool true, .string d.body] := heap_alloc_new w _
    have B0 := hid (below_more (Below.refl w.heap.size w) (.cells #[.int .i64 d.src, .int .i64 d.dst, .int .i64 d.ident, .int .i64 d.place, .bool true, .string d.body] 36))
    obtain ⟨W0, hW0⟩ : ∃ W, w.alloc (.cells #[.int .i64 d.src, .int .i64 d.dst, .int .i64 d.ident, .int .i64 d.place, .bool true, .string d.body] 36) = W := ⟨_, rfl⟩
    rw [hW0] at hx0 B0
    have X0 := hid hx0
    have c0 := hx0.cell (j := 0) rfl
    have c1 := hx0.cell (j := 1) rfl
    have c2 := hx0.cell (j := 2) rfl
    have c3 := hx0.cell (j := 3) rfl
    have c4 := hx0.cell (j := 4) rfl
    have c5 := hx0.cell (j := 5) rfl
    clear hx0
    have CK := hid (implDgramOk_any d hs)
    rw [hm] at CK
    have HM := hid hm
    clear hm
    go_enter Tryd.func16, Tryd.ntmps16
    go_wp2_with fail
    refine (CK.out _).mono ?_
    rintro e w1 ⟨rfl, b1⟩
    have X1 := hid (X0.out.on b1 X0.out.lt)
    have B1 := hid (below_via B0.out b1)
    have h01 : w.heap.size < w1.heap.size := X1.out.lt
    clear b1 X0 B0 c0 c1 c2 c3 c4 c5 hW0
    cases hE : dgramOk d with
    | false =>
      have hco : cutOk d size = false := by simp [cutOk, hE]
      have HNO := hid (cutD_no hco)
      have HCO := hid hco
      clear hco hE
      have hr0 := dgramR_nil w1 w.heap.size B1.out.size
      have hb0 := hid (below_more B1.out (.cells #[] 36))
      go_wp2
      go_ret2
      rw [HNO.out, HCO.out]
      exact ⟨_, _, rfl, (at_of_row hr0).1, (at_of_row hr0).2, hb0.out⟩
    | true =>
      by_cases hI : within size 8 160 = true
      rotate_left
      · have hco : cutOk d size = false := by simp [cutOk, hI]
        have HNO := hid (cutD_no hco)
        have HCO := hid hco
        clear hco hE
        by_cases h8 : size < 8
        · clear hI
          have hr0 := dgramR_nil w1 w.heap.size B1.out.size
          have hb0 := hid (below_more B1.out (.cells #[] 36))
          go_wp2
          go_ret2
          rw [HNO.out, HCO.out]
          exact ⟨_, _, rfl, (at_of_row hr0).1, (at_of_row hr0).2, hb0.out⟩
        · have h160 : 160 < size := by
            rw [within_iff] at hI
            omega
          clear hI
          have hr0 := dgramR_nil w1 w.heap.size B1.out.size
          have hb0 := hid (below_more B1.out (.cells #[] 36))
          go_wp2
          go_ret2
          rw [HNO.out, HCO.out]
          exact ⟨_, _, rfl, (at_of_row hr0).1, (at_of_row hr0).2, hb0.out⟩
      · skip
        have hco : cutOk d size = true := by simp [cutOk, hE, hI]
        have HYES := hid (cutD_yes hco)
        have HCO := hid hco
        obtain ⟨hz1, hz2⟩ := within_iff.1 hI
        have hbd := dgramOk_bd hE
        have hp0 := hbd.2.2.2.1.1
        have hp1 := hbd.2.2.2.1.2
        have hb1 := hbd.2.2.2.2.2.1.2
        clear hco hE hI hbd
        obtain ⟨n, rfl⟩ : ∃ n : Nat, size = n := ⟨size.toNat, by omega⟩
        rw [Int.toNat_natCast] at HYES
        obtain ⟨sz, hsz⟩ : ∃ s, n / 8 * 8 = s := ⟨_, rfl⟩
        have hq1 : 8 ≤ sz := by omega
        have hq2 : sz ≤ 160 := by omega
        have hd8 : (n : Int).tmod 8 = (n : Int) % 8 := Int.tmod_eq_emod_of_nonneg (by omega)
        have hmz : (n : Int) - (n : Int) % 8 = (sz : Int) := by omega
        rw [hsz] at HYES
        have HSZ := hid hsz
        clear hsz
        have hr0 := dgramR_nil w1 w1.heap.size (Nat.le_refl _)
        have hb0 := below_more (Below.refl w1.heap.size w1) (.cells #[] 36)
        obtain ⟨W2, hW2⟩ : ∃ W, w1.alloc (.cells #[] 36) = W := ⟨_, rfl⟩
        rw [hW2] at hr0 hb0
        have R2 := hid hr0
        have B2 := hid (below_via B1.out hb0)
        have X2 := hid (X1.out.on hb0 X1.out.lt)
        have h12 : w1.heap.size ≤ W2.heap.size := hb0.size
        clear hr0 hb0
        go_wp2
        go_loopg [6, 7] (d.body.size + 1) (fun g v i wr => ∃ (k : Nat), k * sz + g * sz ≥ d.body.size + 1 ∧ k ≤ nParts d sz ∧ i = .int .i64 ((k * sz : Nat) : Int) ∧ ∃ va vc, v = .slice va k vc ∧ Hid (Below w.heap.size w wr) ∧ w1.heap.size ≤ wr.heap.size ∧ Hid (BlockIs wr w.heap.size 36 [.int .i64 d.src, .int .i64 d.dst, .int .i64 d.ident, .int .i64 d.place, .bool true, .string d.body]) ∧ Hid (wr.ownsRow w1.heap.size 36 6 (.slice va k vc) k (dgramCells (cutTo d sz k))))
        case atStart => exact ⟨0, by simp; exact Nat.le_trans (by omega) (Nat.le_mul_of_pos_right _ (by omega : 0 < sz)), Nat.zero_le _, by simp, _, _, rfl, B2, h12, X2, R2⟩
        case round =>
          obtain ⟨k, hkg, hkn, rfl, va, vc, rfl, BR, hwz, XR, RR⟩ := hrel
          clear R2 B2 X2 X1 B1 hW2
          have hk20 : k ≤ 20 := Nat.le_trans hkn (nParts_le hq1 (by omega))
          have c5 := XR.out.cell (j := 5) rfl
          obtain ⟨q, hq⟩ : ∃ q, k * sz = q := ⟨_, rfl⟩
          have hql : q ≤ 3200 := by
            rw [← hq]
            exact Nat.le_trans (Nat.mul_le_mul hk20 hq2) (by omega)
          by_cases hlt : q < d.body.size
          · have hmore : k < nParts d sz := (parts_more (by omega)).1 (by omega)
            have HMORE := hid hmore
            rw [hq] at hkg ⊢
            have hlt' : (q : Int) < (d.body.size : Int) := by omega
            have hkq : Hid ((k + 1) * sz = q + sz) := (show _ = _ by rw [Nat.succ_mul, hq])
            have HQ := hid hq
            cases gk with
            | zero => omega
            | succ g =>
              have hgg : Hid ((k + 1) * sz + g * sz ≥ d.body.size + 1) := (show _ ≥ _ by rw [hkq.out]; rw [Nat.succ_mul] at hkg; omega)
              clear hkg hmore hq
              have hpl : 0 ≤ d.place + (q : Int) ∧ d.place + (q : Int) ≤ 10000 := by omega
              have hone : (1 : Nat) ≤ 1 := Nat.le_refl _
              by_cases hle : d.body.size ≤ q + sz
              · by_cases hee : d.body.size = q + sz
                · have hee' : (q : Int) + (sz : Int) = (d.body.size : Int) := by omega
                  clear hee
                  have hE := slice_nat (P := Tryd.prog) Tryd.underlying9 d.body q d.body.size (q : Int) (d.body.size : Int) rfl (by omega) (by omega) (by omega)
                  have HP : Hid (partAt d sz k = ⟨d.src, d.dst, d.ident, d.place + (q : Int), true, d.body.extract q d.body.size⟩) := by
                    show _ = _
                    rw [partAt, HQ.out]
                    rw [if_pos (by omega), Nat.min_eq_right (by omega)]
                    rw [HM.out]
                  have hEs : (d.body.extract q d.body.size).size ≤ 1000 := by rw [ByteArray.size_extract]; omega
                  obtain ⟨E, he⟩ : ∃ E, d.body.extract q d.body.size = E := ⟨_, rfl⟩
                  rw [he] at hE HP hEs
                  clear he
                  have z0 := XR.out.cell (j := 0) rfl
                  have z1 := XR.out.cell (j := 1) rfl
                  have z2 := XR.out.cell (j := 2) rfl
                  have z3 := XR.out.cell (j := 3) rfl
                  have z4 := XR.out.cell (j := 4) rfl
                  have a3 := fun o => (XR.out.on (below_more (Below.refl _ wr) o) XR.out.lt).cell (j := 3) rfl
                  have a4 := fun o => (XR.out.on (below_more (Below.refl _ wr) o) XR.out.lt).cell (j := 4) rfl
                  have a5 := fun o => (XR.out.on (below_more (Below.refl _ wr) o) XR.out.lt).cell (j := 5) rfl
                  have bb1 := below_more (Below.refl wr.heap.size wr) (.cells #[.int .i64 d.src, .int .i64 d.dst, .int .i64 d.ident, .int .i64 (d.place + (q : Int)), .bool true, .string d.body] 36)
                  have hp1x : BlockIs (wr.alloc (.cells #[.int .i64 d.src, .int .i64 d.dst, .int .i64 d.ident, .int .i64 (d.place + (q : Int)), .bool true, .string d.body] 36)) wr.heap.size 36 [.int .i64 d.src, .int .i64 d.dst, .int .i64 d.ident, .int .i64 (d.place + (q : Int)), .bool true, .string d.body] := heap_alloc_new wr _
                  have BB1 := hid bb1
                  have HP1 := hid hp1x
                  clear bb1 hp1x
                  go_wp2_with fail
                  refine (clone_any E (by omega) _).mono ?_
                  rintro e w2 ⟨rfl, b2⟩
                  have hp2 := HP1.out.on b2 HP1.out.lt
                  have y5 := hp2.cell (j := 5) rfl
                  have yf5 := hp2.thaw 5
                  have hp3 : BlockIs (w2.setCell ⟨wr.heap.size, 5, none⟩ (.string E)) wr.heap.size 36 [.int .i64 d.src, .int .i64 d.dst, .int .i64 d.ident, .int .i64 (d.place + (q : Int)), .bool true, .string E] := hp2.set 5 (.string E)
                  have bb1 : Below wr.heap.size wr (w2.setCell ⟨wr.heap.size, 5, none⟩ (.string E)) := (below_via BB1.out b2).setCell (p := ⟨wr.heap.size, 5, none⟩) (Nat.le_refl _) (.string E)
                  obtain ⟨W3, hW3⟩ : ∃ W, w2.setCell ⟨wr.heap.size, 5, none⟩ (.string E) = W := ⟨_, rfl⟩
                  rw [hW3] at hp3 bb1
                  have p0 := hp3.cell (j := 0) rfl
                  have p1 := hp3.cell (j := 1) rfl
                  have p2 := hp3.cell (j := 2) rfl
                  have p3 := hp3.cell (j := 3) rfl
                  have p4 := hp3.cell (j := 4) rfl
                  have p5 := hp3.cell (j := 5) rfl
                  clear hp2 hp3 b2 BB1 HP1
                  have bb2 := below_more (Below.refl W3.heap.size W3) (.cells #[.int .i64 d.src, .int .i64 d.dst, .int .i64 d.ident, .int .i64 (d.place + (q : Int)), .bool true, .string E] 36)
                  have hnw : BlockIs (W3.alloc (.cells #[.int .i64 d.src, .int .i64 d.dst, .int .i64 d.ident, .int .i64 (d.place + (q : Int)), .bool true, .string E] 36)) W3.heap.size 36 (dgramCells [⟨d.src, d.dst, d.ident, d.place + (q : Int), true, E⟩] ++ []) := heap_alloc_new W3 _
                  have hrow := dgramR_below RR.out (below_via bb1 bb2)
                  have B4 := hid (below_via BR.out (below_via bb1 bb2))
                  have X4 := hid (XR.out.on (below_via bb1 bb2) XR.out.lt)
                  have hbs : w1.heap.size ≤ (W3.alloc (.cells #[.int .i64 d.src, .int .i64 d.dst, .int .i64 d.ident, .int .i64 (d.place + (q : Int)), .bool true, .string E] 36)).heap.size := Nat.le_trans hwz (below_via bb1 bb2).size
                  obtain ⟨W4, hW4⟩ : ∃ W, W3.alloc (.cells #[.int .i64 d.src, .int .i64 d.dst, .int .i64 d.ident, .int .i64 (d.place + (q : Int)), .bool true, .string E] 36) = W := ⟨_, rfl⟩
                  rw [hW4] at hnw hrow B4 X4 hbs
                  have hda := dgramsAt_of hnw
                  replace hrow : W4.ownsRow w1.heap.size 36 6 (.slice va k vc) (cutTo d sz k).length (dgramCells (cutTo d sz k)) := by rw [cutTo_length]; exact hrow
                  have HROW := hid hrow
                  clear bb1 bb2 hnw XR BR RR
                  go_wp2_with (at_builtin; refine wpList_append_dgrams rfl (.tmp 65) (.tmp 67) rfl rfl (base := w1.heap.size) (L := cutTo d sz k) (M := [⟨d.src, d.dst, d.ident, d.place + (q : Int), true, E⟩]) (N := k + 1) rfl rfl rfl (by simp [cutTo_length]) (by omega) hbs hrow hda ?_)
                  intro va' vc' w5 hown hgr
                  rw [← HP.out, ← cutTo_succ] at hown
                  have B5 := hid (dgramR_down B4.out HROW.out hgr (by omega) (by have := B4.out.size; omega))
                  have X5 := hid (X4.out.on ((Below.refl w1.heap.size W4).grown hgr hbs (fun j hj => (dgramR_block HROW.out hj).1)) h01)
                  have R5 := hid hown
                  have hw5 : w1.heap.size ≤ w5.heap.size := Nat.le_trans hbs hgr.size
                  clear hgr hown HROW B4 X4 hrow hda
                  go_wp2
                  go_roundg g
                  case measure => omega
                  case rel => exact ⟨k + 1, hgg.out, HMORE.out, by rw [hkq.out]; go_num, va', vc', rfl, B5, hw5, X5, R5⟩
                · have hle' : (d.body.size : Int) < (q : Int) + (sz : Int) := by omega
                  have hle2 : ¬ (q : Int) + (sz : Int) ≤ (d.body.size : Int) := by omega
                  have hE := slice_nat (P := Tryd.prog) Tryd.underlying9 d.body q d.body.size (q : Int) (d.body.size : Int) rfl (by omega) (by omega) (by omega)
                  have HP : Hid (partAt d sz k = ⟨d.src, d.dst, d.ident, d.place + (q : Int), true, d.body.extract q d.body.size⟩) := by
                    show _ = _
                    rw [partAt, HQ.out]
                    rw [if_pos (by omega), Nat.min_eq_right (by omega)]
                    rw [HM.out]
                  have hEs : (d.body.extract q d.body.size).size ≤ 1000 := by rw [ByteArray.size_extract]; omega
                  obtain ⟨E, he⟩ : ∃ E, d.body.extract q d.body.size = E := ⟨_, rfl⟩
                  rw [he] at hE HP hEs
                  clear he
                  have z0 := XR.out.cell (j := 0) rfl
                  have z1 := XR.out.cell (j := 1) rfl
                  have z2 := XR.out.cell (j := 2) rfl
                  have z3 := XR.out.cell (j := 3) rfl
                  have z4 := XR.out.cell (j := 4) rfl
                  have a3 := fun o => (XR.out.on (below_more (Below.refl _ wr) o) XR.out.lt).cell (j := 3) rfl
                  have a4 := fun o => (XR.out.on (below_more (Below.refl _ wr) o) XR.out.lt).cell (j := 4) rfl
                  have a5 := fun o => (XR.out.on (below_more (Below.refl _ wr) o) XR.out.lt).cell (j := 5) rfl
                  have bb1 := below_more (Below.refl wr.heap.size wr) (.cells #[.int .i64 d.src, .int .i64 d.dst, .int .i64 d.ident, .int .i64 (d.place + (q : Int)), .bool true, .string d.body] 36)
                  have hp1x : BlockIs (wr.alloc (.cells #[.int .i64 d.src, .int .i64 d.dst, .int .i64 d.ident, .int .i64 (d.place + (q : Int)), .bool true, .string d.body] 36)) wr.heap.size 36 [.int .i64 d.src, .int .i64 d.dst, .int .i64 d.ident, .int .i64 (d.place + (q : Int)), .bool true, .string d.body] := heap_alloc_new wr _
                  have BB1 := hid bb1
                  have HP1 := hid hp1x
                  clear bb1 hp1x
                  go_wp2_with fail
                  refine (clone_any E (by omega) _).mono ?_
                  rintro e w2 ⟨rfl, b2⟩
                  have hp2 := HP1.out.on b2 HP1.out.lt
                  have y5 := hp2.cell (j := 5) rfl
                  have yf5 := hp2.thaw 5
                  have hp3 : BlockIs (w2.setCell ⟨wr.heap.size, 5, none⟩ (.string E)) wr.heap.size 36 [.int .i64 d.src, .int .i64 d.dst, .int .i64 d.ident, .int .i64 (d.place + (q : Int)), .bool true, .string E] := hp2.set 5 (.string E)
                  have bb1 : Below wr.heap.size wr (w2.setCell ⟨wr.heap.size, 5, none⟩ (.string E)) := (below_via BB1.out b2).setCell (p := ⟨wr.heap.size, 5, none⟩) (Nat.le_refl _) (.string E)
                  obtain ⟨W3, hW3⟩ : ∃ W, w2.setCell ⟨wr.heap.size, 5, none⟩ (.string E) = W := ⟨_, rfl⟩
                  rw [hW3] at hp3 bb1
                  have p0 := hp3.cell (j := 0) rfl
                  have p1 := hp3.cell (j := 1) rfl
                  have p2 := hp3.cell (j := 2) rfl
                  have p3 := hp3.cell (j := 3) rfl
                  have p4 := hp3.cell (j := 4) rfl
                  have p5 := hp3.cell (j := 5) rfl
                  clear hp2 hp3 b2 BB1 HP1
                  have bb2 := below_more (Below.refl W3.heap.size W3) (.cells #[.int .i64 d.src, .int .i64 d.dst, .int .i64 d.ident, .int .i64 (d.place + (q : Int)), .bool true, .string E] 36)
                  have hnw : BlockIs (W3.alloc (.cells #[.int .i64 d.src, .int .i64 d.dst, .int .i64 d.ident, .int .i64 (d.place + (q : Int)), .bool true, .string E] 36)) W3.heap.size 36 (dgramCells [⟨d.src, d.dst, d.ident, d.place + (q : Int), true, E⟩] ++ []) := heap_alloc_new W3 _
                  have hrow := dgramR_below RR.out (below_via bb1 bb2)
                  have B4 := hid (below_via BR.out (below_via bb1 bb2))
                  have X4 := hid (XR.out.on (below_via bb1 bb2) XR.out.lt)
                  have hbs : w1.heap.size ≤ (W3.alloc (.cells #[.int .i64 d.src, .int .i64 d.dst, .int .i64 d.ident, .int .i64 (d.place + (q : Int)), .bool true, .string E] 36)).heap.size := Nat.le_trans hwz (below_via bb1 bb2).size
                  obtain ⟨W4, hW4⟩ : ∃ W, W3.alloc (.cells #[.int .i64 d.src, .int .i64 d.dst, .int .i64 d.ident, .int .i64 (d.place + (q : Int)), .bool true, .string E] 36) = W := ⟨_, rfl⟩
                  rw [hW4] at hnw hrow B4 X4 hbs
                  have hda := dgramsAt_of hnw
                  replace hrow : W4.ownsRow w1.heap.size 36 6 (.slice va k vc) (cutTo d sz k).length (dgramCells (cutTo d sz k)) := by rw [cutTo_length]; exact hrow
                  have HROW := hid hrow
                  clear bb1 bb2 hnw XR BR RR
                  go_wp2_with (at_builtin; refine wpList_append_dgrams rfl (.tmp 65) (.tmp 67) rfl rfl (base := w1.heap.size) (L := cutTo d sz k) (M := [⟨d.src, d.dst, d.ident, d.place + (q : Int), true, E⟩]) (N := k + 1) rfl rfl rfl (by simp [cutTo_length]) (by omega) hbs hrow hda ?_)
                  intro va' vc' w5 hown hgr
                  rw [← HP.out, ← cutTo_succ] at hown
                  have B5 := hid (dgramR_down B4.out HROW.out hgr (by omega) (by have := B4.out.size; omega))
                  have X5 := hid (X4.out.on ((Below.refl w1.heap.size W4).grown hgr hbs (fun j hj => (dgramR_block HROW.out hj).1)) h01)
                  have R5 := hid hown
                  have hw5 : w1.heap.size ≤ w5.heap.size := Nat.le_trans hbs hgr.size
                  clear hgr hown HROW B4 X4 hrow hda
                  go_wp2
                  go_roundg g
                  case measure => omega
                  case rel => exact ⟨k + 1, hgg.out, HMORE.out, by rw [hkq.out]; go_num, va', vc', rfl, B5, hw5, X5, R5⟩
              · have hle' : ¬ (d.body.size : Int) ≤ (q : Int) + (sz : Int) := by omega
                have hE := slice_nat (P := Tryd.prog) Tryd.underlying9 d.body q (q + sz) (q : Int) ((q : Int) + (sz : Int)) rfl (by omega) (by omega) (by omega)
                have HP : Hid (partAt d sz k = ⟨d.src, d.dst, d.ident, d.place + (q : Int), true, d.body.extract q (q + sz)⟩) := by
                  show _ = _
                  rw [partAt, HQ.out]
                  rw [if_neg (by omega), Nat.min_eq_left (by omega)]
                have hEs : (d.body.extract q (q + sz)).size ≤ 1000 := by rw [ByteArray.size_extract]; omega
                obtain ⟨E, he⟩ : ∃ E, d.body.extract q (q + sz) = E := ⟨_, rfl⟩
                rw [he] at hE HP hEs
                clear he
                have z0 := XR.out.cell (j := 0) rfl
                have z1 := XR.out.cell (j := 1) rfl
                have z2 := XR.out.cell (j := 2) rfl
                have z3 := XR.out.cell (j := 3) rfl
                have z4 := XR.out.cell (j := 4) rfl
                have a3 := fun o => (XR.out.on (below_more (Below.refl _ wr) o) XR.out.lt).cell (j := 3) rfl
                have a4 := fun o => (XR.out.on (below_more (Below.refl _ wr) o) XR.out.lt).cell (j := 4) rfl
                have a5 := fun o => (XR.out.on (below_more (Below.refl _ wr) o) XR.out.lt).cell (j := 5) rfl
                have bb1 := below_more (Below.refl wr.heap.size wr) (.cells #[.int .i64 d.src, .int .i64 d.dst, .int .i64 d.ident, .int .i64 (d.place + (q : Int)), .bool true, .string d.body] 36)
                have hp1x : BlockIs (wr.alloc (.cells #[.int .i64 d.src, .int .i64 d.dst, .int .i64 d.ident, .int .i64 (d.place + (q : Int)), .bool true, .string d.body] 36)) wr.heap.size 36 [.int .i64 d.src, .int .i64 d.dst, .int .i64 d.ident, .int .i64 (d.place + (q : Int)), .bool true, .string d.body] := heap_alloc_new wr _
                have BB1 := hid bb1
                have HP1 := hid hp1x
                clear bb1 hp1x
                go_wp2_with fail
                refine (clone_any E (by omega) _).mono ?_
                rintro e w2 ⟨rfl, b2⟩
                have hp2 := HP1.out.on b2 HP1.out.lt
                have y5 := hp2.cell (j := 5) rfl
                have yf5 := hp2.thaw 5
                have hp3 : BlockIs (w2.setCell ⟨wr.heap.size, 5, none⟩ (.string E)) wr.heap.size 36 [.int .i64 d.src, .int .i64 d.dst, .int .i64 d.ident, .int .i64 (d.place + (q : Int)), .bool true, .string E] := hp2.set 5 (.string E)
                have bb1 : Below wr.heap.size wr (w2.setCell ⟨wr.heap.size, 5, none⟩ (.string E)) := (below_via BB1.out b2).setCell (p := ⟨wr.heap.size, 5, none⟩) (Nat.le_refl _) (.string E)
                obtain ⟨W3, hW3⟩ : ∃ W, w2.setCell ⟨wr.heap.size, 5, none⟩ (.string E) = W := ⟨_, rfl⟩
                rw [hW3] at hp3 bb1
                have p0 := hp3.cell (j := 0) rfl
                have p1 := hp3.cell (j := 1) rfl
                have p2 := hp3.cell (j := 2) rfl
                have p3 := hp3.cell (j := 3) rfl
                have p4 := hp3.cell (j := 4) rfl
                have p5 := hp3.cell (j := 5) rfl
                clear hp2 hp3 b2 BB1 HP1
                have bb2 := below_more (Below.refl W3.heap.size W3) (.cells #[.int .i64 d.src, .int .i64 d.dst, .int .i64 d.ident, .int .i64 (d.place + (q : Int)), .bool true, .string E] 36)
                have hnw : BlockIs (W3.alloc (.cells #[.int .i64 d.src, .int .i64 d.dst, .int .i64 d.ident, .int .i64 (d.place + (q : Int)), .bool true, .string E] 36)) W3.heap.size 36 (dgramCells [⟨d.src, d.dst, d.ident, d.place + (q : Int), true, E⟩] ++ []) := heap_alloc_new W3 _
                have hrow := dgramR_below RR.out (below_via bb1 bb2)
                have B4 := hid (below_via BR.out (below_via bb1 bb2))
                have X4 := hid (XR.out.on (below_via bb1 bb2) XR.out.lt)
                have hbs : w1.heap.size ≤ (W3.alloc (.cells #[.int .i64 d.src, .int .i64 d.dst, .int .i64 d.ident, .int .i64 (d.place + (q : Int)), .bool true, .string E] 36)).heap.size := Nat.le_trans hwz (below_via bb1 bb2).size
                obtain ⟨W4, hW4⟩ : ∃ W, W3.alloc (.cells #[.int .i64 d.src, .int .i64 d.dst, .int .i64 d.ident, .int .i64 (d.place + (q : Int)), .bool true, .string E] 36) = W := ⟨_, rfl⟩
                rw [hW4] at hnw hrow B4 X4 hbs
                have hda := dgramsAt_of hnw
                replace hrow : W4.ownsRow w1.heap.size 36 6 (.slice va k vc) (cutTo d sz k).length (dgramCells (cutTo d sz k)) := by rw [cutTo_length]; exact hrow
                have HROW := hid hrow
                clear bb1 bb2 hnw XR BR RR
                go_wp2_with (at_builtin; refine wpList_append_dgrams rfl (.tmp 65) (.tmp 67) rfl rfl (base := w1.heap.size) (L := cutTo d sz k) (M := [⟨d.src, d.dst, d.ident, d.place + (q : Int), true, E⟩]) (N := k + 1) rfl rfl rfl (by simp [cutTo_length]) (by omega) hbs hrow hda ?_)
                intro va' vc' w5 hown hgr
                rw [← HP.out, ← cutTo_succ] at hown
                have B5 := hid (dgramR_down B4.out HROW.out hgr (by omega) (by have := B4.out.size; omega))
                have X5 := hid (X4.out.on ((Below.refl w1.heap.size W4).grown hgr hbs (fun j hj => (dgramR_block HROW.out hj).1)) h01)
                have R5 := hid hown
                have hw5 : w1.heap.size ≤ w5.heap.size := Nat.le_trans hbs hgr.size
                clear hgr hown HROW B4 X4 hrow hda
                go_wp2
                go_roundg g
                case measure => omega
                case rel => exact ⟨k + 1, hgg.out, HMORE.out, by rw [hkq.out]; go_num, va', vc', rfl, B5, hw5, X5, R5⟩
          · have hlt' : ¬ (q : Int) < (d.body.size : Int) := by omega
            have hkd : k = nParts d sz := parts_done (by omega) hkn (by omega)
            rw [hq]
            clear hkg hq
            subst hkd
            have OA := hid (at_of_row RR.out)
            clear RR XR
            go_wp2
            go_ret2
            rw [HYES.out, HCO.out, CutDid, cutTo_length]
            exact ⟨va, vc, rfl, OA.out.1, OA.out.2.down (by omega) (Nat.le_refl _), BR.out⟩
end Go.Proofs.YthkkhmmcgjcedaaDoor
