/-
  The walk of spec.l15Open: a session is begun.
-/
import Derived.Test.YtoanhjjigbjecaaGreatDoorJoint1
import Derived.Test.YtoanhjjigbjecaaGreatDoorJoint8
import Derived.Test.YtoanhjjigbjecaaGreatDoorJoint9
import Derived.Test.YtoanhjjigbjecaaGreatDoorJoint7
import Derived.Deep.LoopGhost
import Derived.OwnWalk
import Derived.WalkKit
import Derived.Deep.DeepCutAuto
namespace Go.Proofs.YtoanhjjigbjecaaGreatDoor
open Go.RowKit

/-- all but the first of a row -/
theorem rest_row {w : World} {base k : Nat} {va : Option Addr} {vc : Nat} {l : List SessionD} (hk : k < l.length) (h : w.ownsRow base 86 3 (.slice va l.length vc) l.length (sessionCells l)) :
    ∃ g, va = some ⟨g, 0, none⟩ ∧ l.length ≤ vc ∧ vc ≤ maxLen ∧ SessionsAt w (some ⟨g, k * 3, none⟩) (l.drop k) := by
  rcases h.2 with ⟨hv, h0⟩ | ⟨g, cp, cur, hv, hb, hh, hle, hmx, _, ht⟩
  · omega
  · simp only [Value.slice.injEq] at hv
    obtain ⟨rfl, _, rfl⟩ := hv
    have hcur : cur.toList = sessionCells l ++ cur.toList.drop (l.length * 3) := by rw [← ht, List.take_append_drop]
    have hbk : BlockIs w g 86 (sessionCells l ++ cur.toList.drop (l.length * 3)) := by unfold BlockIs; rw [hh, ← hcur]
    refine ⟨g, rfl, hle, hmx, fun _ => ⟨g, k * 3, rfl, fun j hj => ?_⟩⟩
    rw [List.length_drop] at hj
    have e : k * 3 + j * 3 = (k + j) * 3 := by omega
    rw [List.getElem_drop, e]
    exact ⟨hbk.cell (row_at sessionEnc 3 (fun _ => rfl) l _ (k + j) 0 (by omega) (by omega)), hbk.cell (row_at sessionEnc 3 (fun _ => rfl) l _ (k + j) 1 (by omega) (by omega)), hbk.cell (row_at sessionEnc 3 (fun _ => rfl) l _ (k + j) 2 (by omega) (by omega))⟩

set_option maxRecDepth 1000000 in
set_option maxHeartbeats 4000000 in
theorem l15Open_any (ao bo : Option Addr) (ls : List SessionD) (li : List ItemD) (ac bc : Nat) (index : Int) (h0 : 0 ≤ index) (h1 : index ≤ 400000) (hl : ls.length ≤ 3) (hl2 : li.length ≤ 8) (w : World) (ha : SessionsAt w ao ls) (hi : ItemsAt w bo li) :
    Calls Tryz.prog 84 #[.agg #[.slice ao ls.length ac, .slice bo li.length bc], .int .i64 index] w fun e w' => ∃ va vc vb vd, e = .returned (.tuple #[.agg #[.slice va (openedD ls index).length vc, .slice vb li.length vd], .string (txt [111, 112, 101, 110, 32] ++ decT index)]) ∧ KRows w' w.heap.size (.slice va (openedD ls index).length vc) (.slice vb li.length vd) (openedD ls index) li ∧ Below w.heap.size w w' := by
  have hx0 : BlockIs ((w.alloc (.cells #[.slice ao ls.length ac, .slice bo li.length bc] 56)).alloc (.cells #[.slice none 0 0, .slice none 0 0] 56)) w.heap.size 56 [.slice ao ls.length ac, .slice bo li.length bc] := by
    show ((w.heap.push _).push _)[w.heap.size]? = some _
    rw [Array.getElem?_push, if_neg (by simp), Array.getElem?_push, if_pos rfl]
  have hx1 : BlockIs ((w.alloc (.cells #[.slice ao ls.length ac, .slice bo li.length bc] 56)).alloc (.cells #[.slice none 0 0, .slice none 0 0] 56)) (w.heap.size + 1) 56 [.slice none 0 0, .slice none 0 0] := by
    show ((w.heap.push _).push _)[w.heap.size + 1]? = some _
    rw [Array.getElem?_push, if_pos (by simp)]
  have hb0 := below_more (below_more (Below.refl w.heap.size w) (.cells #[.slice ao ls.length ac, .slice bo li.length bc] 56)) (.cells #[.slice none 0 0, .slice none 0 0] 56)
  obtain ⟨WW, hWW⟩ : ∃ WW, (w.alloc (.cells #[.slice ao ls.length ac, .slice bo li.length bc] 56)).alloc (.cells #[.slice none 0 0, .slice none 0 0] 56) = WW := ⟨_, rfl⟩
  rw [hWW] at hx0 hx1 hb0
  have z0 := hx0.cell (j := 0) rfl
  have z1 := hx0.cell (j := 1) rfl
  have CD : Hid (∀ w, Calls Tryz.prog 59 #[.int .i64 index] w fun e w' => e = .returned (.string (decT index)) ∧ Below w.heap.size w w') := by
    intro w
    obtain ⟨n, rfl⟩ := Int.eq_ofNat_of_zero_le h0
    exact specDecimal_nat n (by omega) w
  have HDL := hid (decT_len h0 (by omega))
  have HA := hid (ha.on hb0)
  have CC := hid (l15Copy_any ao bo ls li ac bc (by omega) (by omega) WW (ha.on hb0) (hi.on hb0))
  have X0 := hid hx0
  have X1 := hid hx1
  have B0 := hid hb0
  clear hx0 hx1 hb0 ha hi
  go_enter Tryz.func84, Tryz.ntmps84
  go_wp2_with fail
  refine Calls.mono CC.out ?_
  rintro e w1 ⟨va0, vc0, vb, vd, rfl, k1, b1⟩
  have bn := below_more (Below.refl w1.heap.size w1) (.cells #[.slice va0 ls.length vc0, .slice vb li.length vd] 56)
  have kn : BlockIs (w1.alloc (.cells #[.slice va0 ls.length vc0, .slice vb li.length vd] 56)) w1.heap.size 56 [.slice va0 ls.length vc0, .slice vb li.length vd] := heap_alloc_new w1 _
  have hw1 : w.heap.size + 1 < w1.heap.size := Nat.lt_of_lt_of_le X1.out.lt b1.size
  have rn := row_onK k1.2 bn
  have b1n := below_via b1 bn
  obtain ⟨V0, hV0⟩ : ∃ W, w1.alloc (.cells #[.slice va0 ls.length vc0, .slice vb li.length vd] 56) = W := ⟨_, rfl⟩
  rw [hV0] at bn kn rn b1n
  have HS := hid (HA.out.on b1n)
  have Y0 := hid (X0.out.on b1n X0.out.lt)
  have Y1 := hid (X1.out.on b1n X1.out.lt)
  have BV := hid (below_via B0.out b1n)
  have KO := hid kn
  have RI := hid (row_down rn (show w.heap.size ≤ WW.heap.size from B0.out.size))
  have br := below_more (Below.refl V0.heap.size V0) (.cells #[] 86)
  have hr1 := sessionR_nil V0 V0.heap.size (Nat.le_refl _)
  obtain ⟨V1, hV1⟩ : ∃ W, V0.alloc (.cells #[] 86) = W := ⟨_, rfl⟩
  rw [hV1] at br hr1
  have B1 := hid br
  have R1 := hid hr1
  clear bn kn rn b1n br hr1 k1 b1 CC HA X0 X1 B0
  go_wp2
  go_loopg [7, 8] ls.length (fun g v i wr => ∃ (k : Nat), k + g = ls.length ∧ i = .int .i64 k ∧ ∃ va vc, v = .slice va (rowsOf ([] : List SessionD) (fun a => tokenLt a (⟨index, 0, ⟨#[]⟩⟩ : SessionD)) ls k).length vc ∧ Hid (Below V0.heap.size V0 wr) ∧ Hid (wr.ownsRow V0.heap.size 86 3 (.slice va (rowsOf ([] : List SessionD) (fun a => tokenLt a (⟨index, 0, ⟨#[]⟩⟩ : SessionD)) ls k).length vc) (rowsOf ([] : List SessionD) (fun a => tokenLt a (⟨index, 0, ⟨#[]⟩⟩ : SessionD)) ls k).length (sessionCells (rowsOf ([] : List SessionD) (fun a => tokenLt a (⟨index, 0, ⟨#[]⟩⟩ : SessionD)) ls k))))
  case atStart => exact ⟨0, by omega, rfl, _, _, by rw [rowsOf_zero] <;> rfl, B1, by rw [rowsOf_zero]; exact R1⟩
  case round =>
    obtain ⟨k, hkg, rfl, va, vc, rfl, BR, RR⟩ := hrel
    clear B1 R1 hV1
    have hol := rowsOf_le ([] : List SessionD) (fun a => tokenLt a (⟨index, 0, ⟨#[]⟩⟩ : SessionD)) ls k
    have hwz : V0.heap.size ≤ wr.heap.size := BR.out.size
    rw [List.length_nil, Nat.zero_add] at hol
    have y0 := (Y0.out.on BR.out Y0.out.lt).cell (j := 0) rfl
    cases gk with
    | zero =>
      have hlt : ¬ (k : Int) < (ls.length : Int) := by omega
      obtain rfl : k = ls.length := by omega
      obtain ⟨L, hL⟩ : ∃ L, rowsOf ([] : List SessionD) (fun a => tokenLt a (⟨index, 0, ⟨#[]⟩⟩ : SessionD)) ls ls.length = L := ⟨_, rfl⟩
      have HPI : Hid (putIn tokenLt ls (⟨index, 0, ⟨#[]⟩⟩ : SessionD) = rowsOf (L ++ [(⟨index, 0, ⟨#[]⟩⟩ : SessionD)]) (fun a => tokenLt (⟨index, 0, ⟨#[]⟩⟩ : SessionD) a) ls ls.length) := by show _ = _; rw [putIn_rows, hL]
      rw [hL] at RR hol ⊢
      clear hL
      obtain ⟨i0, hi, hz0, hz1, hz2⟩ := info_parts toSession_info
      have hnew := sessionR_new wr (⟨index, 0, ⟨#[]⟩⟩ : SessionD)
      have hone := sessionR_one (⟨index, 0, ⟨#[]⟩⟩ : SessionD)
      have bb := below_more (Below.refl wr.heap.size wr) (.cells #[.int .i64 index, .int .i64 0, .string ⟨#[]⟩] 86)
      have B3 := hid (below_via BR.out bb)
      have hrow := sessionR_below RR.out bb
      have hbase : V0.heap.size ≤ (wr.alloc (.cells #[.int .i64 index, .int .i64 0, .string ⟨#[]⟩] 86)).heap.size := B3.out.size
      clear bb BR RR
      go_wp2_with (at_builtin; refine wpList_append_own _ rfl (.tmp 36) (.tmp 39) 53 rfl V0.heap.size 86 i0 _ 3 32 Tryz.underlying53 hi hz0 hz1 hz2 rfl (by decide) _ _ _ rfl hrow ⟨wr.heap.size, 0, none⟩ 1 1 (sessionEnc (⟨index, 0, ⟨#[]⟩⟩ : SessionD)) rfl rfl hnew hone (by unfold maxLen; omega) (by omega) hbase ?_)
      intro v' w4 hown hgrow _
      obtain ⟨va', vc', rfl⟩ := row_shape hown
      rw [← sessionR_snoc] at hown
      have B4 := hid (sessionR_down B3.out hrow hgrow (Nat.le_refl _) hbase)
      obtain ⟨M, hM⟩ : ∃ M, L ++ [(⟨index, 0, ⟨#[]⟩⟩ : SessionD)] = M := ⟨_, rfl⟩
      have hML : M.length = L.length + 1 := by rw [← hM]; simp
      rw [hM] at hown HPI
      rw [← hML] at hown ⊢
      have R4 := hid hown
      have hm2 : M.length ≤ 4 := by omega
      clear hM hML hown hgrow hrow hbase B3 hnew hone hol y0 hwz hlt
      go_wp2
      go_loopg [7, 9] ls.length (fun g v i wr => ∃ (k : Nat), k + g = ls.length ∧ i = .int .i64 k ∧ ∃ va vc, v = .slice va (rowsOf M (fun a => tokenLt (⟨index, 0, ⟨#[]⟩⟩ : SessionD) a) ls k).length vc ∧ Hid (Below V0.heap.size V0 wr) ∧ Hid (wr.ownsRow V0.heap.size 86 3 (.slice va (rowsOf M (fun a => tokenLt (⟨index, 0, ⟨#[]⟩⟩ : SessionD) a) ls k).length vc) (rowsOf M (fun a => tokenLt (⟨index, 0, ⟨#[]⟩⟩ : SessionD) a) ls k).length (sessionCells (rowsOf M (fun a => tokenLt (⟨index, 0, ⟨#[]⟩⟩ : SessionD) a) ls k))))
      case atStart => exact ⟨0, by omega, rfl, _, _, by rw [rowsOf_zero] <;> rfl, B4, by rw [rowsOf_zero]; exact R4⟩
      case round =>
        obtain ⟨k, hkg, rfl, va, vc, rfl, BR, RR⟩ := hrel
        clear B4 R4
        have hol := rowsOf_le M (fun a => tokenLt (⟨index, 0, ⟨#[]⟩⟩ : SessionD) a) ls k
        have hwz : V0.heap.size ≤ wr.heap.size := BR.out.size
        have y0 := (Y0.out.on BR.out Y0.out.lt).cell (j := 0) rfl
        cases gk with
        | zero =>
          have hlt : ¬ (k : Int) < (ls.length : Int) := by omega
          obtain rfl : k = ls.length := by omega
          obtain ⟨N, hN⟩ : ∃ N, rowsOf M (fun a => tokenLt (⟨index, 0, ⟨#[]⟩⟩ : SessionD) a) ls ls.length = N := ⟨_, rfl⟩
          rw [hN] at RR HPI hol ⊢
          clear hN hwz
          by_cases h3 : (3 : Int) < (N.length : Int)
          · have HOP : Hid (openedD ls index = N.drop 1) := by show _ = _; rw [openedD, HPI.out, if_pos (by omega), List.drop_one]
            clear HPI
            obtain ⟨g, rfl, hc1, hc2, hrest⟩ := rest_row (k := 1) (by omega) RR.out
            have hdl : (N.drop 1).length = N.length - 1 := List.length_drop
            have bb := below_more (Below.refl wr.heap.size wr) (.cells #[] 86)
            have HK : SessionsAt (wr.alloc (.cells #[] 86)) (some ⟨g, 3, none⟩) (N.drop 1) := hrest.on bb
            have hr0 := sessionR_nil wr V0.heap.size BR.out.size
            have B3 := hid (below_via BR.out bb)
            have hbase : V0.heap.size ≤ (wr.alloc (.cells #[] 86)).heap.size := B3.out.size
            obtain ⟨N', hN'⟩ : ∃ N', N.drop 1 = N' := ⟨_, rfl⟩
            rw [hN'] at hdl HK HOP
            unfold maxLen at hc2
            have hlen1 : N.length - 1 = N'.length := hdl.symm
            have hle1 : (1 : Int) ≤ (N.length : Int) := by omega
            have hdl2 : (N.length : Int) - 1 = (N'.length : Int) := by omega
            clear bb BR RR hrest hN' hdl
            go_wp2_with (at_builtin; refine wpList_append_sessions rfl (.tmp 67) (.tmp 69) rfl rfl (base := V0.heap.size) (L := []) (M := N') (N := N'.length) rfl rfl rfl (by simp) (by omega) hbase hr0 HK ?_)
            intro va vc w5 hrow hgr
            have B4 := hid (sessionR_down B3.out hr0 hgr (Nat.le_refl _) hbase)
            have R4 := hid hrow
            clear hrow hgr hr0 HK B3 hbase hdl2 hlen1 hle1 hc1 hc2 h3 hol
            skip
            have KZ0 := KO.out.on B4.out KO.out.lt
            have Z10 := Y1.out.on B4.out Y1.out.lt
            have RZ0 := row_onK RI.out B4.out
            have BZ0 := below_via BV.out B4.out
            have c0 := KZ0.cell (j := 0) rfl
            have c1 := KZ0.cell (j := 1) rfl
            have f0 := KZ0.thaw 0
            have BZ := hid (BZ0.setCell (p := ⟨w1.heap.size, 0, none⟩) (by show _ ≤ w1.heap.size; omega) (.slice va N'.length vc))
            have KZ := hid (KZ0.set 0 (.slice va N'.length vc))
            have Z1 := hid (Z10.far (b := w1.heap.size) (j := 0) (by omega) (.slice va N'.length vc))
            have RZ := hid (row_farK (j := 0) RZ0 KZ0 (by decide) (.slice va N'.length vc))
            have RN := hid (row_farK (j := 0) (row_down R4.out (show w.heap.size ≤ V0.heap.size from BV.out.size)) KZ0 (by decide) (.slice va N'.length vc))
            obtain ⟨wz, hwz⟩ : ∃ wz, w5.setCell ⟨w1.heap.size, 0, none⟩ (.slice va N'.length vc) = wz := ⟨_, rfl⟩
            rw [hwz] at BZ KZ Z1 RZ RN
            clear KZ0 Z10 RZ0 BZ0
            go_wp2
            refine wp_region_each (N := 77) (by kernel_rfl) (by kernel_rfl) rfl (by kernel_rfl) (fun W => Below w.heap.size w W ∧ BlockIs W w1.heap.size 56 [.slice va N'.length vc, .slice vb li.length vd] ∧ (∃ cs, cs.length = 2 ∧ BlockIs W (w.heap.size + 1) 56 cs) ∧ W.ownsRow w.heap.size 86 3 (.slice va N'.length vc) N'.length (sessionCells N') ∧ W.ownsRow w.heap.size 89 3 (.slice vb li.length vd) li.length (itemCells li)) (fun j v _ W => match j with | 0 => v = .agg #[.slice va N'.length vc, .slice vb li.length vd] | 1 => v = .int .i64 index | 2 => v = .string (decT index) | 3 => v = .string (txt [111, 112, 101, 110, 32] ++ decT index) | 4 => BlockIs W (w.heap.size + 1) 56 [.slice va N'.length vc, .slice vb li.length vd] | 5 => v = .string (txt [111, 112, 101, 110, 32] ++ decT index) | _ => True) (fun i => i) (fun _ _ => false) (fun i x y => ∀ g ty cs, BlockIs x g ty cs → i ≠ 4 → BlockIs y g ty cs) (fun _ => 0) (by kernel_rfl) (fun _ _ => rfl) ?_ ⟨below_drewN BZ.out 1, KZ.out, ⟨_, rfl, Z1.out⟩, RN.out, RZ.out⟩ ?_ ?_
            · intro i j v u x y hij hdd hwt hxy hg
              match j, hg with
              | 0, hg => exact hg
              | 1, hg => exact hg
              | 2, hg => exact hg
              | 3, hg => exact hg
              | 4, hg =>
                exact hxy _ _ _ hg hij
              | 5, hg => exact hg
              | n + 6, _ => exact trivial
            · refine ⟨?_, ?_, ?_, ?_, ?_, ?_, trivial⟩
              · intro A W hC hg hb
                have h6 : A.eval (.tmp 6) = .pointer (some ⟨w1.heap.size, 0, none⟩) := hb 6 (base_of (by kernel_rfl))
                obtain ⟨k1, k2, ⟨cs, k3, k4⟩, k5, k6⟩ := hC
                have c0 := k2.cell (j := 0) rfl
                have c1 := k2.cell (j := 1) rfl
                exact does_value (v := .agg #[.slice va N'.length vc, .slice vb li.length vd]) (w' := W) (by simp only [execOp, h6]; simp [go_sem, c0, c1]) ⟨rfl, ⟨k1, k2, ⟨cs, k3, k4⟩, k5, k6⟩, fun _ _ _ h _ => h⟩
              · intro A W hC hg hb
                have h1 : A.eval (.tmp 1) = .int .i64 index := hb 1 (base_of (by kernel_rfl))
                exact does_value (v := .int .i64 index) (w' := W) (by simp only [execOp, h1]; simp [go_sem]) ⟨rfl, hC, fun _ _ _ h _ => h⟩
              · intro A W hC hg hb
                have h74 : A.eval (.tmp 74) = .int .i64 index := hg 1 74 (by decide) rfl (by simp [Op.operands, Call.operands]) (by kernel_rfl) rfl
                simp [go_sem] at h74
                obtain ⟨k1, k2, ⟨cs, k3, k4⟩, k5, k6⟩ := hC
                refine does_enter (f := 59) (args := #[.int .i64 index]) (w' := W) (by simp [go_sem, h74]) ?_
                refine Calls.mono (CD.out W) ?_
                rintro e W' ⟨rfl, hb'⟩
                exact ⟨_, rfl, rfl, ⟨below_via k1 hb', k2.on hb' k2.lt, ⟨cs, k3, k4.on hb' k4.lt⟩, row_onK k5 hb', row_onK k6 hb'⟩, fun _ _ _ h _ => h.on hb' h.lt⟩
              · intro A W hC hg hb
                have h75 : A.eval (.tmp 75) = .string (decT index) := hg 2 75 (by decide) rfl (by simp [Op.operands]) (by kernel_rfl) rfl
                exact does_value (v := .string (txt [111, 112, 101, 110, 32] ++ decT index)) (w' := W) (by simp only [execOp, h75]; simp [go_sem, txt]; have := HDL.out; omega) ⟨rfl, hC, fun _ _ _ h _ => h⟩
              · intro A W hC hg hb
                have h4 : A.eval (.tmp 4) = .pointer (some ⟨w.heap.size + 1, 0, none⟩) := hb 4 (base_of (by kernel_rfl))
                have h73 : A.eval (.tmp 73) = .agg #[.slice va N'.length vc, .slice vb li.length vd] := hg 0 73 (by decide) rfl (by simp [Op.operands]) (by kernel_rfl) rfl
                obtain ⟨k1, k2, ⟨cs, k3, k4⟩, k5, k6⟩ := hC
                match cs, k3 with
                | [a0, a1], _ =>
                  have c0 := k4.cell (j := 0) rfl
                  have c1 := k4.cell (j := 1) rfl
                  have f0 := k4.thaw 0
                  have f1 := k4.thaw 1
                  have hX3 := (k4.set 0 (.slice va N'.length vc)).set 1 (.slice vb li.length vd)
                  have far : ∀ q ty cs, BlockIs W q ty cs → w.heap.size + 1 ≠ q → BlockIs ((W.setCell ⟨w.heap.size + 1, 0, none⟩ (.slice va N'.length vc)).setCell ⟨w.heap.size + 1, 1, none⟩ (.slice vb li.length vd)) q ty cs := fun q ty cs hq hne => (hq.far hne _).far hne _
                  have far2 : ∀ q ty cs, BlockIs W q ty cs → ty ≠ 56 → BlockIs ((W.setCell ⟨w.heap.size + 1, 0, none⟩ (.slice va N'.length vc)).setCell ⟨w.heap.size + 1, 1, none⟩ (.slice vb li.length vd)) q ty cs := fun q ty cs hq hne => far q ty cs hq (by intro e; subst e; exact hne (block_one hq k4).1)
                  exact does_skip (w' := ((W.setCell ⟨w.heap.size + 1, 0, none⟩ (.slice va N'.length vc)).setCell ⟨w.heap.size + 1, 1, none⟩ (.slice vb li.length vd))) (by simp only [execOp, h4, h73]; simp [go_sem, c0, c1, f0, f1]) ⟨hX3, ⟨(k1.setCell (by show _ ≤ _ + 1; omega) _).setCell (by show _ ≤ _ + 1; omega) _, far _ _ _ k2 (by omega), ⟨_, rfl, hX3⟩, row_ext k5 (fun g r h => far2 g _ _ h (by decide)), row_ext k6 (fun g r h => far2 g _ _ h (by decide))⟩, fun _ _ _ _ hne => absurd rfl hne⟩
              · intro A W hC hg hb
                have h76 : A.eval (.tmp 76) = .string (txt [111, 112, 101, 110, 32] ++ decT index) := hg 3 76 (by decide) rfl (by simp [Op.operands]) (by kernel_rfl) rfl
                exact does_value (v := .string (txt [111, 112, 101, 110, 32] ++ decT index)) (w' := W) (by simp only [execOp, h76]; simp [go_sem]) ⟨rfl, hC, fun _ _ _ h _ => h⟩
            · intro vs w4 hC hg
              have g1 := hg 4 (by decide) (fun k => by simp)
              have g5 := hg 5 (by decide) (fun k => by simp)
              clear hg
              change Exit.then _ _ _ (laidBy _ vs _ 6 _) w4
              simp only [laidBy, if_true, dstAt, List.getElem?_toArray, List.getElem?_cons_succ, List.getElem?_cons_zero, Option.bind_some]
              simp only [Act.put, List.setIfInBounds_toArray, List.set_cons_succ, List.set_cons_zero]
              change vs 5 = _ at g5
              rw [g5]
              have c0 := (show BlockIs _ _ _ _ from g1).cell (j := 0) rfl
              have c1 := (show BlockIs _ _ _ _ from g1).cell (j := 1) rfl
              have BL := hid (And.intro hC.1 (And.intro hC.2.2.2.1 hC.2.2.2.2))
              clear hC g1 g5
              go_wp2
              refine bodyPost_ret (v := .tuple #[.agg #[.slice va N'.length vc, .slice vb li.length vd], .string (txt [111, 112, 101, 110, 32] ++ decT index)]) (by simp [results, Tryz.results84, go_sem, c0, c1]) rfl ?_
              rw [HOP.out]
              exact ⟨va, vc, vb, vd, rfl, ⟨BL.out.2.1, BL.out.2.2⟩, BL.out.1⟩
          · have HOP : Hid (openedD ls index = N) := by show _ = _; rw [openedD, HPI.out, if_neg (by omega)]
            clear HPI
            have KZ0 := KO.out.on BR.out KO.out.lt
            have Z10 := Y1.out.on BR.out Y1.out.lt
            have RZ0 := row_onK RI.out BR.out
            have BZ0 := below_via BV.out BR.out
            have c0 := KZ0.cell (j := 0) rfl
            have c1 := KZ0.cell (j := 1) rfl
            have f0 := KZ0.thaw 0
            have BZ := hid (BZ0.setCell (p := ⟨w1.heap.size, 0, none⟩) (by show _ ≤ w1.heap.size; omega) (.slice va N.length vc))
            have KZ := hid (KZ0.set 0 (.slice va N.length vc))
            have Z1 := hid (Z10.far (b := w1.heap.size) (j := 0) (by omega) (.slice va N.length vc))
            have RZ := hid (row_farK (j := 0) RZ0 KZ0 (by decide) (.slice va N.length vc))
            have RN := hid (row_farK (j := 0) (row_down RR.out (show w.heap.size ≤ V0.heap.size from BV.out.size)) KZ0 (by decide) (.slice va N.length vc))
            obtain ⟨wz, hwz⟩ : ∃ wz, wr.setCell ⟨w1.heap.size, 0, none⟩ (.slice va N.length vc) = wz := ⟨_, rfl⟩
            rw [hwz] at BZ KZ Z1 RZ RN
            clear KZ0 Z10 RZ0 BZ0
            go_wp2
            refine wp_region_each (N := 77) (by kernel_rfl) (by kernel_rfl) rfl (by kernel_rfl) (fun W => Below w.heap.size w W ∧ BlockIs W w1.heap.size 56 [.slice va N.length vc, .slice vb li.length vd] ∧ (∃ cs, cs.length = 2 ∧ BlockIs W (w.heap.size + 1) 56 cs) ∧ W.ownsRow w.heap.size 86 3 (.slice va N.length vc) N.length (sessionCells N) ∧ W.ownsRow w.heap.size 89 3 (.slice vb li.length vd) li.length (itemCells li)) (fun j v _ W => match j with | 0 => v = .agg #[.slice va N.length vc, .slice vb li.length vd] | 1 => v = .int .i64 index | 2 => v = .string (decT index) | 3 => v = .string (txt [111, 112, 101, 110, 32] ++ decT index) | 4 => BlockIs W (w.heap.size + 1) 56 [.slice va N.length vc, .slice vb li.length vd] | 5 => v = .string (txt [111, 112, 101, 110, 32] ++ decT index) | _ => True) (fun i => i) (fun _ _ => false) (fun i x y => ∀ g ty cs, BlockIs x g ty cs → i ≠ 4 → BlockIs y g ty cs) (fun _ => 0) (by kernel_rfl) (fun _ _ => rfl) ?_ ⟨below_drewN BZ.out 1, KZ.out, ⟨_, rfl, Z1.out⟩, RN.out, RZ.out⟩ ?_ ?_
            · intro i j v u x y hij hdd hwt hxy hg
              match j, hg with
              | 0, hg => exact hg
              | 1, hg => exact hg
              | 2, hg => exact hg
              | 3, hg => exact hg
              | 4, hg =>
                exact hxy _ _ _ hg hij
              | 5, hg => exact hg
              | n + 6, _ => exact trivial
            · refine ⟨?_, ?_, ?_, ?_, ?_, ?_, trivial⟩
              · intro A W hC hg hb
                have h6 : A.eval (.tmp 6) = .pointer (some ⟨w1.heap.size, 0, none⟩) := hb 6 (base_of (by kernel_rfl))
                obtain ⟨k1, k2, ⟨cs, k3, k4⟩, k5, k6⟩ := hC
                have c0 := k2.cell (j := 0) rfl
                have c1 := k2.cell (j := 1) rfl
                exact does_value (v := .agg #[.slice va N.length vc, .slice vb li.length vd]) (w' := W) (by simp only [execOp, h6]; simp [go_sem, c0, c1]) ⟨rfl, ⟨k1, k2, ⟨cs, k3, k4⟩, k5, k6⟩, fun _ _ _ h _ => h⟩
              · intro A W hC hg hb
                have h1 : A.eval (.tmp 1) = .int .i64 index := hb 1 (base_of (by kernel_rfl))
                exact does_value (v := .int .i64 index) (w' := W) (by simp only [execOp, h1]; simp [go_sem]) ⟨rfl, hC, fun _ _ _ h _ => h⟩
              · intro A W hC hg hb
                have h74 : A.eval (.tmp 74) = .int .i64 index := hg 1 74 (by decide) rfl (by simp [Op.operands, Call.operands]) (by kernel_rfl) rfl
                simp [go_sem] at h74
                obtain ⟨k1, k2, ⟨cs, k3, k4⟩, k5, k6⟩ := hC
                refine does_enter (f := 59) (args := #[.int .i64 index]) (w' := W) (by simp [go_sem, h74]) ?_
                refine Calls.mono (CD.out W) ?_
                rintro e W' ⟨rfl, hb'⟩
                exact ⟨_, rfl, rfl, ⟨below_via k1 hb', k2.on hb' k2.lt, ⟨cs, k3, k4.on hb' k4.lt⟩, row_onK k5 hb', row_onK k6 hb'⟩, fun _ _ _ h _ => h.on hb' h.lt⟩
              · intro A W hC hg hb
                have h75 : A.eval (.tmp 75) = .string (decT index) := hg 2 75 (by decide) rfl (by simp [Op.operands]) (by kernel_rfl) rfl
                exact does_value (v := .string (txt [111, 112, 101, 110, 32] ++ decT index)) (w' := W) (by simp only [execOp, h75]; simp [go_sem, txt]; have := HDL.out; omega) ⟨rfl, hC, fun _ _ _ h _ => h⟩
              · intro A W hC hg hb
                have h4 : A.eval (.tmp 4) = .pointer (some ⟨w.heap.size + 1, 0, none⟩) := hb 4 (base_of (by kernel_rfl))
                have h73 : A.eval (.tmp 73) = .agg #[.slice va N.length vc, .slice vb li.length vd] := hg 0 73 (by decide) rfl (by simp [Op.operands]) (by kernel_rfl) rfl
                obtain ⟨k1, k2, ⟨cs, k3, k4⟩, k5, k6⟩ := hC
                match cs, k3 with
                | [a0, a1], _ =>
                  have c0 := k4.cell (j := 0) rfl
                  have c1 := k4.cell (j := 1) rfl
                  have f0 := k4.thaw 0
                  have f1 := k4.thaw 1
                  have hX3 := (k4.set 0 (.slice va N.length vc)).set 1 (.slice vb li.length vd)
                  have far : ∀ q ty cs, BlockIs W q ty cs → w.heap.size + 1 ≠ q → BlockIs ((W.setCell ⟨w.heap.size + 1, 0, none⟩ (.slice va N.length vc)).setCell ⟨w.heap.size + 1, 1, none⟩ (.slice vb li.length vd)) q ty cs := fun q ty cs hq hne => (hq.far hne _).far hne _
                  have far2 : ∀ q ty cs, BlockIs W q ty cs → ty ≠ 56 → BlockIs ((W.setCell ⟨w.heap.size + 1, 0, none⟩ (.slice va N.length vc)).setCell ⟨w.heap.size + 1, 1, none⟩ (.slice vb li.length vd)) q ty cs := fun q ty cs hq hne => far q ty cs hq (by intro e; subst e; exact hne (block_one hq k4).1)
                  exact does_skip (w' := ((W.setCell ⟨w.heap.size + 1, 0, none⟩ (.slice va N.length vc)).setCell ⟨w.heap.size + 1, 1, none⟩ (.slice vb li.length vd))) (by simp only [execOp, h4, h73]; simp [go_sem, c0, c1, f0, f1]) ⟨hX3, ⟨(k1.setCell (by show _ ≤ _ + 1; omega) _).setCell (by show _ ≤ _ + 1; omega) _, far _ _ _ k2 (by omega), ⟨_, rfl, hX3⟩, row_ext k5 (fun g r h => far2 g _ _ h (by decide)), row_ext k6 (fun g r h => far2 g _ _ h (by decide))⟩, fun _ _ _ _ hne => absurd rfl hne⟩
              · intro A W hC hg hb
                have h76 : A.eval (.tmp 76) = .string (txt [111, 112, 101, 110, 32] ++ decT index) := hg 3 76 (by decide) rfl (by simp [Op.operands]) (by kernel_rfl) rfl
                exact does_value (v := .string (txt [111, 112, 101, 110, 32] ++ decT index)) (w' := W) (by simp only [execOp, h76]; simp [go_sem]) ⟨rfl, hC, fun _ _ _ h _ => h⟩
            · intro vs w4 hC hg
              have g1 := hg 4 (by decide) (fun k => by simp)
              have g5 := hg 5 (by decide) (fun k => by simp)
              clear hg
              change Exit.then _ _ _ (laidBy _ vs _ 6 _) w4
              simp only [laidBy, if_true, dstAt, List.getElem?_toArray, List.getElem?_cons_succ, List.getElem?_cons_zero, Option.bind_some]
              simp only [Act.put, List.setIfInBounds_toArray, List.set_cons_succ, List.set_cons_zero]
              change vs 5 = _ at g5
              rw [g5]
              have c0 := (show BlockIs _ _ _ _ from g1).cell (j := 0) rfl
              have c1 := (show BlockIs _ _ _ _ from g1).cell (j := 1) rfl
              have BL := hid (And.intro hC.1 (And.intro hC.2.2.2.1 hC.2.2.2.2))
              clear hC g1 g5
              go_wp2
              refine bodyPost_ret (v := .tuple #[.agg #[.slice va N.length vc, .slice vb li.length vd], .string (txt [111, 112, 101, 110, 32] ++ decT index)]) (by simp [results, Tryz.results84, go_sem, c0, c1]) rfl ?_
              rw [HOP.out]
              exact ⟨va, vc, vb, vd, rfl, ⟨BL.out.2.1, BL.out.2.2⟩, BL.out.1⟩
        | succ q =>
          have hlt : k < ls.length := by omega
          have hlt' : (k : Int) < (ls.length : Int) := by omega
          have hne : ls ≠ [] := by intro e; rw [e] at hlt; simp at hlt
          have HST := hid (rowsOf_step M (fun a => tokenLt (⟨index, 0, ⟨#[]⟩⟩ : SessionD) a) ls k hlt)
          obtain ⟨b, off, rfl, hc⟩ := HS.out.on BR.out hne
          obtain ⟨x0, x1, x2⟩ := hc k hlt
          clear hc
          obtain ⟨L, hL⟩ : ∃ L, rowsOf M (fun a => tokenLt (⟨index, 0, ⟨#[]⟩⟩ : SessionD) a) ls k = L := ⟨_, rfl⟩
          rw [hL] at RR HST hol ⊢
          clear hL
          cases he : tokenLt (⟨index, 0, ⟨#[]⟩⟩ : SessionD) ls[k] with
          | false =>
            rw [he, if_neg (by simp), List.append_nil] at HST
            have hlz : ¬ index < ls[k].token := by simpa [tokenLt] using he
            clear he
            go_wp2
            go_roundg q
            case measure => omega
            case rel => exact ⟨k + 1, by omega, by go_num, va, vc, by rw [HST.out], BR, by rw [HST.out]; exact RR⟩
          | true =>
            rw [he, if_pos rfl] at HST
            have hlz : index < ls[k].token := by simpa [tokenLt] using he
            clear he
            obtain ⟨i0, hi, hz0, hz1, hz2⟩ := info_parts toSession_info
            have hnew := sessionR_new wr ls[k]
            have hone := sessionR_one ls[k]
            have bb := below_more (Below.refl wr.heap.size wr) (.cells #[.int .i64 ls[k].token, .int .i64 ls[k].last, .string ls[k].reply] 86)
            have B3 := hid (below_via BR.out bb)
            have hrow := sessionR_below RR.out bb
            have hbase : V0.heap.size ≤ (wr.alloc (.cells #[.int .i64 ls[k].token, .int .i64 ls[k].last, .string ls[k].reply] 86)).heap.size := Nat.le_trans (Nat.le_refl _) B3.out.size
            clear bb BR RR
            go_wp2_with (at_builtin; refine wpList_append_own _ rfl (.tmp 56) (.tmp 62) 53 rfl V0.heap.size 86 i0 _ 3 32 Tryz.underlying53 hi hz0 hz1 hz2 rfl (by decide) _ _ _ rfl hrow ⟨wr.heap.size, 0, none⟩ 1 1 (sessionEnc ls[k]) rfl rfl hnew hone (by unfold maxLen; omega) (by omega) hbase ?_)
            intro v' w4 hown hgrow _
            obtain ⟨va', vc', rfl⟩ := row_shape hown
            rw [← sessionR_snoc] at hown
            have B4 := hid (sessionR_down B3.out hrow hgrow (Nat.le_refl _) B3.out.size)
            have R4 := hid hown
            have HL2 : Hid ((L ++ [ls[k]]).length = L.length + 1) := by show _ = _; simp
            clear hown hgrow hrow hbase B3 hnew hone
            go_wp2
            go_roundg q
            case measure => omega
            case rel =>
              refine ⟨k + 1, by omega, by go_num, va', vc', by rw [HST.out, HL2.out], B4, ?_⟩
              rw [HST.out, HL2.out]
              exact R4
    | succ q =>
      have hlt : k < ls.length := by omega
      have hlt' : (k : Int) < (ls.length : Int) := by omega
      have hne : ls ≠ [] := by intro e; rw [e] at hlt; simp at hlt
      have HST := hid (rowsOf_step ([] : List SessionD) (fun a => tokenLt a (⟨index, 0, ⟨#[]⟩⟩ : SessionD)) ls k hlt)
      obtain ⟨b, off, rfl, hc⟩ := HS.out.on BR.out hne
      obtain ⟨x0, x1, x2⟩ := hc k hlt
      clear hc
      obtain ⟨L, hL⟩ : ∃ L, rowsOf ([] : List SessionD) (fun a => tokenLt a (⟨index, 0, ⟨#[]⟩⟩ : SessionD)) ls k = L := ⟨_, rfl⟩
      rw [hL] at RR HST hol ⊢
      clear hL
      cases he : tokenLt ls[k] (⟨index, 0, ⟨#[]⟩⟩ : SessionD) with
      | false =>
        rw [he, if_neg (by simp), List.append_nil] at HST
        have hlz : ¬ ls[k].token < index := by simpa [tokenLt] using he
        clear he
        go_wp2
        go_roundg q
        case measure => omega
        case rel => exact ⟨k + 1, by omega, by go_num, va, vc, by rw [HST.out], BR, by rw [HST.out]; exact RR⟩
      | true =>
        rw [he, if_pos rfl] at HST
        have hlz : ls[k].token < index := by simpa [tokenLt] using he
        clear he
        obtain ⟨i0, hi, hz0, hz1, hz2⟩ := info_parts toSession_info
        have hnew := sessionR_new wr ls[k]
        have hone := sessionR_one ls[k]
        have bb := below_more (Below.refl wr.heap.size wr) (.cells #[.int .i64 ls[k].token, .int .i64 ls[k].last, .string ls[k].reply] 86)
        have B3 := hid (below_via BR.out bb)
        have hrow := sessionR_below RR.out bb
        have hbase : V0.heap.size ≤ (wr.alloc (.cells #[.int .i64 ls[k].token, .int .i64 ls[k].last, .string ls[k].reply] 86)).heap.size := Nat.le_trans (Nat.le_refl _) B3.out.size
        clear bb BR RR
        go_wp2_with (at_builtin; refine wpList_append_own _ rfl (.tmp 28) (.tmp 34) 53 rfl V0.heap.size 86 i0 _ 3 32 Tryz.underlying53 hi hz0 hz1 hz2 rfl (by decide) _ _ _ rfl hrow ⟨wr.heap.size, 0, none⟩ 1 1 (sessionEnc ls[k]) rfl rfl hnew hone (by unfold maxLen; omega) (by omega) hbase ?_)
        intro v' w4 hown hgrow _
        obtain ⟨va', vc', rfl⟩ := row_shape hown
        rw [← sessionR_snoc] at hown
        have B4 := hid (sessionR_down B3.out hrow hgrow (Nat.le_refl _) B3.out.size)
        have R4 := hid hown
        have HL2 : Hid ((L ++ [ls[k]]).length = L.length + 1) := by show _ = _; simp
        clear hown hgrow hrow hbase B3 hnew hone
        go_wp2
        go_roundg q
        case measure => omega
        case rel =>
          refine ⟨k + 1, by omega, by go_num, va', vc', by rw [HST.out, HL2.out], B4, ?_⟩
          rw [HST.out, HL2.out]
          exact R4
end Go.Proofs.YtoanhjjigbjecaaGreatDoor
