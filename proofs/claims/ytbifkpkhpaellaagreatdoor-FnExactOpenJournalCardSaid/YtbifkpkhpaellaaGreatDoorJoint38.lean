/-
  The walk of spec.l07Frames: the frames of a log's entries.
  The walk of spec.JournalOk.
  The walk of spec.JournalText.
-/
import Derived.Test.YtbifkpkhpaellaaGreatDoorJoint37
import Derived.Test.YtbifkpkhpaellaaGreatDoorJoint1
import Derived.Test.YtbifkpkhpaellaaGreatDoorJoint19
namespace Go.Proofs.YtbifkpkhpaellaaGreatDoor
open Go.RowKit Go.Sort

theorem bytes_news {w : World} {g : Nat} {F : ByteArray} (h : ∀ j (hj : j < F.size), w.cell? ⟨g, j, none⟩ = some (.int .u8 (F[j].toNat : Int))) : ∀ j u, (cs F.data.toList)[j]? = some u → w.cell? ((⟨g, 0, none⟩ : Addr).add j) = some u := by
  intro j u hu
  simp only [cs, List.getElem?_map, Option.map_eq_some_iff] at hu
  obtain ⟨b, hb, rfl⟩ := hu
  obtain ⟨hj, rfl⟩ := List.getElem?_eq_some_iff.1 hb
  have hj' : j < F.size := by simpa using hj
  rw [add_at, h j hj']
  simp
  rfl
theorem cs_ones (l : List UInt8) : ∀ u ∈ cs l, u.oneCell' = true := by
  intro u hu
  simp only [cs, List.mem_map] at hu
  obtain ⟨b, _, rfl⟩ := hu
  rfl
theorem rows_below {x y : World} {base size n : Nat} {t : TypeId} {v : Value} {xs : List Value} (h : x.ownsRow base t size v n xs) (hb : Below x.heap.size x y) : y.ownsRow base t size v n xs := by
  refine ⟨h.1, h.2.imp id ?_⟩
  rintro ⟨g, cap, cur, a, b, c, r⟩
  have hk : BlockIs x g t cur.toList := by unfold BlockIs; rw [c]
  have := hk.on hb hk.lt
  unfold BlockIs at this
  exact ⟨g, cap, cur, a, b, by rw [this], r⟩
theorem block_past {x y : World} {b : Nat} {t : TypeId} {cs : List Value} {r : Option Nat} (h : BlockIs x b t cs) (hg : x.grownBy y r) (hr : ∀ j, r = some j → b < j) : BlockIs y b t cs := by
  unfold BlockIs
  rw [hg.block b h.lt (fun e => by have := hr b e.symm; omega)]
  exact h
theorem frames_info5 : (Tryz.prog.info? 5).map (fun i => (i.zero, i.size, i.bytes)) = some (some (.int .u8 0), 1, 1) := by kernel_rfl

set_option maxRecDepth 1000000 in
set_option maxHeartbeats 2000000 in
theorem l07Frames_any (s t : Int) (ao : Option Addr) (l : List EntD) (cap k0 : Nat) (hk0 : k0 ≤ l.length) (hok : logOk s t l = true) (w : World) (ha : EntsAt w ao l) :
    Calls Tryz.prog 70 #[.agg #[.int .i64 s, .int .i64 t, .slice ao l.length cap], .int .i64 k0] w fun e w' => e = .returned (.string (frms (s + 1 + k0) (l.drop k0))) ∧ Below w.heap.size w w' := by
  obtain ⟨i0, hi, hz0, hz1, hz2⟩ := info_parts frames_info5
  have hbd := logOk_iff.1 hok
  have HA := hid ha
  have HOK := hid hok
  have hx0 : BlockIs (w.alloc (.cells #[.int .i64 s, .int .i64 t, .slice ao l.length cap] 28)) w.heap.size 28 [.int .i64 s, .int .i64 t, .slice ao l.length cap] := heap_alloc_new w _
  have X0 := hid (hx0.on (below_more (Below.refl _ _) (.cells #[] 5)) hx0.lt)
  have B0 := hid (below_more (below_more (Below.refl w.heap.size w) (.cells #[.int .i64 s, .int .i64 t, .slice ao l.length cap] 28)) (.cells #[] 5))
  have hsz : (w.alloc (.cells #[.int .i64 s, .int .i64 t, .slice ao l.length cap] 28)).heap.size = w.heap.size + 1 := by simp [World.alloc, -World.alloc_eq]
  have O0 : Hid (World.ownsRow ((w.alloc (.cells #[.int .i64 s, .int .i64 t, .slice ao l.length cap] 28)).alloc (.cells #[] 5)) (w.heap.size + 1) 5 1 (.slice (some ⟨w.heap.size + 1, 0, none⟩) 0 0) 0 (cs [])) := by
    have := World.ownsRow_made (w.alloc (.cells #[.int .i64 s, .int .i64 t, .slice ao l.length cap] 28)) (size := 1) (e := 5) #[] 0 (Nat.le_refl _) (Nat.zero_le _) rfl
    rw [hsz] at this
    exact this
  clear ha hok hx0 hsz
  go_enter Tryz.func70, Tryz.ntmps70
  go_wp2
  go_loopw [5, 6, 7, 8, 9, 10] (fun v i _ _ _ _ wr => ∃ (k : Nat) (acc : List UInt8) (va : Option Addr) (vc : Nat), k0 ≤ k ∧ k ≤ l.length ∧ i = .int .i64 k ∧ v = .slice va acc.length vc ∧ Hid (acc = (frms (s + 1 + k0) ((l.drop k0).take (k - k0))).data.toList) ∧ Hid (Below w.heap.size w wr) ∧ Hid (BlockIs wr w.heap.size 28 [.int .i64 s, .int .i64 t, .slice ao l.length cap]) ∧ Hid (wr.ownsRow (w.heap.size + 1) 5 1 (.slice va acc.length vc) acc.length (cs acc))) (fun _ i _ _ _ _ _ => l.length + 1 - (intOf i).toNat)
  case atStart => exact ⟨k0, [], _, _, Nat.le_refl _, hk0, rfl, rfl, (show _ = _ by rw [Nat.sub_self]; rfl), B0, X0, O0⟩
  case round =>
    clear B0 X0 O0
    obtain ⟨k, acc, va, vc, hk1, hk2, rfl, rfl, HAC, BR, XR, HO⟩ := hrel
    have c2 := XR.out.cell (j := 2) rfl
    by_cases hlt : k < l.length
    · have hlt' : (k : Int) < (l.length : Int) := by omega
      obtain ⟨gb, off, hao, hc⟩ := HA.out.on BR.out (by intro e; rw [e] at hlt; simp at hlt)
      obtain ⟨e0, e1, e2⟩ := hc k hlt
      obtain ⟨d, hd⟩ : ∃ d, l[k] = d := ⟨_, rfl⟩
      obtain ⟨J, hJ⟩ : ∃ J, s + 1 + (k : Int) = J := ⟨_, rfl⟩
      have hdo : entryOk d = true := by rw [← hd]; exact termsOk_at hbd.2.2.2.2 k hlt
      have hTs := entText_size (i := J) (d := d) (by omega) hdo
      have hTy := entryText_yes (i := J) hdo (within_iff.2 (by omega))
      rw [hd] at e0 e1 e2
      have HAN : Hid ((frms (s + 1 + k0) ((l.drop k0).take (k + 1 - k0))).data.toList = acc ++ (frm (entText J d)).data.toList) := (show _ = _ by
        have x1 : l[k0 + (k - k0)]'(by omega) = d := by rw [← hd]; congr 1; omega
        have x2 : s + 1 + (k0 : Int) + ((k - k0 : Nat) : Int) = J := by omega
        rw [show k + 1 - k0 = (k - k0) + 1 by omega, frms_take _ _ _ (by simp; omega), ByteArray.data_append, Array.toList_append, ← HAC.out, List.getElem_drop, x1, x2])
      have CE' := fun D os => Calls.regrown_of (w := wr) (d := D) (os := os) (specEntryText_any J d (by have := (entryOk_bd hdo).2.2.2.2; omega) (grow (redrawn wr D) os))
      rw [hTy] at CE'
      obtain ⟨T, hT⟩ : ∃ T, entText J d = T := ⟨_, rfl⟩
      rw [hT] at hTs CE' HAN
      have CE := hid CE'
      have hw1 : wrap64 (s + 1) = s + 1 := IntWalk.wrap64_in _ (by omega)
      have hw2 : wrap64 (s + 1 + (k : Int)) = J := (IntWalk.wrap64_in _ (by omega)).trans hJ
      have hacl : acc.length ≤ 9000 := by
        have h9 := frms_len (L := (l.drop k0).take (k - k0)) (fun e he => termsOk_mem hbd.2.2.2.2 e (List.mem_of_mem_drop (List.mem_of_mem_take he))) (s + 1 + k0) (by simp; omega)
        have h8 : ((l.drop k0).take (k - k0)).length ≤ 60 := by simp; omega
        rw [HAC.out]
        simp
        omega
      have q0 := cell_regrown (XR.out.cell (j := 0) rfl)
      have q2 := cell_regrown c2
      subst hao
      have m0 := cell_regrown e0
      have m1 := cell_regrown e1
      have m2 := cell_regrown e2
      clear hc e0 e1 e2 CE' hTy hdo hd hT HAC
      go_wp2
      refine wp_region_quiet_below (by kernel_rfl) (by kernel_rfl) ?_
      repeat (first | go_big_quiet_step (first | (go_at_call 84; exact CE.out _ _) | fail) | quiet_step (first | (go_at_call 84; exact CE.out _ _) | fail))
      refine wpQuiet_nil ?_
      intro _ hw'
      obtain ⟨⟨dq, osq⟩, hw''⟩ := hw'
      subst hw''
      have bx := below_regrown wr dq osq
      have B2 := hid (below_via BR.out bx)
      have X2 := hid (XR.out.on bx XR.out.lt)
      have O2 := hid (rows_below HO.out bx)
      generalize Go.Sort.grow (redrawn wr dq) osq = wq at bx B2 X2 O2 ⊢
      clear bx BR XR HO q0 q2 m0 m1 m2 CE c2 hw1 hw2
      go_wp2_with fail
      refine (specFrame_yes T hTs.1 (by omega) _).mono ?_
      rintro e w6 ⟨rfl, b6⟩
      have B3 := hid (below_via B2.out b6)
      have X3 := hid (X2.out.on b6 X2.out.lt)
      have O3 := hid (rows_below O2.out b6)
      have hFs := frm_len (t := T) (by omega)
      clear b6 B2 X2 O2
      obtain ⟨F, hF⟩ : ∃ F, frm T = F := ⟨_, rfl⟩
      rw [hF] at HAN hFs ⊢
      obtain ⟨bcap, w7, hcv, hbc, b7, hsz7, hcell, _⟩ := bytes_of F w6
      have hnews := bytes_news hcell
      have hnl : (cs F.data.toList).length = F.size * 1 := by rw [cs_length, Nat.mul_one]; simp
      have hone := cs_ones F.data.toList
      have hrow := rows_below O3.out b7
      have hbase : w.heap.size + 1 ≤ w7.heap.size := by have := X3.out.lt; have := b7.size; omega
      clear hcell hF
      go_wp2_with (at_builtin; refine wpList_append_own _ rfl (.tmp 39) (.tmp 41) 100 rfl (w.heap.size + 1) 5 i0 (.int .u8 0) 1 1 Tryz.underlying100 hi hz0 hz1 hz2 rfl (by decide) _ _ _ rfl hrow ⟨w6.heap.size, 0, none⟩ F.size bcap (cs F.data.toList) rfl hnl hnews hone (by unfold maxLen; omega) (by omega) hbase ?_)
      intro v' w8 hown' hgrow _
      obtain ⟨va', vc', rfl⟩ := row_shape hown'
      have hlow : ∀ j, (Value.slice va acc.length vc).ownBlock = some j → w.heap.size + 1 ≤ j := fun j hj => (hrow.lt j hj).1
      have B4 := hid ((below_via B3.out b7).grown hgrow (below_via B3.out b7).size (fun j hj => by have := hlow j hj; omega))
      have X4 := hid (block_past (X3.out.on b7 X3.out.lt) hgrow (fun j hj => by have := hlow j hj; omega))
      rw [← cs_append] at hown'
      have hal : acc.length + F.size = (acc ++ F.data.toList).length := by simp
      rw [hal] at hown' ⊢
      have O4 := hid hown'
      clear hown' hgrow hlow hrow hnews hone hnl hbase hcv hbc b7 hsz7 B3 X3 O3 hal
      obtain ⟨acc', hacc⟩ : ∃ x, acc ++ F.data.toList = x := ⟨_, rfl⟩
      rw [hacc] at O4 HAN ⊢
      go_wp2
      go_roundw
      case rel => exact ⟨k + 1, acc', va', vc', by omega, by omega, by go_num, rfl, HAN.out.symm, B4, X4, O4⟩
      case measure => simp [intOf]; omega
    · have hge : ¬ (k : Int) < (l.length : Int) := by omega
      have hcv := text_of_row (P := Tryz.prog) Tryz.underlying100 Tryz.underlying5 Tryz.underlying9 HO.out
      have hfin : Hid ((⟨acc.toArray⟩ : ByteArray) = frms (s + 1 + k0) (l.drop k0)) := (show _ = _ by
        rw [HAC.out, List.take_of_length_le (by simp; omega)])
      clear HAC HO
      go_wp2
      go_ret
      exact ⟨by rw [hfin.out]; rfl, BR.out⟩
end Go.Proofs.YtbifkpkhpaellaaGreatDoor

namespace Go.Proofs.YtbifkpkhpaellaaGreatDoor
open Go.RowKit

set_option maxRecDepth 1000000 in
set_option maxHeartbeats 1000000 in
theorem specJournalOk_any (n tm vt s t : Int) (ao : Option Addr) (l : List EntD) (cap : Nat) (hl : l.length ≤ 1048576) (hsm : ∀ f ∈ l, f.data.size ≤ 1048576) (w : World) (ha : EntsAt w ao l) :
    Calls Tryz.prog 68 #[jourV n tm vt s t (.slice ao l.length cap)] w fun e w' => e = .returned (.bool (jourOk n tm vt s t l)) ∧ Below w.heap.size w w' := by
  have HB := hid (below_more (Below.refl w.heap.size w) (.cells #[.int .i64 n, .int .i64 tm, .int .i64 vt, .int .i64 s, .int .i64 t, .slice ao l.length cap] 30))
  have HA := hid ha
  have HS := hid hsm
  clear ha hsm
  cases h1 : within n 0 999 with
  | false =>
    have HJ : Hid (jourOk n tm vt s t l = false) := (show _ = _ by simp [jourOk, h1])
    go_enter Tryz.func68, Tryz.ntmps68
    go_wp2_with fail
    refine (l01In_any n 0 999 _).mono ?_
    rintro e w1 ⟨rfl, hw⟩
    rw [hw, h1]
    clear hw w1 h1
    go_wp2
    go_ret
    exact ⟨by rw [HJ.out]; rfl, HB.out⟩
  | true =>
    cases h2 : within tm 0 100000 with
    | false =>
      have HJ : Hid (jourOk n tm vt s t l = false) := (show _ = _ by simp [jourOk, h2])
      go_enter Tryz.func68, Tryz.ntmps68
      go_wp2_with fail
      refine (l01In_any n 0 999 _).mono ?_
      rintro e w1 ⟨rfl, hw⟩
      rw [hw, h1]
      clear hw w1 h1
      go_wp2_with fail
      refine (l01In_any tm 0 100000 _).mono ?_
      rintro e w1 ⟨rfl, hw⟩
      rw [hw, h2]
      clear hw w1 h2
      go_wp2
      go_ret
      exact ⟨by rw [HJ.out]; rfl, HB.out⟩
    | true =>
      cases h3 : within vt 0 4 with
      | false =>
        have HJ : Hid (jourOk n tm vt s t l = false) := (show _ = _ by simp [jourOk, h3])
        go_enter Tryz.func68, Tryz.ntmps68
        go_wp2_with fail
        refine (l01In_any n 0 999 _).mono ?_
        rintro e w1 ⟨rfl, hw⟩
        rw [hw, h1]
        clear hw w1 h1
        go_wp2_with fail
        refine (l01In_any tm 0 100000 _).mono ?_
        rintro e w1 ⟨rfl, hw⟩
        rw [hw, h2]
        clear hw w1 h2
        go_wp2_with fail
        refine (l01In_any vt 0 4 _).mono ?_
        rintro e w1 ⟨rfl, hw⟩
        rw [hw, h3]
        clear hw w1 h3
        go_wp2
        go_ret
        exact ⟨by rw [HJ.out]; rfl, HB.out⟩
      | true =>
        have HJ : Hid (jourOk n tm vt s t l = logOk s t l) := (show _ = _ by simp [jourOk, h1, h2, h3])
        go_enter Tryz.func68, Tryz.ntmps68
        go_wp2_with fail
        refine (l01In_any n 0 999 _).mono ?_
        rintro e w1 ⟨rfl, hw⟩
        rw [hw, h1]
        clear hw w1 h1
        go_wp2_with fail
        refine (l01In_any tm 0 100000 _).mono ?_
        rintro e w1 ⟨rfl, hw⟩
        rw [hw, h2]
        clear hw w1 h2
        go_wp2_with fail
        refine (l01In_any vt 0 4 _).mono ?_
        rintro e w1 ⟨rfl, hw⟩
        rw [hw, h3]
        clear hw w1 h3
        go_wp2_with fail
        refine (specLogOk_any s t ao l cap hl HS.out _ (HA.out.on HB.out)).mono ?_
        rintro e w1 ⟨rfl, b1⟩
        have B1 := hid (below_via HB.out b1)
        clear b1 HB
        obtain ⟨q, hq⟩ : ∃ q, logOk s t l = q := ⟨_, rfl⟩
        rw [hq] at HJ ⊢
        clear hq
        go_wp2
        go_ret
        exact ⟨by rw [HJ.out]; rfl, B1.out⟩
end Go.Proofs.YtbifkpkhpaellaaGreatDoor

namespace Go.Proofs.YtbifkpkhpaellaaGreatDoor
open Go.RowKit Go.Sort

set_option maxRecDepth 1000000 in
set_option maxHeartbeats 2000000 in
theorem specJText_any (n tm vt s t : Int) (ao : Option Addr) (l : List EntD) (cap : Nat) (hl : l.length ≤ 1048576) (hsm : ∀ f ∈ l, f.data.size ≤ 1048576) (w : World) (ha : EntsAt w ao l) :
    Calls Tryz.prog 44 #[jourV n tm vt s t (.slice ao l.length cap)] w fun e w' => e = .returned (.tuple #[.string (jourText n tm vt s t l).1, .bool (jourText n tm vt s t l).2]) ∧ Below w.heap.size w w' := by
  have HB := hid (below_more (Below.refl w.heap.size w) (.cells #[.int .i64 n, .int .i64 tm, .int .i64 vt, .int .i64 s, .int .i64 t, .slice ao l.length cap] 30))
  have HX := hid (show BlockIs (w.alloc (.cells #[.int .i64 n, .int .i64 tm, .int .i64 vt, .int .i64 s, .int .i64 t, .slice ao l.length cap] 30)) w.heap.size 30 [.int .i64 n, .int .i64 tm, .int .i64 vt, .int .i64 s, .int .i64 t, .slice ao l.length cap] from heap_alloc_new w _)
  have HA := hid ha
  have HS := hid hsm
  clear ha hsm
  go_enter Tryz.func44, Tryz.ntmps44
  go_wp2_with fail
  refine (specJournalOk_any n tm vt s t ao l cap hl HS.out _ (HA.out.on HB.out)).mono ?_
  rintro e w1 ⟨rfl, b1⟩
  have B1 := hid (below_via HB.out b1)
  have X1 := hid (HX.out.on b1 HX.out.lt)
  clear b1 HB HX
  cases hJ : jourOk n tm vt s t l with
  | false =>
    have hr := hid (jourText_no hJ)
    go_wp2
    go_ret2
    exact ⟨by rw [hr.out]; rfl, B1.out⟩
  | true =>
    have hr := hid (jourText_yes hJ)
    obtain ⟨hn, ⟨htm, hvt⟩, hlg⟩ := jourOk_iff.1 hJ
    have hbd := logOk_iff.1 hlg
    have hz1 := rec2_size 66 (a := s) (b := t) (by omega) (by omega)
    have hz2 := rec2_size 72 (a := tm) (b := vt) (by omega) (by omega)
    have hf1 := frm_len (t := rec2 66 s t) (by omega)
    have hf2 := frm_len (t := rec2 72 tm vt) (by omega)
    have hf3 := frms_len (termsOk_mem hbd.2.2.2.2) (s + 1) (by omega)
    have CH' := fun W => l07Hard_any tm vt (by omega) (by omega) W
    have CF' := fun W he => l07Frames_any s t ao l cap 0 (Nat.zero_le _) hlg W he
    rw [show frms (s + 1 + ((0 : Nat) : Int)) (l.drop 0) = frms (s + 1) l by simp] at CF'
    have hjt : jText tm vt s t l = frm (rec2 66 s t) ++ frm (rec2 72 tm vt) ++ frms (s + 1) l := rfl
    rw [hjt] at hr
    clear hjt hlg
    obtain ⟨R1, hR1⟩ : ∃ x, rec2 66 s t = x := ⟨_, rfl⟩
    rw [hR1] at hz1 hf1 hr
    obtain ⟨ms, hms⟩ := nat_of hbd.1.1
    obtain ⟨mt, hmt⟩ := nat_of hbd.2.1.1
    have h1 := vb5 s (by omega)
    have h2 := vb5 t (by omega)
    have hq : rec2 66 s t = ⟨#[66]⟩ ++ ⟨(vb s.toNat).toArray⟩ ++ ⟨(vb t.toNat).toArray⟩ := rfl
    have cV1' := l01Var_any ms (by omega)
    have cV2' := l01Var_any mt (by omega)
    rw [show ms = s.toNat by omega, show ((s.toNat : Nat) : Int) = s by omega] at cV1'
    rw [show mt = t.toNat by omega, show ((t.toNat : Nat) : Int) = t by omega] at cV2'
    obtain ⟨V1, e1⟩ : ∃ V : ByteArray, ⟨(vb s.toNat).toArray⟩ = V := ⟨_, rfl⟩
    obtain ⟨V2, e2⟩ : ∃ V : ByteArray, ⟨(vb t.toNat).toArray⟩ = V := ⟨_, rfl⟩
    rw [e1] at cV1' hq h1
    rw [e2] at cV2' hq h2
    obtain ⟨A1, q1⟩ : ∃ A : ByteArray, ⟨#[66]⟩ ++ V1 = A := ⟨_, rfl⟩
    have z1 : A1.size = 1 + V1.size := by rw [← q1, ByteArray.size_append]; rfl
    rw [q1, hR1] at hq
    have hs1 : ∀ w, (Op.stringOp .add ⟨#[66]⟩ V1).run Tryz.prog w = .ok (.string A1) w := fun w => by rw [run_string_add_sum w _ _ (by rw [show (⟨#[66]⟩ : ByteArray).size = 1 from rfl]; omega), q1]
    have hs2 : ∀ w, (Op.stringOp .add A1 V2).run Tryz.prog w = .ok (.string R1) w := fun w => by rw [run_string_add_sum w _ _ (by omega), hq]
    have CV1 := hid (fun D os => Calls.regrown_of (d := D) (os := os) (cV1' (grow (redrawn w1 D) os)))
    have CV2 := hid (fun D os => Calls.regrown_of (d := D) (os := os) (cV2' (grow (redrawn w1 D) os)))
    have CR := hid (fun D os => Calls.regrown_of (d := D) (os := os) (specFrame_yes R1 hz1.1 (by omega) (grow (redrawn w1 D) os)))
    obtain ⟨F1, hF1⟩ : ∃ x, frm R1 = x := ⟨_, rfl⟩
    obtain ⟨F2, hF2⟩ : ∃ x, frm (rec2 72 tm vt) = x := ⟨_, rfl⟩
    obtain ⟨F3, hF3⟩ : ∃ x, frms (s + 1) l = x := ⟨_, rfl⟩
    rw [hF1] at CR hf1 hr
    rw [hF2] at CH' hf2 hr
    rw [hF3] at CF' hf3 hr
    obtain ⟨G1, hG1⟩ : ∃ x, F1 ++ F2 = x := ⟨_, rfl⟩
    rw [hG1] at hr
    obtain ⟨G2, hG2⟩ : ∃ x, G1 ++ F3 = x := ⟨_, rfl⟩
    rw [hG2] at hr
    have zg1 : G1.size = F1.size + F2.size := by rw [← hG1, ByteArray.size_append]
    have zg2 : G2.size = G1.size + F3.size := by rw [← hG2, ByteArray.size_append]
    have hs3 : ∀ w, (Op.stringOp .add F1 F2).run Tryz.prog w = .ok (.string G1) w := fun w => by rw [run_string_add_sum w _ _ (by omega), hG1]
    have hs4 : ∀ w, (Op.stringOp .add G1 F3).run Tryz.prog w = .ok (.string G2) w := fun w => by rw [run_string_add_sum w _ _ (by omega), hG2]
    have hle : ¬ (20000 : Int) < (G2.size : Int) := by omega
    have HCF := hid CF'
    have HCH := hid CH'
    clear cV1' cV2' e1 e2 q1 hq hR1 hms hmt hF1 hF2 hF3 hG1 hG2 CF' CH' z1 zg1 zg2 hJ hn htm hvt hbd hz1 hz2 hf1 hf2 hf3 h1 h2
    have r3 := cell_regrown (X1.out.cell (j := 3) rfl)
    have r4 := cell_regrown (X1.out.cell (j := 4) rfl)
    go_wp2
    refine wp_region_quiet_below (by kernel_rfl) (by kernel_rfl) ?_
    repeat (first | go_big_quiet_step (first | (go_at_call 62; with_reducible exact CV1.out _ _) | (go_at_call 62; with_reducible exact CV2.out _ _) | (go_at_call 43; with_reducible exact CR.out _ _) | fail) | quiet_step (first | (go_at_call 62; with_reducible exact CV1.out _ _) | (go_at_call 62; with_reducible exact CV2.out _ _) | (go_at_call 43; with_reducible exact CR.out _ _) | fail))
    refine wpQuiet_nil ?_
    intro _ hw'
    obtain ⟨⟨dq, osq⟩, hw''⟩ := hw'
    subst hw''
    have bx := below_regrown w1 dq osq
    have B2 := hid (below_via B1.out bx)
    have X2 := hid (X1.out.on bx X1.out.lt)
    generalize Go.Sort.grow (redrawn w1 dq) osq = w2 at bx B2 X2 ⊢
    clear bx B1 X1 r3 r4 CV1 CV2 CR hs1 hs2
    have r1 := cell_regrown (X2.out.cell (j := 1) rfl)
    have r2 := cell_regrown (X2.out.cell (j := 2) rfl)
    have r3 := cell_regrown (X2.out.cell (j := 3) rfl)
    have r4 := cell_regrown (X2.out.cell (j := 4) rfl)
    have r5 := cell_regrown (X2.out.cell (j := 5) rfl)
    have CH := hid (fun D os => Calls.regrown_of (w := w2) (d := D) (os := os) (HCH.out _))
    have CF := hid (fun D os => Calls.regrown_of (w := w2) (d := D) (os := os) (HCF.out _ (HA.out.on (below_via B2.out (below_regrown w2 D os)))))
    clear HCF HCH
    go_wp2
    refine wp_region_quiet_below (by kernel_rfl) (by kernel_rfl) ?_
    repeat (first | go_big_quiet_step (first | (go_at_call 69; exact CH.out _ _) | (go_at_call 70; exact CF.out _ _) | fail) | quiet_step (first | (go_at_call 69; exact CH.out _ _) | (go_at_call 70; exact CF.out _ _) | fail))
    refine wpQuiet_nil ?_
    intro _ hw'
    obtain ⟨⟨dq2, osq2⟩, hw''⟩ := hw'
    subst hw''
    have bx := below_regrown w2 dq2 osq2
    have B3 := hid (below_via B2.out bx)
    generalize Go.Sort.grow (redrawn w2 dq2) osq2 = w3 at bx B3 ⊢
    clear bx B2 X2 r1 r2 r3 r4 r5 CF CH hs3 hs4
    go_wp2
    go_ret2
    exact ⟨by rw [hr.out]; rfl, B3.out⟩
end Go.Proofs.YtbifkpkhpaellaaGreatDoor
