/-
  The walk of impl.Perform: what it answers.
  The walk of spec.DrawPlaces: twelve numbers below ten thousand, in memory of their own.
-/
import Derived.Test.YtohpkegbmhmjeaaGreatDoorJoint1
import Derived.Test.YtohpkegbmhmjeaaGreatDoorJoint26
import Derived.Test.YtohpkegbmhmjeaaGreatDoorJoint34
import Derived.Test.YtohpkegbmhmjeaaGreatDoorJoint41
import Derived.Test.YtohpkegbmhmjeaaGreatDoorJoint45
import Derived.WalkKit
import Derived.Test.YtohpkegbmhmjeaaGreatDoorJoint2
import Derived.Test.YtohpkegbmhmjeaaGreatDoorJoint24
import Derived.Test.YtohpkegbmhmjeaaGreatDoorJoint3
namespace Go.Proofs.YtohpkegbmhmjeaaGreatDoor
open Go.RowKit

set_option maxRecDepth 1000000 in
set_option maxHeartbeats 8000000 in
theorem implPerform_any (ao bo : Option Addr) (ls : List SessionD) (li : List ItemD) (ac bc : Nat) (index : Int) (x : CommandD) (hl : ls.length ≤ 1048576) (hl2 : li.length ≤ 1048576) (w : World) (ht : Lib.TabIs Tryz.prog w "internal/strconv.uint64pow10" .u64 Lib.pow10Tab) (ha : SessionsAt w ao ls) (hi : ItemsAt w bo li) :
    Calls Tryz.prog 9 #[.agg #[.slice ao ls.length ac, .slice bo li.length bc], .int .i64 index, .agg #[.int .i64 x.op, .int .i64 x.token, .int .i64 x.seq, .string x.key, .string x.val, .int .i64 x.ver]] w fun e w' => PerfDid (performD ls li index x) w e w' := by
  have h3 := four_log w (.cells #[.slice ao ls.length ac, .slice bo li.length bc] 27) (.cells #[.int .i64 x.op, .int .i64 x.token, .int .i64 x.seq, .string x.key, .string x.val, .int .i64 x.ver] 29) (.cells #[.slice none 0 0, .slice none 0 0] 27)
  obtain ⟨W0, hW0⟩ : ∃ W, ((w.alloc (.cells #[.slice ao ls.length ac, .slice bo li.length bc] 27)).alloc (.cells #[.int .i64 x.op, .int .i64 x.token, .int .i64 x.seq, .string x.key, .string x.val, .int .i64 x.ver] 29)).alloc (.cells #[.slice none 0 0, .slice none 0 0] 27) = W := ⟨_, rfl⟩
  rw [hW0] at h3
  obtain ⟨hb0, hx0, hx1, hx2⟩ := h3
  have B0 := hid hb0
  have X0 := hid (show BlockIs W0 w.heap.size 27 [.slice ao ls.length ac, .slice bo li.length bc] from hx0)
  have X1 := hid (show BlockIs W0 (w.heap.size + 1) 29 [.int .i64 x.op, .int .i64 x.token, .int .i64 x.seq, .string x.key, .string x.val, .int .i64 x.ver] from hx1)
  have X2 := hid (show BlockIs W0 (w.heap.size + 1 + 1) 27 [.slice none 0 0, .slice none 0 0] from hx2)
  have HS := hid (ha.on hb0)
  have HI := hid (hi.on hb0)
  have HT := hid ht
  have n1 := fun w => implCommandOk_any x w
  have n2 := fun W hA hI => implKeepOk_any ao bo ls li ac bc hl hl2 W hA hI
  have a0 := X0.out.cell (j := 0) rfl
  have a1 := X0.out.cell (j := 1) rfl
  clear hb0 hx0 hx1 hx2 ha hi ht
  have NO : Hid (∀ (wa : World) (PP : Prop), performD ls li index x = ⟨[], [], ⟨#[]⟩, false⟩ → Below W0.heap.size W0 wa → (PerfDid (performD ls li index x) w (.returned (.tuple #[.agg #[.slice none 0 0, .slice none 0 0], .string ⟨#[]⟩, .bool false])) ((wa.setCell ⟨w.heap.size + 1 + 1, 0, none⟩ (.slice none 0 0)).setCell ⟨w.heap.size + 1 + 1, 1, none⟩ (.slice none 0 0)) → PP) → PP) := by
    intro wa PP h1 h2 h3
    refine h3 ?_
    rw [h1]
    exact perf_none (((below_via B0.out h2).setCell (p := ⟨w.heap.size + 1 + 1, 0, none⟩) (by show _ ≤ _ + 1 + 1; omega) _).setCell (p := ⟨w.heap.size + 1 + 1, 1, none⟩) (by show _ ≤ _ + 1 + 1; omega) _)
  go_enter Tryz.func9, Tryz.ntmps9
  go_wp2_with fail
  refine Calls.mono (n2 _ HS.out HI.out) ?_
  rintro e wk ⟨rfl, bk⟩
  have BK := hid bk
  have x0 := (X1.out.on bk X1.out.lt).cell (j := 0) rfl
  have x1 := (X1.out.on bk X1.out.lt).cell (j := 1) rfl
  have x2 := (X1.out.on bk X1.out.lt).cell (j := 2) rfl
  have x3 := (X1.out.on bk X1.out.lt).cell (j := 3) rfl
  have x4 := (X1.out.on bk X1.out.lt).cell (j := 4) rfl
  have x5 := (X1.out.on bk X1.out.lt).cell (j := 5) rfl
  clear bk n2
  cases hko : keepOk ls li with
  | false =>
    have r0 := (X2.out.on BK.out X2.out.lt).cell (j := 0) rfl
    have r1 := (X2.out.on BK.out X2.out.lt).cell (j := 1) rfl
    have f0 := (X2.out.on BK.out X2.out.lt).thaw 0
    have f1 := (X2.out.on BK.out X2.out.lt).thaw 1
    go_wp2
    refine bodyPost_ret (v := .tuple #[.agg #[.slice none 0 0, .slice none 0 0], .string ⟨#[]⟩, .bool false]) (by simp [results, Tryz.results9, go_sem, r0, r1]) rfl ?_
    exact NO.out _ _ (by rw [performD, if_neg (by simp [mayDo, hko])]) BK.out id
  | true =>
    by_cases h1 : index < 1
    · have hwn : within index 1 400000 = false := by simp only [within, Bool.and_eq_false_iff, decide_eq_false_iff_not]; omega
      have r0 := (X2.out.on BK.out X2.out.lt).cell (j := 0) rfl
      have r1 := (X2.out.on BK.out X2.out.lt).cell (j := 1) rfl
      have f0 := (X2.out.on BK.out X2.out.lt).thaw 0
      have f1 := (X2.out.on BK.out X2.out.lt).thaw 1
      go_wp2
      refine bodyPost_ret (v := .tuple #[.agg #[.slice none 0 0, .slice none 0 0], .string ⟨#[]⟩, .bool false]) (by simp [results, Tryz.results9, go_sem, r0, r1]) rfl ?_
      exact NO.out _ _ (by rw [performD, if_neg (by simp [mayDo, hwn])]) BK.out id
    by_cases h4 : (400000 : Int) < index
    · have hwn : within index 1 400000 = false := by simp only [within, Bool.and_eq_false_iff, decide_eq_false_iff_not]; omega
      have r0 := (X2.out.on BK.out X2.out.lt).cell (j := 0) rfl
      have r1 := (X2.out.on BK.out X2.out.lt).cell (j := 1) rfl
      have f0 := (X2.out.on BK.out X2.out.lt).thaw 0
      have f1 := (X2.out.on BK.out X2.out.lt).thaw 1
      go_wp2
      refine bodyPost_ret (v := .tuple #[.agg #[.slice none 0 0, .slice none 0 0], .string ⟨#[]⟩, .bool false]) (by simp [results, Tryz.results9, go_sem, r0, r1]) rfl ?_
      exact NO.out _ _ (by rw [performD, if_neg (by simp [mayDo, hwn])]) BK.out id
    cases hco : commandOk x with
    | false =>
      rw [hco] at n1
      go_wp2_with fail
      refine Calls.mono (n1 _) ?_
      rintro e wc ⟨rfl, bc'⟩
      have BC := hid (below_via BK.out bc')
      clear bc'
      have r0 := (X2.out.on BC.out X2.out.lt).cell (j := 0) rfl
      have r1 := (X2.out.on BC.out X2.out.lt).cell (j := 1) rfl
      have f0 := (X2.out.on BC.out X2.out.lt).thaw 0
      have f1 := (X2.out.on BC.out X2.out.lt).thaw 1
      go_wp2
      refine bodyPost_ret (v := .tuple #[.agg #[.slice none 0 0, .slice none 0 0], .string ⟨#[]⟩, .bool false]) (by simp [results, Tryz.results9, go_sem, r0, r1]) rfl ?_
      exact NO.out _ _ (by rw [performD, if_neg (by simp [mayDo, hco])]) BC.out id
    | true =>
      rw [hco] at n1
      have hm : mayDo ls li index x = true := by simp only [mayDo, within, Bool.and_eq_true, decide_eq_true_eq]; exact ⟨hko, by omega, hco⟩
      have HP : Hid (performD ls li index x = doneD ls li index x) := by show _ = _; rw [performD, if_pos hm]
      go_wp2_with fail
      refine Calls.mono (n1 _) ?_
      rintro e wc ⟨rfl, bc'⟩
      have BC := hid (below_via BK.out bc')
      clear bc' n1 x0 x1 x2 x3 x4 x5 a0 a1
      have x0 := (X1.out.on BC.out X1.out.lt).cell (j := 0) rfl
      have x1 := (X1.out.on BC.out X1.out.lt).cell (j := 1) rfl
      have x2 := (X1.out.on BC.out X1.out.lt).cell (j := 2) rfl
      have x3 := (X1.out.on BC.out X1.out.lt).cell (j := 3) rfl
      have x4 := (X1.out.on BC.out X1.out.lt).cell (j := 4) rfl
      have x5 := (X1.out.on BC.out X1.out.lt).cell (j := 5) rfl
      have a0 := (X0.out.on BC.out X0.out.lt).cell (j := 0) rfl
      have a1 := (X0.out.on BC.out X0.out.lt).cell (j := 1) rfl
      have BW := hid (below_via B0.out BC.out)
      have Y1 := hid (X1.out.on BC.out X1.out.lt)
      have Y2 := hid (X2.out.on BC.out X2.out.lt)
      have SC := hid (HS.out.on BC.out)
      have IC := hid (HI.out.on BC.out)
      clear X0 X1 X2 HS HI B0 BK BC NO hW0
      go_wp2_with fail
      refine Calls.mono (shelfOf_any ao bo ls li ac bc hko _ SC.out IC.out) ?_
      rintro e wd ⟨b, c, rfl, hbc, sd, bd⟩
      have bn := below_more (Below.refl wd.heap.size wd) (.cells #[.map (some b), .map (some c)] 65)
      have nn : BlockIs (wd.alloc (.cells #[.map (some b), .map (some c)] 65)) wd.heap.size 65 [.map (some b), .map (some c)] := heap_alloc_new wd _
      have bdn := below_via bd bn
      have sn := sd.on bn
      obtain ⟨V, hV⟩ : ∃ V, wd.alloc (.cells #[.map (some b), .map (some c)] 65) = V := ⟨_, rfl⟩
      rw [hV] at nn bdn sn
      have hwc : w.heap.size ≤ wc.heap.size := BW.out.size
      have NV := hid nn
      have SV := hid sn
      have BV := hid (below_via BW.out bdn)
      have V1 := hid (Y1.out.on bdn Y1.out.lt)
      have V2 := hid (Y2.out.on bdn Y2.out.lt)
      have v0 := V1.out.cell (j := 0) rfl
      have v1 := V1.out.cell (j := 1) rfl
      have v2 := V1.out.cell (j := 2) rfl
      have v3 := V1.out.cell (j := 3) rfl
      have v4 := V1.out.cell (j := 4) rfl
      have v5 := V1.out.cell (j := 5) rfl
      have n0 := nn.cell (j := 0) rfl
      have n1 := nn.cell (j := 1) rfl
      have HBC : Hid (w.heap.size ≤ b ∧ w.heap.size ≤ c) := ⟨by omega, by omega⟩
      clear bd bn nn bdn sd sn x0 x1 x2 x3 x4 x5 a0 a1 Y1 Y2 SC IC BW hbc
      go_wp2_with fail
      refine Calls.mono (shPerform_any w b c ls li index x hm V HT.out BV.out HBC.out SV.out) ?_
      rintro e we ⟨rfl, se, pe, be⟩
      obtain ⟨hkr, hrs, hok⟩ := done_right hm
      obtain ⟨D, hD⟩ : ∃ D, doneD ls li index x = D := ⟨_, rfl⟩
      rw [hD] at HP se hkr hrs hok ⊢
      obtain ⟨ds, di, dr, dk⟩ := D
      obtain rfl : dk = true := hok
      change ShelfAt we b c ds di at se
      change keepOk ds di = true at hkr
      have SE := hid se
      have BE := hid be
      have E2 := hid (pe.2 _ _ _ V2.out)
      have m0 := (pe.2 _ _ _ NV.out).cell (j := 0) rfl
      have m1 := (pe.2 _ _ _ NV.out).cell (j := 1) rfl
      clear hD se pe be v0 v1 v2 v3 v4 v5 n0 n1 V1 V2 NV SV BV hV hrs
      go_wp2_with fail
      refine Calls.mono (shKeep_any b c ds di hkr we SE.out) ?_
      rintro e wf ⟨va, vc, vb, vd, rfl, kf, bf⟩
      have hY := E2.out.on bf E2.out.lt
      have r0 := hY.cell (j := 0) rfl
      have r1 := hY.cell (j := 1) rfl
      have f0 := hY.thaw 0
      have f1 := hY.thaw 1
      have BZ := hid (((BE.out.trans (bf.mono BE.out.size)).setCell (p := ⟨w.heap.size + 1 + 1, 0, none⟩) (by show _ ≤ _ + 1 + 1; omega) (.slice va ds.length vc)).setCell (p := ⟨w.heap.size + 1 + 1, 1, none⟩) (by show _ ≤ _ + 1 + 1; omega) (.slice vb di.length vd))
      have KE := hid (((KRows.far (j := 0) kf hY (by decide) (by decide) (.slice va ds.length vc)).far (j := 1) (hY.set 0 (.slice va ds.length vc)) (by decide) (by decide) (.slice vb di.length vd)).down BE.out.size)
      clear kf bf hY
      go_wp2
      refine bodyPost_ret (v := .tuple #[.agg #[.slice va ds.length vc, .slice vb di.length vd], .string dr, .bool true]) (by simp [results, Tryz.results9, go_sem, r0, r1]) rfl ?_
      rw [HP.out]
      exact ⟨va, vc, vb, vd, rfl, KE.out, BZ.out⟩
end Go.Proofs.YtohpkegbmhmjeaaGreatDoor

namespace Go.Proofs.YtohpkegbmhmjeaaGreatDoor
open Go.RowKit

/-- twelve places -/
def Places (w : World) (v : Value) : Prop := ∃ g cap, v = .slice (some ⟨g, 0, none⟩) 12 cap ∧ 12 ≤ cap ∧ ∀ j, j < 12 → ∃ z : Nat, z < 10000 ∧ w.cell? ⟨g, j, none⟩ = some (.int .i64 z)

theorem places_of {w : World} {base : Nat} {v : Value} {l : List Int} (hl : l.length = 12) (hb : ∀ z ∈ l, 0 ≤ z ∧ z < 10000) (h : w.ownsRow base 3 1 v 12 (is l)) : Places w v := by
  obtain ⟨_, (⟨_, h0⟩ | ⟨g, cap, cur, rfl, _, hg, hc, _, hs, ht⟩)⟩ := h
  · omega
  · refine ⟨g, cap, rfl, hc, fun j hj => ?_⟩
    have hjl : j < l.length := by omega
    have hz := hb l[j] (List.getElem_mem hjl)
    refine ⟨l[j].toNat, by omega, ?_⟩
    have e1 : (cur.toList.take (12 * 1))[j]? = some (.int .i64 l[j]) := by rw [ht]; simp [is, hjl]
    rw [List.getElem?_take_of_lt (by omega)] at e1
    have e2 : cur[j]? = some (.int .i64 l[j]) := by simpa using e1
    rw [show ((l[j].toNat : Nat) : Int) = l[j] by omega]
    simp [World.cell?, hg, e2]

set_option maxRecDepth 1000000 in
set_option maxHeartbeats 1000000 in
theorem drawPlaces_any (ao : Option Addr) (len cap : Nat) (hlen : len ≤ 1048576) (hcap : len ≤ cap) (w : World) (hr : Bytes w ao len) :
    Calls Tryz.prog 8 #[.slice ao len cap] w fun e w' => ∃ v, e = .returned v ∧ Places w' v ∧ Below w.heap.size w w' := by
  obtain ⟨i0, hi, hz0, hz1, hz2⟩ := info_parts places_info3
  have HR := (show Hid (Bytes w ao len) from hr)
  clear hr
  go_enter Tryz.func8, Tryz.ntmps8
  go_wp2_with fail
  refine (l01New_any ao len cap hlen hcap _ HR.out).mono ?_
  rintro e w0 ⟨rfl, k0, b0⟩
  have K0 := (show Hid (CurAt w0 w.heap.size) from k0)
  clear k0
  obtain ⟨C, hC⟩ : ∃ C, w.heap.size = C := ⟨_, rfl⟩
  have B0 := (show Hid (Below w.heap.size w w0) from b0)
  rw [hC] at K0 ⊢
  clear b0
  go_wp2_with fail
  refine (l01Byte_any C _ K0.out).mono ?_
  rintro e w1 ⟨x0, rfl, x00, x01, k1, q1⟩
  have K1 := (show Hid (CurAt w1 C) from k1)
  have B1 : Hid (Below w.heap.size w w1) := below_cur B0.out (by rw [hC]; exact q1)
  have hCl := k1.lt
  clear k1 q1 x00 x01
  have HC := (show Hid _ from hC)
  clear hC
  go_wp2
  go_loopw [4, 5] (fun v i wr => ∃ (k : Nat) (l : List Int), k ≤ 12 ∧ i = .int .i64 k ∧ l.length = k ∧ Hid (∀ z ∈ l, 0 ≤ z ∧ z < 10000) ∧ wr.ownsRow w1.heap.size 3 1 v k (is l) ∧ Hid (CurAt wr C) ∧ Hid (w1.grownBy wr (some C))) (fun _ i _ => 12 - (intOf i).toNat)
  case atStart => exact ⟨0, [], by omega, rfl, rfl, fun z h => by simp at h, World.ownsRow_made w1 #[] 0 (Nat.le_refl _) (Nat.zero_le _) rfl, K1.out.kept (World.grownBy_alloc w1 _ none) (fun j h => by cases h), World.grownBy_alloc w1 _ (some C)⟩
  case round =>
    obtain ⟨k, l, hk, rfl, hl, HZ, hown, KC, GC⟩ := hrel
    have hsz := GC.out.size
    by_cases hlt : k < 12
    · go_wp2_with fail
      refine (l01Below_any C 10000 (by omega) (by omega) _ KC.out).mono ?_
      rintro e w2 ⟨x, rfl, x0, x1, k2, q2⟩
      have hown2 := kept_cur3 hown q2 hCl
      have hsz2 := q2.size
      have K2 := (show Hid (CurAt w2 C) from k2)
      have Q2 := (show Hid (wr.grownBy w2 (some C)) from q2)
      have HL := (show Hid _ from hl)
      have HX : Hid (0 ≤ x ∧ x < 10000) := ⟨x0, x1⟩
      clear k2 q2 hl
      go_wp2_with (at_builtin; refine wpList_append_own _ rfl (.tmp 15) (.tmp 18) 33 rfl w1.heap.size 3 i0 (.int .i64 0) 1 8 Tryz.underlying33 hi hz0 hz1 hz2 rfl (by decide) _ _ _ rfl (hown2.alloc _) ⟨w2.heap.size, 0, none⟩ 1 1 [.int .i64 x] rfl rfl (one_new _ _ _) (by intro u hu; simp at hu; subst hu; rfl) (by unfold maxLen; omega) (by omega) (by simp; omega) ?_)
      intro v' w3 hown' hgrow _
      obtain ⟨r2, r3, r4⟩ := places_step hCl (Nat.le_refl _) GC.out K2.out Q2.out hown' hgrow (fun j hj => (hown.lt j hj).1)
      have R1 : Hid ((l ++ [x]).length = k + 1) := by show _ = _; simp [HL.out]
      have RZ : Hid (∀ z ∈ l ++ [x], 0 ≤ z ∧ z < 10000) := by
        intro z hz
        rcases List.mem_append.1 hz with h | h
        · exact HZ.out z h
        · rw [List.mem_singleton.1 h]; exact HX.out
      have R3 := (show Hid (CurAt w3 C) from r3)
      have R4 := (show Hid (w1.grownBy w3 (some C)) from r4)
      clear hown' hgrow hown hown2 r3 r4
      go_wp2
      go_roundw
      case rel => exact ⟨k + 1, l ++ [x], by omega, by go_num, R1.out, RZ, r2, R3, R4⟩
      case measure => simp [intOf]; omega
    · obtain rfl : k = 12 := by omega
      have HP := (show Hid (Places wr u4) from places_of hl HZ.out hown)
      clear hown hl
      go_wp2
      go_ret
      exact ⟨_, rfl, HP.out, below_cur B1.out (by rw [HC.out]; exact GC.out)⟩
end Go.Proofs.YtohpkegbmhmjeaaGreatDoor
