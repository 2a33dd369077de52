/-
  The walk of impl.Perform: what it answers.
-/
import Derived.Test.YthnbkjbljogdpaaGreatDoorJoint1
import Derived.Test.YthnbkjbljogdpaaGreatDoorJoint26
import Derived.Test.YthnbkjbljogdpaaGreatDoorJoint34
import Derived.Test.YthnbkjbljogdpaaGreatDoorJoint41
import Derived.Test.YthnbkjbljogdpaaGreatDoorJoint45
import Derived.WalkKit
namespace Go.Proofs.YthnbkjbljogdpaaGreatDoor
open Go.RowKit

set_option maxRecDepth 1000000 in
set_option maxHeartbeats 8000000 in
theorem implPerform_any (ao bo : Option Addr) (ls : List SessionD) (li : List ItemD) (ac bc : Nat) (index : Int) (x : CommandD) (hl : ls.length ≤ 1048576) (hl2 : li.length ≤ 1048576) (w : World) (ht : Lib.TabIs Tryz.prog w "internal/strconv.uint64pow10" .u64 Lib.pow10Tab) (ha : SessionsAt w ao ls) (hi : ItemsAt w bo li) :
    Calls Tryz.prog 8 #[.agg #[.slice ao ls.length ac, .slice bo li.length bc], .int .i64 index, .agg #[.int .i64 x.op, .int .i64 x.token, .int .i64 x.seq, .string x.key, .string x.val, .int .i64 x.ver]] w fun e w' => PerfDid (performD ls li index x) w e w' := by
  have h3 := four_log w (.cells #[.slice ao ls.length ac, .slice bo li.length bc] 27) (.cells #[.int .i64 x.op, .int .i64 x.token, .int .i64 x.seq, .string x.key, .string x.val, .int .i64 x.ver] 29) (.cells #[.slice none 0 0, .slice none 0 0] 27)
  obtain ⟨W0, hW0⟩ : ∃ W, ((w.alloc (.cells #[.slice ao ls.length ac, .slice bo li.length bc] 27)).alloc (.cells #[.int .i64 x.op, .int .i64 x.token, .int .i64 x.seq, .string x.key, .string x.val, .int .i64 x.ver] 29)).alloc (.cells #[.slice none 0 0, .slice none 0 0] 27) = W := ⟨_, rfl⟩
  rw [hW0] at h3
  obtain ⟨hb0, hx0, hx1, hx2⟩ := h3
  have B0 := hid hb0
  have X0 := hid (show BlockIs W0 w.heap.size 27 [.slice ao ls.length ac, .slice bo li.length bc] from hx0)
  have X1 := hid (show BlockIs W0 (w.heap.size + 1) 29 [.int .i64 x.op, .int .i64 x.token, .int .i64 x.seq, .string x.key, .string x.val, .int .i64 x.ver] from hx1)
  have X2 := hid (show BlockIs W0 (w.heap.size + 1 + 1) 27 [.slice none 0 0, .slice none 0 0] from hx2)
  have HS := hid (ha.on hb0)
  have HI := hid (hi.on hb0)
  have HT := hid ht
  have n1 := fun w => implCommandOk_any x w
  have n2 := fun W hA hI => implKeepOk_any ao bo ls li ac bc hl hl2 W hA hI
  have a0 := X0.out.cell (j := 0) rfl
  have a1 := X0.out.cell (j := 1) rfl
  clear hb0 hx0 hx1 hx2 ha hi ht
  have NO : Hid (∀ (wa : World) (PP : Prop), performD ls li index x = ⟨[], [], ⟨#[]⟩, false⟩ → Below W0.heap.size W0 wa → (PerfDid (performD ls li index x) w (.returned (.tuple #[.agg #[.slice none 0 0, .slice none 0 0], .string ⟨#[]⟩, .bool false])) ((wa.setCell ⟨w.heap.size + 1 + 1, 0, none⟩ (.slice none 0 0)).setCell ⟨w.heap.size + 1 + 1, 1, none⟩ (.slice none 0 0)) → PP) → PP) := by
    intro wa PP h1 h2 h3
    refine h3 ?_
    rw [h1]
    exact perf_none (((below_via B0.out h2).setCell (p := ⟨w.heap.size + 1 + 1, 0, none⟩) (by show _ ≤ _ + 1 + 1; omega) _).setCell (p := ⟨w.heap.size + 1 + 1, 1, none⟩) (by show _ ≤ _ + 1 + 1; omega) _)
  go_enter Tryz.func8, Tryz.ntmps8
  go_wp2_with fail
  refine Calls.mono (n2 _ HS.out HI.out) ?_
  rintro e wk ⟨rfl, bk⟩
  have BK := hid bk
  have x0 := (X1.out.on bk X1.out.lt).cell (j := 0) rfl
  have x1 := (X1.out.on bk X1.out.lt).cell (j := 1) rfl
  have x2 := (X1.out.on bk X1.out.lt).cell (j := 2) rfl
  have x3 := (X1.out.on bk X1.out.lt).cell (j := 3) rfl
  have x4 := (X1.out.on bk X1.out.lt).cell (j := 4) rfl
  have x5 := (X1.out.on bk X1.out.lt).cell (j := 5) rfl
  clear bk n2
  cases hko : keepOk ls li with
  | false =>
    have r0 := (X2.out.on BK.out X2.out.lt).cell (j := 0) rfl
    have r1 := (X2.out.on BK.out X2.out.lt).cell (j := 1) rfl
    have f0 := (X2.out.on BK.out X2.out.lt).thaw 0
    have f1 := (X2.out.on BK.out X2.out.lt).thaw 1
    go_wp2
    refine bodyPost_ret (v := .tuple #[.agg #[.slice none 0 0, .slice none 0 0], .string ⟨#[]⟩, .bool false]) (by simp [results, Tryz.results8, go_sem, r0, r1]) rfl ?_
    exact NO.out _ _ (by rw [performD, if_neg (by simp [mayDo, hko])]) BK.out id
  | true =>
    by_cases h1 : index < 1
    · have hwn : within index 1 400000 = false := by simp only [within, Bool.and_eq_false_iff, decide_eq_false_iff_not]; omega
      have r0 := (X2.out.on BK.out X2.out.lt).cell (j := 0) rfl
      have r1 := (X2.out.on BK.out X2.out.lt).cell (j := 1) rfl
      have f0 := (X2.out.on BK.out X2.out.lt).thaw 0
      have f1 := (X2.out.on BK.out X2.out.lt).thaw 1
      go_wp2
      refine bodyPost_ret (v := .tuple #[.agg #[.slice none 0 0, .slice none 0 0], .string ⟨#[]⟩, .bool false]) (by simp [results, Tryz.results8, go_sem, r0, r1]) rfl ?_
      exact NO.out _ _ (by rw [performD, if_neg (by simp [mayDo, hwn])]) BK.out id
    by_cases h4 : (400000 : Int) < index
    · have hwn : within index 1 400000 = false := by simp only [within, Bool.and_eq_false_iff, decide_eq_false_iff_not]; omega
      have r0 := (X2.out.on BK.out X2.out.lt).cell (j := 0) rfl
      have r1 := (X2.out.on BK.out X2.out.lt).cell (j := 1) rfl
      have f0 := (X2.out.on BK.out X2.out.lt).thaw 0
      have f1 := (X2.out.on BK.out X2.out.lt).thaw 1
      go_wp2
      refine bodyPost_ret (v := .tuple #[.agg #[.slice none 0 0, .slice none 0 0], .string ⟨#[]⟩, .bool false]) (by simp [results, Tryz.results8, go_sem, r0, r1]) rfl ?_
      exact NO.out _ _ (by rw [performD, if_neg (by simp [mayDo, hwn])]) BK.out id
    cases hco : commandOk x with
    | false =>
      rw [hco] at n1
      go_wp2_with fail
      refine Calls.mono (n1 _) ?_
      rintro e wc ⟨rfl, bc'⟩
      have BC := hid (below_via BK.out bc')
      clear bc'
      have r0 := (X2.out.on BC.out X2.out.lt).cell (j := 0) rfl
      have r1 := (X2.out.on BC.out X2.out.lt).cell (j := 1) rfl
      have f0 := (X2.out.on BC.out X2.out.lt).thaw 0
      have f1 := (X2.out.on BC.out X2.out.lt).thaw 1
      go_wp2
      refine bodyPost_ret (v := .tuple #[.agg #[.slice none 0 0, .slice none 0 0], .string ⟨#[]⟩, .bool false]) (by simp [results, Tryz.results8, go_sem, r0, r1]) rfl ?_
      exact NO.out _ _ (by rw [performD, if_neg (by simp [mayDo, hco])]) BC.out id
    | true =>
      rw [hco] at n1
      have hm : mayDo ls li index x = true := by simp only [mayDo, within, Bool.and_eq_true, decide_eq_true_eq]; exact ⟨hko, by omega, hco⟩
      have HP : Hid (performD ls li index x = doneD ls li index x) := by show _ = _; rw [performD, if_pos hm]
      go_wp2_with fail
      refine Calls.mono (n1 _) ?_
      rintro e wc ⟨rfl, bc'⟩
      have BC := hid (below_via BK.out bc')
      clear bc' n1 x0 x1 x2 x3 x4 x5 a0 a1
      have x0 := (X1.out.on BC.out X1.out.lt).cell (j := 0) rfl
      have x1 := (X1.out.on BC.out X1.out.lt).cell (j := 1) rfl
      have x2 := (X1.out.on BC.out X1.out.lt).cell (j := 2) rfl
      have x3 := (X1.out.on BC.out X1.out.lt).cell (j := 3) rfl
      have x4 := (X1.out.on BC.out X1.out.lt).cell (j := 4) rfl
      have x5 := (X1.out.on BC.out X1.out.lt).cell (j := 5) rfl
      have a0 := (X0.out.on BC.out X0.out.lt).cell (j := 0) rfl
      have a1 := (X0.out.on BC.out X0.out.lt).cell (j := 1) rfl
      have BW := hid (below_via B0.out BC.out)
      have Y1 := hid (X1.out.on BC.out X1.out.lt)
      have Y2 := hid (X2.out.on BC.out X2.out.lt)
      have SC := hid (HS.out.on BC.out)
      have IC := hid (HI.out.on BC.out)
      clear X0 X1 X2 HS HI B0 BK BC NO hW0
      go_wp2_with fail
      refine Calls.mono (shelfOf_any ao bo ls li ac bc hko _ SC.out IC.out) ?_
      rintro e wd ⟨b, c, rfl, hbc, sd, bd⟩
      have bn := below_more (Below.refl wd.heap.size wd) (.cells #[.map (some b), .map (some c)] 62)
      have nn : BlockIs (wd.alloc (.cells #[.map (some b), .map (some c)] 62)) wd.heap.size 62 [.map (some b), .map (some c)] := heap_alloc_new wd _
      have bdn := below_via bd bn
      have sn := sd.on bn
      obtain ⟨V, hV⟩ : ∃ V, wd.alloc (.cells #[.map (some b), .map (some c)] 62) = V := ⟨_, rfl⟩
      rw [hV] at nn bdn sn
      have hwc : w.heap.size ≤ wc.heap.size := BW.out.size
      have NV := hid nn
      have SV := hid sn
      have BV := hid (below_via BW.out bdn)
      have V1 := hid (Y1.out.on bdn Y1.out.lt)
      have V2 := hid (Y2.out.on bdn Y2.out.lt)
      have v0 := V1.out.cell (j := 0) rfl
      have v1 := V1.out.cell (j := 1) rfl
      have v2 := V1.out.cell (j := 2) rfl
      have v3 := V1.out.cell (j := 3) rfl
      have v4 := V1.out.cell (j := 4) rfl
      have v5 := V1.out.cell (j := 5) rfl
      have n0 := nn.cell (j := 0) rfl
      have n1 := nn.cell (j := 1) rfl
      have HBC : Hid (w.heap.size ≤ b ∧ w.heap.size ≤ c) := ⟨by omega, by omega⟩
      clear bd bn nn bdn sd sn x0 x1 x2 x3 x4 x5 a0 a1 Y1 Y2 SC IC BW hbc
      go_wp2_with fail
      refine Calls.mono (shPerform_any w b c ls li index x hm V HT.out BV.out HBC.out SV.out) ?_
      rintro e we ⟨rfl, se, pe, be⟩
      obtain ⟨hkr, hrs, hok⟩ := done_right hm
      obtain ⟨D, hD⟩ : ∃ D, doneD ls li index x = D := ⟨_, rfl⟩
      rw [hD] at HP se hkr hrs hok ⊢
      obtain ⟨ds, di, dr, dk⟩ := D
      obtain rfl : dk = true := hok
      change ShelfAt we b c ds di at se
      change keepOk ds di = true at hkr
      have SE := hid se
      have BE := hid be
      have E2 := hid (pe.2 _ _ _ V2.out)
      have m0 := (pe.2 _ _ _ NV.out).cell (j := 0) rfl
      have m1 := (pe.2 _ _ _ NV.out).cell (j := 1) rfl
      clear hD se pe be v0 v1 v2 v3 v4 v5 n0 n1 V1 V2 NV SV BV hV hrs
      go_wp2_with fail
      refine Calls.mono (shKeep_any b c ds di hkr we SE.out) ?_
      rintro e wf ⟨va, vc, vb, vd, rfl, kf, bf⟩
      have hY := E2.out.on bf E2.out.lt
      have r0 := hY.cell (j := 0) rfl
      have r1 := hY.cell (j := 1) rfl
      have f0 := hY.thaw 0
      have f1 := hY.thaw 1
      have BZ := hid (((BE.out.trans (bf.mono BE.out.size)).setCell (p := ⟨w.heap.size + 1 + 1, 0, none⟩) (by show _ ≤ _ + 1 + 1; omega) (.slice va ds.length vc)).setCell (p := ⟨w.heap.size + 1 + 1, 1, none⟩) (by show _ ≤ _ + 1 + 1; omega) (.slice vb di.length vd))
      have KE := hid (((KRows.far (j := 0) kf hY (by decide) (by decide) (.slice va ds.length vc)).far (j := 1) (hY.set 0 (.slice va ds.length vc)) (by decide) (by decide) (.slice vb di.length vd)).down BE.out.size)
      clear kf bf hY
      go_wp2
      refine bodyPost_ret (v := .tuple #[.agg #[.slice va ds.length vc, .slice vb di.length vd], .string dr, .bool true]) (by simp [results, Tryz.results8, go_sem, r0, r1]) rfl ?_
      rw [HP.out]
      exact ⟨va, vc, vb, vd, rfl, KE.out, BZ.out⟩
end Go.Proofs.YthnbkjbljogdpaaGreatDoor
