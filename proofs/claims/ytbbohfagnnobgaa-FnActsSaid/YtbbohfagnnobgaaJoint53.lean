/-
  The walks of spec.CutActs and impl.CutActs where whole is out of its bounds.
  The walks of spec.CutActs and impl.CutActs.
  The walks of spec.CutActs and impl.CutActs.
  CutActs of spec and of impl in one form.
-/
import Derived.Test.YtbbohfagnnobgaaJoint49
import Derived.Test.YtbbohfagnnobgaaJoint52
import Derived.Deep.DeepCutAuto
import Derived.Deep.RegionWith
namespace Go.Proofs.Ytbbohfagnnobgaa
open Go.RowKit

set_option maxRecDepth 1000000 in
theorem implCut_no (ao : Option Addr) (l : List FileD) (cap : Nat) (bo : Option Addr) (acts : List ActD) (bcap : Nat) (nn : Int) (lo : Option Addr) (zs : List Int) (lcap : Nat) (hal : acts.length ≤ 1048576) (hn : nn < 0 ∨ (acts.length : Int) < nn) (w : World) :
    Calls Try.prog 16 #[.agg #[.slice ao l.length cap], .slice bo acts.length bcap, .int .i64 nn, .slice lo zs.length lcap] w fun e w' => e = .returned (.tuple #[.agg #[.slice none 0 0], .bool false]) ∧ Below w.heap.size w w' := by
  have hxR : BlockIs ((w.alloc (.cells #[.slice ao l.length cap] 26)).alloc (.cells #[.slice none 0 0] 26)) (w.heap.size + 1) 26 [.slice none 0 0] := by
    have := heap_alloc_new (w.alloc (.cells #[.slice ao l.length cap] 26)) (.cells #[.slice none 0 0] 26)
    rw [show (w.alloc (.cells #[.slice ao l.length cap] 26)).heap.size = w.heap.size + 1 by simp [World.alloc, -World.alloc_eq]] at this
    exact this
  obtain ⟨W1, hW1⟩ : ∃ W1, (w.alloc (.cells #[.slice ao l.length cap] 26)).alloc (.cells #[.slice none 0 0] 26) = W1 := ⟨_, rfl⟩
  rw [hW1] at hxR
  have hb1 : Below w.heap.size w W1 := by rw [← hW1]; exact below_more (below_more (Below.refl _ w) _) _
  have r0 := hxR.cell (j := 0) rfl
  have s0 := hxR.thaw 0
  have HB := hid (hb1.setCell (p := ⟨w.heap.size + 1, 0, none⟩) (by show _ ≤ _ + 1; omega) (.slice none 0 0))
  clear hxR hb1
  go_enter Try.func16, Try.ntmps16
  rcases hn with h0 | h1
  · go_wp2
    refine bodyPost_ret (v := .tuple #[.agg #[.slice none 0 0], .bool false]) (by simp [results, Try.results16, go_sem, r0]) rfl ⟨rfl, HB.out⟩
  · have h0 : ¬ nn < 0 := by omega
    go_wp2
    refine bodyPost_ret (v := .tuple #[.agg #[.slice none 0 0], .bool false]) (by simp [results, Try.results16, go_sem, r0]) rfl ⟨rfl, HB.out⟩

set_option maxRecDepth 1000000 in
theorem specCut_no (ao : Option Addr) (l : List FileD) (cap : Nat) (bo : Option Addr) (acts : List ActD) (bcap : Nat) (nn : Int) (lo : Option Addr) (zs : List Int) (lcap : Nat) (_hal : acts.length ≤ 1048576) (hn : nn < 0 ∨ (acts.length : Int) < nn) (w : World) :
    Calls Try.prog 17 #[.agg #[.slice ao l.length cap], .slice bo acts.length bcap, .int .i64 nn, .slice lo zs.length lcap] w fun e w' => e = .returned (.tuple #[.agg #[.slice none 0 0], .bool false]) ∧ Below w.heap.size w w' := by
  have hxR : BlockIs ((w.alloc (.cells #[.slice ao l.length cap] 26)).alloc (.cells #[.slice none 0 0] 26)) (w.heap.size + 1) 26 [.slice none 0 0] := by
    have := heap_alloc_new (w.alloc (.cells #[.slice ao l.length cap] 26)) (.cells #[.slice none 0 0] 26)
    rw [show (w.alloc (.cells #[.slice ao l.length cap] 26)).heap.size = w.heap.size + 1 by simp [World.alloc, -World.alloc_eq]] at this
    exact this
  obtain ⟨W1, hW1⟩ : ∃ W1, (w.alloc (.cells #[.slice ao l.length cap] 26)).alloc (.cells #[.slice none 0 0] 26) = W1 := ⟨_, rfl⟩
  rw [hW1] at hxR
  have hb1 : Below w.heap.size w W1 := by rw [← hW1]; exact below_more (below_more (Below.refl _ w) _) _
  have r0 := hxR.cell (j := 0) rfl
  have s0 := hxR.thaw 0
  have HB := hid (hb1.setCell (p := ⟨w.heap.size + 1, 0, none⟩) (by show _ ≤ _ + 1; omega) (.slice none 0 0))
  clear hxR hb1
  go_enter Try.func17, Try.ntmps17
  have CI := hid (fun w => l01In_any nn 0 acts.length w)
  rw [show within nn 0 acts.length = false by simp [within]; omega] at CI
  go_wp2_with fail
  refine (CI.out _).mono ?_
  rintro e w' ⟨rfl, hw⟩
  rw [hw]
  clear hw w' CI
  go_wp2
  refine bodyPost_ret (v := .tuple #[.agg #[.slice none 0 0], .bool false]) (by simp [results, Try.results17, go_sem, r0]) rfl ⟨rfl, HB.out⟩

/-- what CutActs answers -/
def cutAns (l : List FileD) (acts : List ActD) (nn : Int) (zs : List Int) : List FileD × Bool :=
  if 0 ≤ nn ∧ nn ≤ acts.length then (if ((doAll l (acts.take nn.toNat)).2 : Int) < nn then ([], false) else loseAns (doAll l (acts.take nn.toNat)).1 zs) else ([], false)
end Go.Proofs.Ytbbohfagnnobgaa

namespace Go.Proofs.Ytbbohfagnnobgaa
open Go.RowKit

theorem acts_take {w : World} {bo : Option Addr} {acts : List ActD} (h : ActsAt w bo acts) (K : Nat) : ActsAt w bo (acts.take K) := by
  intro hne
  obtain ⟨b, off, e, hc⟩ := h (fun q => hne (by rw [q]; simp))
  refine ⟨b, off, e, fun j hj => ?_⟩
  rw [List.length_take] at hj
  rw [List.getElem_take]
  exact hc j (by omega)

set_option maxRecDepth 1000000 in
set_option maxHeartbeats 2000000 in
theorem implCut_yes (ao : Option Addr) (l : List FileD) (cap : Nat) (bo : Option Addr) (acts : List ActD) (bcap : Nat) (K : Nat) (lo : Option Addr) (zs : List Int) (lcap : Nat) (hl : l.length ≤ 1048576) (hsm : ∀ f ∈ l, f.name.size ≤ 1048576 ∧ f.text.size ≤ 1048576) (hal : acts.length ≤ 1048576) (ham : ActsSmall acts) (hbc : acts.length ≤ bcap) (hzl : zs.length ≤ 1048576) (hK : K ≤ acts.length) (w : World) (ha : FilesAt w ao l) (hq : ActsAt w bo acts) (hz : IntsAt w lo zs) :
    Calls Try.prog 16 #[.agg #[.slice ao l.length cap], .slice bo acts.length bcap, .int .i64 K, .slice lo zs.length lcap] w fun e w' => ∃ va vc, e = .returned (.tuple #[.agg #[.slice va (cutAns l acts K zs).1.length vc], .bool (cutAns l acts K zs).2]) ∧ OwnAt w' 77 (fileCells (cutAns l acts K zs).1) (cutAns l acts K zs).1.length va w.heap.size w'.heap.size ∧ Below w.heap.size w w' := by
  have HA := hid ha
  have HZ := hid hz
  have HS := hid hsm
  have hlenK : (acts.take K).length = K := by rw [List.length_take]; omega
  have hMK : ActsSmall (acts.take K) := fun a h => ham a (List.mem_of_mem_take h)
  have HQ := hid (acts_take hq K)
  obtain ⟨A, i, hF⟩ : ∃ A i, doAll l (acts.take K) = (A, i) := ⟨_, _, rfl⟩
  have hAs : A.length ≤ 1048576 := by have := doAll_small (acts := acts.take K) hl; rw [hF] at this; exact this
  have hcut : cutAns l acts K zs = if (i : Int) < (K : Int) then ([], false) else loseAns A zs := by
    rw [cutAns, if_pos ⟨by omega, by omega⟩, Int.toNat_natCast, hF]
  have HCut := hid hcut
  have hx0 : BlockIs (w.alloc (.cells #[.slice ao l.length cap] 26)) w.heap.size 26 [.slice ao l.length cap] := heap_alloc_new w _
  obtain ⟨W1, hW1⟩ : ∃ W1, (w.alloc (.cells #[.slice ao l.length cap] 26)).alloc (.cells #[.slice none 0 0] 26) = W1 := ⟨_, rfl⟩
  have hb1 : Below w.heap.size w W1 := by rw [← hW1]; exact below_more (below_more (Below.refl _ w) _) _
  have hxD : BlockIs W1 w.heap.size 26 [.slice ao l.length cap] := by rw [← hW1]; exact hx0.on (below_more (Below.refl _ _) _) hx0.lt
  have hxR : BlockIs W1 (w.heap.size + 1) 26 [.slice none 0 0] := by
    rw [← hW1]
    have := heap_alloc_new (w.alloc (.cells #[.slice ao l.length cap] 26)) (.cells #[.slice none 0 0] 26)
    rw [show (w.alloc (.cells #[.slice ao l.length cap] 26)).heap.size = w.heap.size + 1 by simp [World.alloc, -World.alloc_eq]] at this
    exact this
  have hbA := below_more (Below.refl W1.heap.size W1) (.cells #[.slice none 0 0] 26)
  have d0 := hxD.cell (j := 0) rfl
  have d1 := (hxD.on hbA hxD.lt).cell (j := 0) rfl
  have H1 := hid (And.intro hb1 hxR)
  have HGa := hid (show Below W1.heap.size W1 W1.drew from below_drewN (Below.refl _ _) 1)
  have HGb := hid (show Below W1.heap.size W1 (W1.alloc (.cells #[.slice none 0 0] 26)).drew from below_drewN hbA 1)
  have HBX := hid (show BlockIs (W1.alloc (.cells #[.slice none 0 0] 26)).drew W1.heap.size 26 [.slice none 0 0] from heap_alloc_new W1 _)
  have CF : Hid (∀ W, Hid (Below W1.heap.size W1 W) → Calls Try.prog 11 #[.agg #[.slice ao l.length cap], .slice bo K bcap] W fun e W' => ∃ vb vd, e = .returned (.tuple #[.agg #[.slice vb A.length vd], .int .i64 i]) ∧ Hid (OwnAt W' 77 (fileCells A) A.length vb W1.heap.size W'.heap.size ∧ Below W.heap.size W W' ∧ Below W1.heap.size W1 W')) := by
    intro W hW
    have CQ := implDoActs_o ao l cap bo (acts.take K) bcap hl HS.out (by rw [hlenK]; omega) hMK W (HA.out.on (below_via H1.out.1 hW.out)) (HQ.out.on (below_via H1.out.1 hW.out))
    rw [hF, hlenK] at CQ
    dsimp only at CQ
    refine Calls.mono CQ ?_
    rintro e W' ⟨vb, vd, rfl, ho, hb⟩
    exact ⟨vb, vd, rfl, ho.down hW.out.size (Nat.le_refl _), hb, below_via hW.out hb⟩
  clear ha hq hz ham hsm hx0 hb1 hxD hxR hbA hcut hF hMK hlenK
  go_enter Try.func16, Try.ntmps16
  go_upto_region 3 with fail
  go_cut [10, 11] (fun sa sb wx => ∃ Bx vb vd, sa = .pointer (some ⟨Bx, 0, none⟩) ∧ sb = .int .i64 i ∧ Hid (Below W1.heap.size W1 wx ∧ BlockIs wx Bx 26 [.slice vb A.length vd] ∧ OwnAt wx 77 (fileCells A) A.length vb W1.heap.size wx.heap.size))
  case first =>
    go_region_with (first | (go_at_call 11; refine Calls.mono (CF.out _ HGa) ?_; rintro e w5 ⟨vb, vd, rfl, H5⟩) | (go_at_call 11; refine Calls.mono (CF.out _ HGb) ?_; rintro e w5 ⟨vb, vd, rfl, H5⟩; have z0 := (HBX.out.on H5.out.2.1 HBX.out.lt).cell (j := 0) rfl; have z1 := (HBX.out.on H5.out.2.1 HBX.out.lt).thaw 0))
    all_goals
      go_wp2_with fail
      go_meet
      first
      | (have hbm := below_more (Below.refl w5.heap.size w5) (.cells #[.slice vb A.length vd] 26)
         exact ⟨w5.heap.size, vb, vd, rfl, rfl, below_via H5.out.2.2 hbm, heap_alloc_new w5 _, (H5.out.1.on hbm).down (Nat.le_refl _) hbm.size⟩)
      | exact ⟨W1.heap.size, vb, vd, rfl, rfl, H5.out.2.2.setCell (p := ⟨W1.heap.size, 0, none⟩) (Nat.le_refl _) _, (HBX.out.on H5.out.2.1 HBX.out.lt).set 0 _, own_ret H5.out.1 (HBX.out.on H5.out.2.1 HBX.out.lt) (Nat.le_refl _) (by decide)⟩
  case rest =>
    obtain ⟨Bx, vb, vd, rfl, rfl, HC⟩ := hcut
    have HX := hid (H1.out.2.on HC.out.1 H1.out.2.lt)
    have HB := hid (below_via H1.out.1 HC.out.1)
    have n0 := HC.out.2.1.cell (j := 0) rfl
    have r0 := HX.out.cell (j := 0) rfl
    have s0 := HX.out.thaw 0
    clear CF HGa HGb HBX d0 d1
    by_cases hik : (i : Int) < (K : Int)
    · have hc := HCut.out
      rw [if_pos hik] at hc
      have HC2 := hid hc
      have HB2 := hid (HB.out.setCell (p := ⟨w.heap.size + 1, 0, none⟩) (by show _ ≤ _ + 1; omega) (.slice none 0 0))
      clear hc HCut HC HX HB H1
      go_wp2
      refine bodyPost_ret (v := .tuple #[.agg #[.slice none 0 0], .bool false]) (by simp [results, Try.results16, go_sem, r0]) rfl ?_
      rw [HC2.out]
      exact ⟨none, 0, rfl, Or.inl rfl, HB2.out⟩
    · have hc := HCut.out
      rw [if_neg hik] at hc
      have HC2 := hid hc
      have CL := hid (implLoseDisk_o vb A vd lo zs lcap hAs hzl wc HC.out.2.2.files (HZ.out.on HB.out))
      obtain ⟨E, ok, hE⟩ : ∃ E ok, loseAns A zs = (E, ok) := ⟨_, _, rfl⟩
      rw [hE] at CL HC2
      dsimp only at CL
      clear hc HCut H1 hE
      go_wp2_with fail
      refine Calls.mono CL.out ?_
      rintro e w6 ⟨v6, c6, rfl, ho6, b6⟩
      have X6 := HX.out.on b6 HX.out.lt
      have r1 := X6.cell (j := 0) rfl
      have s1 := X6.thaw 0
      have hlt := HX.out.lt
      have HB2 := hid ((below_via HB.out b6).setCell (p := ⟨w.heap.size + 1, 0, none⟩) (by show _ ≤ _ + 1; omega) (.slice v6 E.length c6))
      have HO := hid ((own_ret (v := .slice v6 E.length c6) ho6 X6 (Nat.le_refl _) (by decide)).down (lo' := w.heap.size) (by omega) (Nat.le_refl _))
      clear b6 ho6 X6 CL HC HX HB n0 r0 s0
      go_wp2
      refine bodyPost_ret (v := .tuple #[.agg #[.slice v6 E.length c6], .bool ok]) (by simp [results, Try.results16, go_sem, r1]) rfl ?_
      rw [HC2.out]
      exact ⟨v6, c6, rfl, HO.out, HB2.out⟩
end Go.Proofs.Ytbbohfagnnobgaa

namespace Go.Proofs.Ytbbohfagnnobgaa
open Go.RowKit


set_option maxRecDepth 1000000 in
set_option maxHeartbeats 2000000 in
theorem specCut_yes (ao : Option Addr) (l : List FileD) (cap : Nat) (bo : Option Addr) (acts : List ActD) (bcap : Nat) (K : Nat) (lo : Option Addr) (zs : List Int) (lcap : Nat) (hl : l.length ≤ 1048576) (hsm : ∀ f ∈ l, f.name.size ≤ 1048576 ∧ f.text.size ≤ 1048576) (hal : acts.length ≤ 1048576) (ham : ActsSmall acts) (hbc : acts.length ≤ bcap) (hzl : zs.length ≤ 1048576) (hK : K ≤ acts.length) (w : World) (ha : FilesAt w ao l) (hq : ActsAt w bo acts) (hz : IntsAt w lo zs) :
    Calls Try.prog 17 #[.agg #[.slice ao l.length cap], .slice bo acts.length bcap, .int .i64 K, .slice lo zs.length lcap] w fun e w' => ∃ va vc, e = .returned (.tuple #[.agg #[.slice va (cutAns l acts K zs).1.length vc], .bool (cutAns l acts K zs).2]) ∧ OwnAt w' 77 (fileCells (cutAns l acts K zs).1) (cutAns l acts K zs).1.length va w.heap.size w'.heap.size ∧ Below w.heap.size w w' := by
  have HA := hid ha
  have HZ := hid hz
  have HS := hid hsm
  have hlenK : (acts.take K).length = K := by rw [List.length_take]; omega
  have hMK : ActsSmall (acts.take K) := fun a h => ham a (List.mem_of_mem_take h)
  have HQ := hid (acts_take hq K)
  obtain ⟨A, i, hF⟩ : ∃ A i, doAll l (acts.take K) = (A, i) := ⟨_, _, rfl⟩
  have hAs : A.length ≤ 1048576 := by have := doAll_small (acts := acts.take K) hl; rw [hF] at this; exact this
  have hcut : cutAns l acts K zs = if (i : Int) < (K : Int) then ([], false) else loseAns A zs := by
    rw [cutAns, if_pos ⟨by omega, by omega⟩, Int.toNat_natCast, hF]
  have HCut := hid hcut
  have hx0 : BlockIs (w.alloc (.cells #[.slice ao l.length cap] 26)) w.heap.size 26 [.slice ao l.length cap] := heap_alloc_new w _
  obtain ⟨W1, hW1⟩ : ∃ W1, (w.alloc (.cells #[.slice ao l.length cap] 26)).alloc (.cells #[.slice none 0 0] 26) = W1 := ⟨_, rfl⟩
  have hb1 : Below w.heap.size w W1 := by rw [← hW1]; exact below_more (below_more (Below.refl _ w) _) _
  have hxD : BlockIs W1 w.heap.size 26 [.slice ao l.length cap] := by rw [← hW1]; exact hx0.on (below_more (Below.refl _ _) _) hx0.lt
  have hxR : BlockIs W1 (w.heap.size + 1) 26 [.slice none 0 0] := by
    rw [← hW1]
    have := heap_alloc_new (w.alloc (.cells #[.slice ao l.length cap] 26)) (.cells #[.slice none 0 0] 26)
    rw [show (w.alloc (.cells #[.slice ao l.length cap] 26)).heap.size = w.heap.size + 1 by simp [World.alloc, -World.alloc_eq]] at this
    exact this
  have hbA := below_more (Below.refl W1.heap.size W1) (.cells #[.slice none 0 0] 26)
  have d0 := hxD.cell (j := 0) rfl
  have d1 := (hxD.on hbA hxD.lt).cell (j := 0) rfl
  have H1 := hid (And.intro hb1 hxR)
  have HGa := hid (show Below W1.heap.size W1 W1.drew from below_drewN (Below.refl _ _) 1)
  have HGb := hid (show Below W1.heap.size W1 (W1.alloc (.cells #[.slice none 0 0] 26)).drew from below_drewN hbA 1)
  have HBX := hid (show BlockIs (W1.alloc (.cells #[.slice none 0 0] 26)).drew W1.heap.size 26 [.slice none 0 0] from heap_alloc_new W1 _)
  have CF : Hid (∀ W, Hid (Below W1.heap.size W1 W) → Calls Try.prog 12 #[.agg #[.slice ao l.length cap], .slice bo K bcap] W fun e W' => ∃ vb vd, e = .returned (.tuple #[.agg #[.slice vb A.length vd], .int .i64 i]) ∧ Hid (OwnAt W' 77 (fileCells A) A.length vb W1.heap.size W'.heap.size ∧ Below W.heap.size W W' ∧ Below W1.heap.size W1 W')) := by
    intro W hW
    have CQ := specDoActs_o ao l cap bo (acts.take K) bcap hl (by rw [hlenK]; omega) hMK W (HA.out.on (below_via H1.out.1 hW.out)) (HQ.out.on (below_via H1.out.1 hW.out))
    rw [hF, hlenK] at CQ
    dsimp only at CQ
    refine Calls.mono CQ ?_
    rintro e W' ⟨vb, vd, rfl, ho, hb⟩
    exact ⟨vb, vd, rfl, ho.down hW.out.size (Nat.le_refl _), hb, below_via hW.out hb⟩
  clear ha hq hz ham hsm hx0 hb1 hxD hxR hbA hcut hF hMK hlenK
  go_enter Try.func17, Try.ntmps17
  have CI := hid (fun w => l01In_any (K : Int) 0 acts.length w)
  rw [show within (K : Int) 0 acts.length = true by simp [within]; omega] at CI
  go_wp2_with fail
  refine (CI.out _).mono ?_
  rintro e w' ⟨rfl, hw⟩
  rw [hw]
  clear hw w' CI
  go_upto_region 3 with fail
  go_cut [10, 11] (fun sa sb wx => ∃ Bx vb vd, sa = .pointer (some ⟨Bx, 0, none⟩) ∧ sb = .int .i64 i ∧ Hid (Below W1.heap.size W1 wx ∧ BlockIs wx Bx 26 [.slice vb A.length vd] ∧ OwnAt wx 77 (fileCells A) A.length vb W1.heap.size wx.heap.size))
  case first =>
    go_region_with (first | (go_at_call 12; refine Calls.mono (CF.out _ HGa) ?_; rintro e w5 ⟨vb, vd, rfl, H5⟩) | (go_at_call 12; refine Calls.mono (CF.out _ HGb) ?_; rintro e w5 ⟨vb, vd, rfl, H5⟩; have z0 := (HBX.out.on H5.out.2.1 HBX.out.lt).cell (j := 0) rfl; have z1 := (HBX.out.on H5.out.2.1 HBX.out.lt).thaw 0))
    all_goals
      go_wp2_with fail
      go_meet
      first
      | (have hbm := below_more (Below.refl w5.heap.size w5) (.cells #[.slice vb A.length vd] 26)
         exact ⟨w5.heap.size, vb, vd, rfl, rfl, below_via H5.out.2.2 hbm, heap_alloc_new w5 _, (H5.out.1.on hbm).down (Nat.le_refl _) hbm.size⟩)
      | exact ⟨W1.heap.size, vb, vd, rfl, rfl, H5.out.2.2.setCell (p := ⟨W1.heap.size, 0, none⟩) (Nat.le_refl _) _, (HBX.out.on H5.out.2.1 HBX.out.lt).set 0 _, own_ret H5.out.1 (HBX.out.on H5.out.2.1 HBX.out.lt) (Nat.le_refl _) (by decide)⟩
  case rest =>
    obtain ⟨Bx, vb, vd, rfl, rfl, HC⟩ := hcut
    have HX := hid (H1.out.2.on HC.out.1 H1.out.2.lt)
    have HB := hid (below_via H1.out.1 HC.out.1)
    have n0 := HC.out.2.1.cell (j := 0) rfl
    have r0 := HX.out.cell (j := 0) rfl
    have s0 := HX.out.thaw 0
    clear CF HGa HGb HBX d0 d1
    by_cases hik : (i : Int) < (K : Int)
    · have hc := HCut.out
      rw [if_pos hik] at hc
      have HC2 := hid hc
      have HB2 := hid (HB.out.setCell (p := ⟨w.heap.size + 1, 0, none⟩) (by show _ ≤ _ + 1; omega) (.slice none 0 0))
      clear hc HCut HC HX HB H1
      go_wp2
      refine bodyPost_ret (v := .tuple #[.agg #[.slice none 0 0], .bool false]) (by simp [results, Try.results17, go_sem, r0]) rfl ?_
      rw [HC2.out]
      exact ⟨none, 0, rfl, Or.inl rfl, HB2.out⟩
    · have hc := HCut.out
      rw [if_neg hik] at hc
      have HC2 := hid hc
      have CL := hid (specLoseDisk_o vb A vd lo zs lcap hAs hzl wc HC.out.2.2.files (HZ.out.on HB.out))
      obtain ⟨E, ok, hE⟩ : ∃ E ok, loseAns A zs = (E, ok) := ⟨_, _, rfl⟩
      rw [hE] at CL HC2
      dsimp only at CL
      clear hc HCut H1 hE
      go_wp2_with fail
      refine Calls.mono CL.out ?_
      rintro e w6 ⟨v6, c6, rfl, ho6, b6⟩
      have X6 := HX.out.on b6 HX.out.lt
      have r1 := X6.cell (j := 0) rfl
      have s1 := X6.thaw 0
      have hlt := HX.out.lt
      have HB2 := hid ((below_via HB.out b6).setCell (p := ⟨w.heap.size + 1, 0, none⟩) (by show _ ≤ _ + 1; omega) (.slice v6 E.length c6))
      have HO := hid ((own_ret (v := .slice v6 E.length c6) ho6 X6 (Nat.le_refl _) (by decide)).down (lo' := w.heap.size) (by omega) (Nat.le_refl _))
      clear b6 ho6 X6 CL HC HX HB n0 r0 s0
      go_wp2
      refine bodyPost_ret (v := .tuple #[.agg #[.slice v6 E.length c6], .bool ok]) (by simp [results, Try.results17, go_sem, r1]) rfl ?_
      rw [HC2.out]
      exact ⟨v6, c6, rfl, HO.out, HB2.out⟩
end Go.Proofs.Ytbbohfagnnobgaa

namespace Go.Proofs.Ytbbohfagnnobgaa
open Go.RowKit

theorem cutAns_small {l : List FileD} {acts : List ActD} {nn : Int} {zs : List Int} (hl : l.length ≤ 1048576) : (cutAns l acts nn zs).1.length ≤ 1048576 := by
  unfold cutAns
  split
  · split
    · exact Nat.zero_le _
    · exact loseAns_small (doAll_small hl)
  · exact Nat.zero_le _
theorem cutAns_no {l : List FileD} {acts : List ActD} {nn : Int} {zs : List Int} (h : nn < 0 ∨ (acts.length : Int) < nn) : cutAns l acts nn zs = ([], false) := by
  rw [cutAns, if_neg (by omega)]
theorem specCutActs_o (ao : Option Addr) (l : List FileD) (cap : Nat) (bo : Option Addr) (acts : List ActD) (bcap : Nat) (nn : Int) (lo : Option Addr) (zs : List Int) (lcap : Nat) (hl : l.length ≤ 1048576) (hsm : ∀ f ∈ l, f.name.size ≤ 1048576 ∧ f.text.size ≤ 1048576) (hal : acts.length ≤ 1048576) (ham : ActsSmall acts) (hbc : acts.length ≤ bcap) (hzl : zs.length ≤ 1048576) (w : World) (ha : FilesAt w ao l) (hq : ActsAt w bo acts) (hz : IntsAt w lo zs) :
    Calls Try.prog 17 #[.agg #[.slice ao l.length cap], .slice bo acts.length bcap, .int .i64 nn, .slice lo zs.length lcap] w fun e w' => ∃ va vc, e = .returned (.tuple #[.agg #[.slice va (cutAns l acts nn zs).1.length vc], .bool (cutAns l acts nn zs).2]) ∧ OwnAt w' 77 (fileCells (cutAns l acts nn zs).1) (cutAns l acts nn zs).1.length va w.heap.size w'.heap.size ∧ Below w.heap.size w w' := by
  by_cases h : nn < 0 ∨ (acts.length : Int) < nn
  · refine (specCut_no ao l cap bo acts bcap nn lo zs lcap hal h w).mono ?_
    rintro e w' ⟨rfl, hb⟩
    rw [cutAns_no h]
    exact ⟨none, 0, rfl, Or.inl rfl, hb⟩
  · obtain ⟨K, rfl⟩ : ∃ K : Nat, nn = K := ⟨nn.toNat, by omega⟩
    exact specCut_yes ao l cap bo acts bcap K lo zs lcap hl hsm hal ham hbc hzl (by omega) w ha hq hz
theorem implCutActs_o (ao : Option Addr) (l : List FileD) (cap : Nat) (bo : Option Addr) (acts : List ActD) (bcap : Nat) (nn : Int) (lo : Option Addr) (zs : List Int) (lcap : Nat) (hl : l.length ≤ 1048576) (hsm : ∀ f ∈ l, f.name.size ≤ 1048576 ∧ f.text.size ≤ 1048576) (hal : acts.length ≤ 1048576) (ham : ActsSmall acts) (hbc : acts.length ≤ bcap) (hzl : zs.length ≤ 1048576) (w : World) (ha : FilesAt w ao l) (hq : ActsAt w bo acts) (hz : IntsAt w lo zs) :
    Calls Try.prog 16 #[.agg #[.slice ao l.length cap], .slice bo acts.length bcap, .int .i64 nn, .slice lo zs.length lcap] w fun e w' => ∃ va vc, e = .returned (.tuple #[.agg #[.slice va (cutAns l acts nn zs).1.length vc], .bool (cutAns l acts nn zs).2]) ∧ OwnAt w' 77 (fileCells (cutAns l acts nn zs).1) (cutAns l acts nn zs).1.length va w.heap.size w'.heap.size ∧ Below w.heap.size w w' := by
  by_cases h : nn < 0 ∨ (acts.length : Int) < nn
  · refine (implCut_no ao l cap bo acts bcap nn lo zs lcap hal h w).mono ?_
    rintro e w' ⟨rfl, hb⟩
    rw [cutAns_no h]
    exact ⟨none, 0, rfl, Or.inl rfl, hb⟩
  · obtain ⟨K, rfl⟩ : ∃ K : Nat, nn = K := ⟨nn.toNat, by omega⟩
    exact implCut_yes ao l cap bo acts bcap K lo zs lcap hl hsm hal ham hbc hzl (by omega) w ha hq hz
end Go.Proofs.Ytbbohfagnnobgaa
