/-
  The walk of spec.DoActs at a disk with no files.
  DoActs of spec in one form.
-/
import Derived.Test.YtoanhjjigbjecaaGreatDoorJoint28
import Derived.Test.YtoanhjjigbjecaaGreatDoorJoint25
namespace Go.Proofs.YtoanhjjigbjecaaGreatDoor
open Go.RowKit

set_option maxRecDepth 1000000 in
set_option maxHeartbeats 2000000 in
theorem specDoActs_nil (ao : Option Addr) (l : List FileD) (cap : Nat) (bo : Option Addr) (acts : List ActD) (bcap : Nat) (hl : l.length ≤ 1048576) (hal : acts.length ≤ 1048576) (ham : ActsSmall acts) (hnil : l = []) (w : World) (ha : FilesAt w ao l) (hq : ActsAt w bo acts) :
    Calls Tryz.prog 11 #[.agg #[.slice ao l.length cap], .slice bo acts.length bcap] w fun e w' => DidActs w l acts (fun W o va => OwnAt W 61 (fileCells o) o.length va w.heap.size W.heap.size) e w' := by
  obtain ⟨i0, hi, hz0, hz1, hz2⟩ := info_parts toFile_info
  have HQ := hid hq
  have HM := hid ham
  cases ao with
  | none =>
    subst hnil
    have hx0 : BlockIs (w.alloc (.cells #[.slice none 0 cap] 26)) w.heap.size 26 [.slice none 0 cap] := heap_alloc_new w _
    obtain ⟨W1, hW1⟩ : ∃ W1, (w.alloc (.cells #[.slice none 0 cap] 26)).alloc (.cells #[.slice none 0 0] 26) = W1 := ⟨_, rfl⟩
    have hs1 : W1.heap.size = w.heap.size + 2 := by rw [← hW1]; simp [World.alloc, -World.alloc_eq]
    have hb1 : Below w.heap.size w W1 := by rw [← hW1]; exact below_more (below_more (Below.refl _ w) _) _
    have hxD : BlockIs W1 w.heap.size 26 [.slice none 0 cap] := by rw [← hW1]; exact hx0.on (below_more (Below.refl _ _) _) hx0.lt
    have hxR : BlockIs W1 (w.heap.size + 1) 26 [.slice none 0 0] := by
      rw [← hW1]
      have := heap_alloc_new (w.alloc (.cells #[.slice none 0 cap] 26)) (.cells #[.slice none 0 0] 26)
      rw [show (w.alloc (.cells #[.slice none 0 cap] 26)).heap.size = w.heap.size + 1 by simp [World.alloc, -World.alloc_eq]] at this
      exact this
    obtain ⟨W2, hW2⟩ : ∃ W2, W1.alloc (.cells #[] 61) = W2 := ⟨_, rfl⟩
    have hbE : Below W1.heap.size W1 W2 := by rw [← hW2]; exact below_more (Below.refl W1.heap.size W1) _
    have d0 := (hxD.on hbE hxD.lt).cell (j := 0) rfl
    have hs2 : W2.heap.size = W1.heap.size + 1 := by rw [← hW2]; simp [World.alloc, -World.alloc_eq]
    have H2 := hid (And.intro (below_via hb1 hbE) (hxR.on hbE hxR.lt))
    have HS1 := hid hs1
    clear ha hq ham hx0 hb1 hxD hxR hbE hs1
    have q1 : ∀ W : World, ((pure #[] : Sem (Array Value)).run Tryz.prog W) = .ok #[] W := fun _ => rfl
    have q2 : ∀ (W : World) (a : Addr), (storeCells a []).run Tryz.prog W = .ok () W := fun _ _ => rfl
    go_enter Tryz.func11, Tryz.ntmps11
    have hbO := below_more (Below.refl W2.heap.size W2) (.cells #[.slice (some ⟨W1.heap.size, 0, none⟩) 0 0] 26)
    have hxO : BlockIs (W2.alloc (.cells #[.slice (some ⟨W1.heap.size, 0, none⟩) 0 0] 26)) W2.heap.size 26 [.slice (some ⟨W1.heap.size, 0, none⟩) 0 0] := heap_alloc_new W2 _
    have H3 : Hid (ActsIn w W2.heap.size [] acts 0 [] (some ⟨W1.heap.size, 0, none⟩) 0 (W2.alloc (.cells #[.slice (some ⟨W1.heap.size, 0, none⟩) 0 0] 26))) :=
      ⟨below_via H2.out.1 hbO, H2.out.2.on hbO H2.out.2.lt, hxO, Or.inl rfl, rfl, Nat.zero_le _, by have := HS1.out; omega⟩
    clear hbO hxO H2 HS1 hs2
    go_wp2
    clear q1 q2
    go_loopg [7, 8, 9] acts.length (fun q i _ _ wr => ∃ (k : Nat) (o : List FileD) (va : Option Addr) (vc : Nat), k + q = acts.length ∧ i = .int .i64 k ∧ Hid (ActsIn w W2.heap.size [] acts k o va vc wr))
    case atStart => exact ⟨0, [], _, _, by omega, rfl, H3⟩
    case round =>
      obtain ⟨k, o, va, vc, hkg, rfl, HI⟩ := hrel
      clear H3
      have r0 := HI.out.res.cell (j := 0) rfl
      have s0 := HI.out.res.thaw 0
      have o0 := HI.out.out.cell (j := 0) rfl
      have t0 := HI.out.out.thaw 0
      cases gk with
      | zero =>
        have hlt : ¬ (k : Int) < (acts.length : Int) := by omega
        have HB := hid (HI.out.below.setCell (p := ⟨w.heap.size + 1, 0, none⟩) (by show _ ≤ _ + 1; omega) (.slice va o.length vc))
        have HO := hid (own_ret (v := .slice va o.length vc) HI.out.own HI.out.res (Nat.le_refl _) (by decide))
        have HT := hid HI.out.did
        have hk : k = acts.length := by omega
        have HK := hid hk
        clear HI hk
        go_wp2
        refine bodyPost_ret (v := .tuple #[.agg #[.slice va o.length vc], .int .i64 acts.length]) (by simp [results, Tryz.results11, go_sem, r0]) rfl ⟨acts.length, o, va, vc, rfl, ⟨by rw [← HK.out]; exact HT.out, Nat.le_refl _, Or.inl rfl⟩, HO.out, HB.out⟩
      | succ q =>
        have hlt : k < acts.length := by omega
        have hlt' : (k : Int) < (acts.length : Int) := by omega
        have hne : acts ≠ [] := by intro e; rw [e] at hlt; simp at hlt
        obtain ⟨b', off', rfl, hc⟩ := HQ.out.on HI.out.below hne
        obtain ⟨x0, x1, x2, x3⟩ := hc k hlt
        clear hc
        have hbA := below_more (Below.refl wr.heap.size wr) (.cells #[.slice none 0 0] 26)
        have y0 := (hbA.cell (p := ⟨b', off' + k * 4, none⟩) (World.block_lt_of_cell? wr _ x0)).trans x0
        have y1 := (hbA.cell (p := ⟨b', off' + k * 4 + 1, none⟩) (World.block_lt_of_cell? wr _ x1)).trans x1
        have y2 := (hbA.cell (p := ⟨b', off' + k * 4 + 2, none⟩) (World.block_lt_of_cell? wr _ x2)).trans x2
        have y3 := (hbA.cell (p := ⟨b', off' + k * 4 + 3, none⟩) (World.block_lt_of_cell? wr _ x3)).trans x3
        have o1 := (HI.out.out.on hbA HI.out.out.lt).cell (j := 0) rfl
        have hbx : BlockIs (wr.alloc (.cells #[.slice none 0 0] 26)).drew wr.heap.size 26 [.slice none 0 0] := heap_alloc_new wr _
        have HGa := hid (show Below wr.heap.size wr wr.drew from below_drewN (Below.refl _ _) 1)
        have HGb := hid (show Below wr.heap.size wr (wr.alloc (.cells #[.slice none 0 0] 26)).drew from below_drewN hbA 1)
        have HBX := hid hbx
        obtain ⟨A, ok, hF⟩ : ∃ A ok, doAns o acts[k] = (A, ok) := ⟨_, _, rfl⟩
        have CF : Hid (∀ W, Hid (Below wr.heap.size wr W) → Calls Tryz.prog 39 #[.agg #[.slice va o.length vc], .agg #[.int .i64 acts[k].kind, .string acts[k].name, .string acts[k].text, .string acts[k].to]] W fun e W' => ∃ vb vd, e = .returned (.tuple #[.agg #[.slice vb A.length vd], .bool ok]) ∧ Hid (OwnAt W' 61 (fileCells A) A.length vb wr.heap.size W'.heap.size ∧ Below W.heap.size W W' ∧ Below wr.heap.size wr W')) := by
          intro W hW
          have CQ := specDoAct_o va o vc acts[k] HI.out.small (HM.out _ (List.getElem_mem hlt)).2.1 W (HI.out.files.on hW.out)
          rw [hF] at CQ
          dsimp only at CQ
          refine Calls.mono CQ ?_
          rintro e W' ⟨vb, vd, rfl, ho, hb⟩
          exact ⟨vb, vd, rfl, ho.down hW.out.size (Nat.le_refl _), hb, below_via hW.out hb⟩
        have HF := hid hF
        clear hbA hbx hF
        go_upto_region 5 with fail
        go_cut [8, 9] (fun sa sb wx => ∃ Bx vb vd, sa = .pointer (some ⟨Bx, 0, none⟩) ∧ sb = .bool ok ∧ Hid (Below wr.heap.size wr wx ∧ BlockIs wx Bx 26 [.slice vb A.length vd] ∧ OwnAt wx 61 (fileCells A) A.length vb wr.heap.size wx.heap.size))
        case first =>
          go_region_with (first | (go_at_call 39; refine Calls.mono (CF.out _ HGa) ?_; rintro e w5 ⟨vb, vd, rfl, H5⟩) | (go_at_call 39; refine Calls.mono (CF.out _ HGb) ?_; rintro e w5 ⟨vb, vd, rfl, H5⟩; have z0 := (HBX.out.on H5.out.2.1 HBX.out.lt).cell (j := 0) rfl; have z1 := (HBX.out.on H5.out.2.1 HBX.out.lt).thaw 0))
          all_goals
            go_wp2_with fail
            go_meet
            first
            | (have hbm := below_more (Below.refl w5.heap.size w5) (.cells #[.slice vb A.length vd] 26)
               exact ⟨w5.heap.size, vb, vd, rfl, rfl, below_via H5.out.2.2 hbm, heap_alloc_new w5 _, (H5.out.1.on hbm).down (Nat.le_refl _) hbm.size⟩)
            | exact ⟨wr.heap.size, vb, vd, rfl, rfl, H5.out.2.2.setCell (p := ⟨wr.heap.size, 0, none⟩) (Nat.le_refl _) _, (HBX.out.on H5.out.2.1 HBX.out.lt).set 0 _, own_ret H5.out.1 (HBX.out.on H5.out.2.1 HBX.out.lt) (Nat.le_refl _) (by decide)⟩
        case rest =>
          obtain ⟨Bx, vb, vd, rfl, rfl, HC⟩ := hcut
          clear CF HGa HGb HBX x0 x1 x2 x3 y0 y1 y2 y3 o0 o1 r0 s0 t0
          have HI2 := hid (HI.out.on HC.out.1)
          have hst := doTo_step hlt HI.out.did
          have r0 := HI2.out.res.cell (j := 0) rfl
          have s0 := HI2.out.res.thaw 0
          have o0 := HI2.out.out.cell (j := 0) rfl
          have t0 := HI2.out.out.thaw 0
          have n0 := HC.out.2.1.cell (j := 0) rfl
          cases hr : doAct o acts[k] with
          | none =>
            rw [hr] at hst
            have hF := HF.out
            rw [doAns, hr] at hF
            cases hF
            have HT2 := hid hst
            have HT := hid HI.out.did
            have HB := hid (HI2.out.below.setCell (p := ⟨w.heap.size + 1, 0, none⟩) (by show _ ≤ _ + 1; omega) (.slice va o.length vc))
            have HO := hid (own_ret (v := .slice va o.length vc) HI2.out.own HI2.out.res (Nat.le_refl _) (by decide))
            clear HI HI2 HC hst hr HF
            go_wp2
            refine bodyPost_ret (v := .tuple #[.agg #[.slice va o.length vc], .int .i64 k]) (by simp [results, Tryz.results11, go_sem, r0]) rfl ⟨k, o, va, vc, rfl, ⟨HT.out, by omega, Or.inr HT2.out⟩, HO.out, HB.out⟩
          | some o' =>
            rw [hr] at hst
            have hF := HF.out
            rw [doAns, hr] at hF
            cases hF
            have hsm : A.length ≤ 1048576 := by have := (diskOk_iff.1 (doAct_right hr)).1; omega
            have HN : Hid (ActsIn w W2.heap.size [] acts (k + 1) A vb vd (wc.setCell ⟨W2.heap.size, 0, none⟩ (.slice vb A.length vd))) :=
              ⟨HI2.out.below.setCell (p := ⟨W2.heap.size, 0, none⟩) (by show _ ≤ W2.heap.size; have := HI2.out.far; omega) _, HI2.out.res.far (by have := HI2.out.far; omega) _, HI2.out.out.set 0 _, (own_ret HC.out.2.2 HI2.out.out (Nat.le_refl _) (by decide)).down (by have := HI.out.below.size; omega) (Nat.le_refl _), hst, hsm, HI2.out.far⟩
            clear HI HI2 HC hst hr HF
            go_wp2
            go_roundg q
            case measure => omega
            case rel => exact ⟨k + 1, A, vb, vd, by omega, by go_num, HN⟩

  | some ad =>
    subst hnil
    have hx0 : BlockIs (w.alloc (.cells #[.slice (some ad) 0 cap] 26)) w.heap.size 26 [.slice (some ad) 0 cap] := heap_alloc_new w _
    obtain ⟨W1, hW1⟩ : ∃ W1, (w.alloc (.cells #[.slice (some ad) 0 cap] 26)).alloc (.cells #[.slice none 0 0] 26) = W1 := ⟨_, rfl⟩
    have hs1 : W1.heap.size = w.heap.size + 2 := by rw [← hW1]; simp [World.alloc, -World.alloc_eq]
    have hb1 : Below w.heap.size w W1 := by rw [← hW1]; exact below_more (below_more (Below.refl _ w) _) _
    have hxD : BlockIs W1 w.heap.size 26 [.slice (some ad) 0 cap] := by rw [← hW1]; exact hx0.on (below_more (Below.refl _ _) _) hx0.lt
    have hxR : BlockIs W1 (w.heap.size + 1) 26 [.slice none 0 0] := by
      rw [← hW1]
      have := heap_alloc_new (w.alloc (.cells #[.slice (some ad) 0 cap] 26)) (.cells #[.slice none 0 0] 26)
      rw [show (w.alloc (.cells #[.slice (some ad) 0 cap] 26)).heap.size = w.heap.size + 1 by simp [World.alloc, -World.alloc_eq]] at this
      exact this
    obtain ⟨W2, hW2⟩ : ∃ W2, W1.alloc (.cells #[] 61) = W2 := ⟨_, rfl⟩
    have hbE : Below W1.heap.size W1 W2 := by rw [← hW2]; exact below_more (Below.refl W1.heap.size W1) _
    have d0 := (hxD.on hbE hxD.lt).cell (j := 0) rfl
    have hs2 : W2.heap.size = W1.heap.size + 1 := by rw [← hW2]; simp [World.alloc, -World.alloc_eq]
    have H2 := hid (And.intro (below_via hb1 hbE) (hxR.on hbE hxR.lt))
    have HS1 := hid hs1
    clear ha hq ham hx0 hb1 hxD hxR hbE hs1
    have q1 : ∀ W : World, ((pure #[] : Sem (Array Value)).run Tryz.prog W) = .ok #[] W := fun _ => rfl
    have q2 : ∀ (W : World) (a : Addr), (storeCells a []).run Tryz.prog W = .ok () W := fun _ _ => rfl
    go_enter Tryz.func11, Tryz.ntmps11
    have hbO := below_more (Below.refl W2.heap.size W2) (.cells #[.slice (some ⟨W1.heap.size, 0, none⟩) 0 0] 26)
    have hxO : BlockIs (W2.alloc (.cells #[.slice (some ⟨W1.heap.size, 0, none⟩) 0 0] 26)) W2.heap.size 26 [.slice (some ⟨W1.heap.size, 0, none⟩) 0 0] := heap_alloc_new W2 _
    have H3 : Hid (ActsIn w W2.heap.size [] acts 0 [] (some ⟨W1.heap.size, 0, none⟩) 0 (W2.alloc (.cells #[.slice (some ⟨W1.heap.size, 0, none⟩) 0 0] 26))) :=
      ⟨below_via H2.out.1 hbO, H2.out.2.on hbO H2.out.2.lt, hxO, Or.inl rfl, rfl, Nat.zero_le _, by have := HS1.out; omega⟩
    clear hbO hxO H2 HS1 hs2
    go_wp2
    clear q1 q2
    go_loopg [7, 8, 9] acts.length (fun q i _ _ wr => ∃ (k : Nat) (o : List FileD) (va : Option Addr) (vc : Nat), k + q = acts.length ∧ i = .int .i64 k ∧ Hid (ActsIn w W2.heap.size [] acts k o va vc wr))
    case atStart => exact ⟨0, [], _, _, by omega, rfl, H3⟩
    case round =>
      obtain ⟨k, o, va, vc, hkg, rfl, HI⟩ := hrel
      clear H3
      have r0 := HI.out.res.cell (j := 0) rfl
      have s0 := HI.out.res.thaw 0
      have o0 := HI.out.out.cell (j := 0) rfl
      have t0 := HI.out.out.thaw 0
      cases gk with
      | zero =>
        have hlt : ¬ (k : Int) < (acts.length : Int) := by omega
        have HB := hid (HI.out.below.setCell (p := ⟨w.heap.size + 1, 0, none⟩) (by show _ ≤ _ + 1; omega) (.slice va o.length vc))
        have HO := hid (own_ret (v := .slice va o.length vc) HI.out.own HI.out.res (Nat.le_refl _) (by decide))
        have HT := hid HI.out.did
        have hk : k = acts.length := by omega
        have HK := hid hk
        clear HI hk
        go_wp2
        refine bodyPost_ret (v := .tuple #[.agg #[.slice va o.length vc], .int .i64 acts.length]) (by simp [results, Tryz.results11, go_sem, r0]) rfl ⟨acts.length, o, va, vc, rfl, ⟨by rw [← HK.out]; exact HT.out, Nat.le_refl _, Or.inl rfl⟩, HO.out, HB.out⟩
      | succ q =>
        have hlt : k < acts.length := by omega
        have hlt' : (k : Int) < (acts.length : Int) := by omega
        have hne : acts ≠ [] := by intro e; rw [e] at hlt; simp at hlt
        obtain ⟨b', off', rfl, hc⟩ := HQ.out.on HI.out.below hne
        obtain ⟨x0, x1, x2, x3⟩ := hc k hlt
        clear hc
        have hbA := below_more (Below.refl wr.heap.size wr) (.cells #[.slice none 0 0] 26)
        have y0 := (hbA.cell (p := ⟨b', off' + k * 4, none⟩) (World.block_lt_of_cell? wr _ x0)).trans x0
        have y1 := (hbA.cell (p := ⟨b', off' + k * 4 + 1, none⟩) (World.block_lt_of_cell? wr _ x1)).trans x1
        have y2 := (hbA.cell (p := ⟨b', off' + k * 4 + 2, none⟩) (World.block_lt_of_cell? wr _ x2)).trans x2
        have y3 := (hbA.cell (p := ⟨b', off' + k * 4 + 3, none⟩) (World.block_lt_of_cell? wr _ x3)).trans x3
        have o1 := (HI.out.out.on hbA HI.out.out.lt).cell (j := 0) rfl
        have hbx : BlockIs (wr.alloc (.cells #[.slice none 0 0] 26)).drew wr.heap.size 26 [.slice none 0 0] := heap_alloc_new wr _
        have HGa := hid (show Below wr.heap.size wr wr.drew from below_drewN (Below.refl _ _) 1)
        have HGb := hid (show Below wr.heap.size wr (wr.alloc (.cells #[.slice none 0 0] 26)).drew from below_drewN hbA 1)
        have HBX := hid hbx
        obtain ⟨A, ok, hF⟩ : ∃ A ok, doAns o acts[k] = (A, ok) := ⟨_, _, rfl⟩
        have CF : Hid (∀ W, Hid (Below wr.heap.size wr W) → Calls Tryz.prog 39 #[.agg #[.slice va o.length vc], .agg #[.int .i64 acts[k].kind, .string acts[k].name, .string acts[k].text, .string acts[k].to]] W fun e W' => ∃ vb vd, e = .returned (.tuple #[.agg #[.slice vb A.length vd], .bool ok]) ∧ Hid (OwnAt W' 61 (fileCells A) A.length vb wr.heap.size W'.heap.size ∧ Below W.heap.size W W' ∧ Below wr.heap.size wr W')) := by
          intro W hW
          have CQ := specDoAct_o va o vc acts[k] HI.out.small (HM.out _ (List.getElem_mem hlt)).2.1 W (HI.out.files.on hW.out)
          rw [hF] at CQ
          dsimp only at CQ
          refine Calls.mono CQ ?_
          rintro e W' ⟨vb, vd, rfl, ho, hb⟩
          exact ⟨vb, vd, rfl, ho.down hW.out.size (Nat.le_refl _), hb, below_via hW.out hb⟩
        have HF := hid hF
        clear hbA hbx hF
        go_upto_region 5 with fail
        go_cut [8, 9] (fun sa sb wx => ∃ Bx vb vd, sa = .pointer (some ⟨Bx, 0, none⟩) ∧ sb = .bool ok ∧ Hid (Below wr.heap.size wr wx ∧ BlockIs wx Bx 26 [.slice vb A.length vd] ∧ OwnAt wx 61 (fileCells A) A.length vb wr.heap.size wx.heap.size))
        case first =>
          go_region_with (first | (go_at_call 39; refine Calls.mono (CF.out _ HGa) ?_; rintro e w5 ⟨vb, vd, rfl, H5⟩) | (go_at_call 39; refine Calls.mono (CF.out _ HGb) ?_; rintro e w5 ⟨vb, vd, rfl, H5⟩; have z0 := (HBX.out.on H5.out.2.1 HBX.out.lt).cell (j := 0) rfl; have z1 := (HBX.out.on H5.out.2.1 HBX.out.lt).thaw 0))
          all_goals
            go_wp2_with fail
            go_meet
            first
            | (have hbm := below_more (Below.refl w5.heap.size w5) (.cells #[.slice vb A.length vd] 26)
               exact ⟨w5.heap.size, vb, vd, rfl, rfl, below_via H5.out.2.2 hbm, heap_alloc_new w5 _, (H5.out.1.on hbm).down (Nat.le_refl _) hbm.size⟩)
            | exact ⟨wr.heap.size, vb, vd, rfl, rfl, H5.out.2.2.setCell (p := ⟨wr.heap.size, 0, none⟩) (Nat.le_refl _) _, (HBX.out.on H5.out.2.1 HBX.out.lt).set 0 _, own_ret H5.out.1 (HBX.out.on H5.out.2.1 HBX.out.lt) (Nat.le_refl _) (by decide)⟩
        case rest =>
          obtain ⟨Bx, vb, vd, rfl, rfl, HC⟩ := hcut
          clear CF HGa HGb HBX x0 x1 x2 x3 y0 y1 y2 y3 o0 o1 r0 s0 t0
          have HI2 := hid (HI.out.on HC.out.1)
          have hst := doTo_step hlt HI.out.did
          have r0 := HI2.out.res.cell (j := 0) rfl
          have s0 := HI2.out.res.thaw 0
          have o0 := HI2.out.out.cell (j := 0) rfl
          have t0 := HI2.out.out.thaw 0
          have n0 := HC.out.2.1.cell (j := 0) rfl
          cases hr : doAct o acts[k] with
          | none =>
            rw [hr] at hst
            have hF := HF.out
            rw [doAns, hr] at hF
            cases hF
            have HT2 := hid hst
            have HT := hid HI.out.did
            have HB := hid (HI2.out.below.setCell (p := ⟨w.heap.size + 1, 0, none⟩) (by show _ ≤ _ + 1; omega) (.slice va o.length vc))
            have HO := hid (own_ret (v := .slice va o.length vc) HI2.out.own HI2.out.res (Nat.le_refl _) (by decide))
            clear HI HI2 HC hst hr HF
            go_wp2
            refine bodyPost_ret (v := .tuple #[.agg #[.slice va o.length vc], .int .i64 k]) (by simp [results, Tryz.results11, go_sem, r0]) rfl ⟨k, o, va, vc, rfl, ⟨HT.out, by omega, Or.inr HT2.out⟩, HO.out, HB.out⟩
          | some o' =>
            rw [hr] at hst
            have hF := HF.out
            rw [doAns, hr] at hF
            cases hF
            have hsm : A.length ≤ 1048576 := by have := (diskOk_iff.1 (doAct_right hr)).1; omega
            have HN : Hid (ActsIn w W2.heap.size [] acts (k + 1) A vb vd (wc.setCell ⟨W2.heap.size, 0, none⟩ (.slice vb A.length vd))) :=
              ⟨HI2.out.below.setCell (p := ⟨W2.heap.size, 0, none⟩) (by show _ ≤ W2.heap.size; have := HI2.out.far; omega) _, HI2.out.res.far (by have := HI2.out.far; omega) _, HI2.out.out.set 0 _, (own_ret HC.out.2.2 HI2.out.out (Nat.le_refl _) (by decide)).down (by have := HI.out.below.size; omega) (Nat.le_refl _), hst, hsm, HI2.out.far⟩
            clear HI HI2 HC hst hr HF
            go_wp2
            go_roundg q
            case measure => omega
            case rel => exact ⟨k + 1, A, vb, vd, by omega, by go_num, HN⟩

end Go.Proofs.YtoanhjjigbjecaaGreatDoor

namespace Go.Proofs.YtoanhjjigbjecaaGreatDoor
open Go.RowKit

theorem specDoActs_s (ao : Option Addr) (l : List FileD) (cap : Nat) (bo : Option Addr) (acts : List ActD) (bcap : Nat) (hl : l.length ≤ 1048576) (hal : acts.length ≤ 1048576) (ham : ActsSmall acts) (w : World) (ha : FilesAt w ao l) (hq : ActsAt w bo acts) :
    Calls Tryz.prog 11 #[.agg #[.slice ao l.length cap], .slice bo acts.length bcap] w fun e w' => ∃ va vc, e = .returned (.tuple #[.agg #[.slice va (doAll l acts).1.length vc], .int .i64 (doAll l acts).2]) ∧ OwnAt w' 61 (fileCells (doAll l acts).1) (doAll l acts).1.length va w.heap.size w'.heap.size ∧ Below w.heap.size w w' := by
  have h : Calls Tryz.prog 11 #[.agg #[.slice ao l.length cap], .slice bo acts.length bcap] w fun e w' => DidActs w l acts (fun W o va => OwnAt W 61 (fileCells o) o.length va w.heap.size W.heap.size) e w' := by
    rcases Nat.eq_zero_or_pos l.length with h0 | hpos
    · exact specDoActs_nil ao l cap bo acts bcap hl hal ham (List.length_eq_zero_iff.1 h0) w ha hq
    · exact specDoActs_any ao l cap bo acts bcap hl hal ham hpos w ha hq
  refine h.mono ?_
  rintro e w' ⟨i, o, va, vc, rfl, ⟨h1, h2, h3⟩, ho, hb⟩
  rw [doAll_eq h1 h2 h3]
  exact ⟨va, vc, rfl, ho, hb⟩
end Go.Proofs.YtoanhjjigbjecaaGreatDoor
