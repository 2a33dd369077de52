/-
  The walks of impl's acts on an open disk: add, keep, move, drop.
  The walks of impl's move on an open disk, and of do: every act.
-/
import Derived.Test.YtbbohfagnnobgaaJoint18
import Derived.Test.YtbbohfagnnobgaaJoint56
import Derived.BigQuiet
import Derived.BigRegion
namespace Go.Proofs.Ytbbohfagnnobgaa
open Go.RowKit Go.Maps

/-- what an act on an open disk leaves -/
def OpenDid (w : World) (b : Nat) (l : List FileD) (lo : Nat) (r : Option (List FileD)) (e : Ending) (w' : World) : Prop :=
  e = .returned (.bool r.isSome) ∧ (∃ adr D, OpenIs w' b (r.getD l) adr lo D) ∧ Below lo w w'
theorem did_none {w w' : World} {b lo : Nat} {l : List FileD} {e : Ending} {adr : ByteArray → Nat} {D : DataW Unit} {r : Option (List FileD)} (hr : r = none) (he : e = .returned (.bool false)) (h : OpenIs w' b l adr lo D) (hb : Below lo w w') : OpenDid w b l lo r e w' := by
  subst hr; exact ⟨he, ⟨adr, D, h⟩, hb⟩
theorem did_some {w w' : World} {b lo : Nat} {l o : List FileD} {e : Ending} {adr : ByteArray → Nat} {D : DataW Unit} {r : Option (List FileD)} (hr : r = some o) (he : e = .returned (.bool true)) (h : OpenIs w' b o adr lo D) (hb : Below lo w w') : OpenDid w b l lo r e w' := by
  subst hr; exact ⟨he, ⟨adr, D, h⟩, hb⟩
theorem below_turned {w w' : World} {b lo : Nat} (h : w.mapTurned w' b) (hlo : lo ≤ b) (hw : lo ≤ w.heap.size) : Below lo w w' :=
  (Below.refl lo w).grown h.grown hw (fun j hj => by cases hj; exact hlo)
theorem OpenIs.lt {w : World} {b : Nat} {l : List FileD} {adr : ByteArray → Nat} {lo : Nat} {D : DataW Unit} (h : OpenIs w b l adr lo D) : lo ≤ w.heap.size := Nat.le_trans h.low (Nat.le_of_lt h.own.lt)

set_option maxRecDepth 1000000 in
theorem implDrop_any (b : Nat) (l : List FileD) (adr : ByteArray → Nat) (lo : Nat) (D : DataW Unit) (name : ByteArray) (hs : name.size ≤ maxLen) (w : World) (h : OpenIs w b l adr lo D) :
    Calls Try.prog 74 #[.map (some b), .string name] w fun e w' => OpenDid w b l lo (doAct l ⟨4, name, ByteArray.empty, ByteArray.empty⟩) e w' := by
  have H := hid h
  have hown := h.own
  rcases h.look hs with ⟨f, hf, hrun, hblk⟩ | ⟨hf, hrun⟩
  · have HR := hid (doAct_drop_found h.right hf)
    clear h hf hblk
    go_enter Try.func74, Try.ntmps74
    go_wp2_with (at_delete; refine wpList_delete_own _ rfl _ _ 72 9 rfl 103 open_keyed Try.underlying72 _ b _ D rfl hown _ _ rfl (keyL_of hs) ?_; intro w1 hown1 hturn1)
    go_ret
    exact did_some HR.out rfl (open_del H.out hown1 hturn1) (below_turned hturn1 H.out.low H.out.lt)
  · have HR := hid (doAct_none (l := l) (a := ⟨4, name, ByteArray.empty, ByteArray.empty⟩) (by simp) hf)
    have HN := hid (not_all (found_not hf))
    clear h hf
    go_enter Try.func74, Try.ntmps74
    go_wp2_with (at_delete; refine wpList_delete_own _ rfl _ _ 72 9 rfl 103 open_keyed Try.underlying72 _ b _ D rfl hown _ _ rfl (keyL_of hs) ?_; intro w1 hown1 hturn1)
    go_ret
    have hd := open_del H.out hown1 hturn1
    rw [HN.out] at hd
    exact did_none HR.out rfl hd (below_turned hturn1 H.out.low H.out.lt)

set_option maxRecDepth 1000000 in
theorem implKeep_any (b : Nat) (l : List FileD) (adr : ByteArray → Nat) (lo : Nat) (D : DataW Unit) (name : ByteArray) (hs : name.size ≤ maxLen) (w : World) (h : OpenIs w b l adr lo D) :
    Calls Try.prog 72 #[.map (some b), .string name] w fun e w' => OpenDid w b l lo (doAct l ⟨2, name, ByteArray.empty, ByteArray.empty⟩) e w' := by
  have H := hid h
  rcases h.look hs with ⟨f, hf, hrun, hblk⟩ | ⟨hf, hrun⟩
  · have HR := hid (doAct_keep_found h.right hf)
    have HF := hid hf
    have x0 := hblk.cell (j := 0) rfl
    have x1 := hblk.cell (j := 1) rfl
    have f1 := hblk.thaw 1
    have hsz := (found_right h.right hf).2.1
    have HBL := hid hblk
    clear h hf hblk
    go_enter Try.func72, Try.ntmps72
    go_wp2
    go_ret
    exact did_some HR.out rfl (open_set H.out HF.out (doAct_right HR.out) rfl (HBL.out.set 1 _)) ((Below.refl _ _).setCell (p := ⟨adr name, 1, none⟩) (by show lo ≤ adr name; have := H.out.lows _ (found_mem HF.out).1; rw [(found_mem HF.out).2] at this; exact this) _)
  · have HR := hid (doAct_none (l := l) (a := ⟨2, name, ByteArray.empty, ByteArray.empty⟩) (by simp) hf)
    clear h hf
    go_enter Try.func72, Try.ntmps72
    go_wp2
    go_ret
    exact did_none HR.out rfl H.out (Below.refl _ _)

set_option maxRecDepth 1000000 in
theorem implAllKeptFile_any (g : Nat) (t : ByteArray) (k : Int) (w : World) (hb : BlockIs w g 105 [.string t, .int .i64 k]) :
    Calls Try.prog 84 #[.pointer (some ⟨g, 0, none⟩)] w fun e w' => e = .returned (.bool (k == (t.size : Int))) ∧ ∃ n, w' = w.drewN n := by
  have x0 := hb.cell (j := 0) rfl
  have x1 := hb.cell (j := 1) rfl
  clear hb
  go_enter Try.func84, Try.ntmps84
  go_wp2
  go_region
  go_wp2
  go_ret
  exact ⟨rfl, 1, rfl⟩

set_option maxRecDepth 1000000 in
set_option maxHeartbeats 1000000 in
theorem implAdd_any (b : Nat) (l : List FileD) (adr : ByteArray → Nat) (lo : Nat) (D : DataW Unit) (name text : ByteArray) (hs : name.size ≤ maxLen) (ht : text.size ≤ 1048576) (w : World) (h : OpenIs w b l adr lo D) :
    Calls Try.prog 71 #[.map (some b), .string name, .string text] w fun e w' => OpenDid w b l lo (doAct l ⟨1, name, text, ByteArray.empty⟩) e w' := by
  have H := hid h
  have hlen : Maps.size D ≤ 30 := by rw [h.size]; exact (diskOk_iff.1 h.right).1
  rcases h.look hs with ⟨f, hf, hrun, hblk⟩ | ⟨hf, hrun⟩
  · have HR := hid (doAct_add_found (text := text) h.right hf)
    have HF := hid hf
    have x0 := hblk.cell (j := 0) rfl
    have x1 := hblk.cell (j := 1) rfl
    have f0 := hblk.thaw 0
    have hsz := (found_right h.right hf).2.1
    have HBL := hid hblk
    obtain ⟨hm, hn⟩ := found_mem hf
    have hne : b ≠ adr name := fun e => owns_apart h.own (h.blk f hm) (by rw [hn]; exact e.symm)
    have hown := h.own.setCell (a := ⟨adr name, 0, none⟩) hne (.string (f.text ++ text))
    by_cases hbig : f.text.size + text.size ≤ 20000
    · have hbig' : ¬ (20000 : Int) < (f.text.size : Int) + (text.size : Int) := by omega
      clear h hf hblk hm hn
      go_enter Try.func71, Try.ntmps71
      go_wp2_with (at_mapUpdate; refine wpList_mapUpdate_in _ rfl _ _ _ 72 rfl 9 103 open_keyed Try.underlying72 ptrRead b _ D rfl hown (by unfold maxLen; omega) _ _ _ rfl rfl (keyL_of hs) (.lit (.int .i64 (adr name))) [] (ptrRead_mk (adr name)) ?_; intro w1 hown1 hturn1)
      go_ret
      have hR := HR.out
      rw [if_pos hbig] at hR
      obtain ⟨hm, hn⟩ := found_mem HF.out
      refine did_some hR rfl (open_put (w := w.setCell ⟨adr name, 0, none⟩ (.string (f.text ++ text))) ⟨name, f.text ++ text, f.kept⟩ H.out.has H.out.at_ H.out.inj H.out.own.isMap H.out.low (doAct_right hR) hown1 hturn1 (fun k t cs hk => owns_apart hown hk) (fun g hg q => ?_) ?_ (HBL.out.set 0 _)) ?_
      · have hq : adr g.name ≠ adr name := fun e => q (by have := H.out.inj g hg f hm (by rw [hn]; exact e); rw [this, hn])
        exact ⟨H.out.lows g hg, hq, (H.out.blk g hg).far (fun e => hq e.symm) _⟩
      · have := H.out.lows f hm; rw [hn] at this; exact this
      · refine Below.trans ((Below.refl lo w).setCell (p := ⟨adr name, 0, none⟩) (by show lo ≤ adr name; have := H.out.lows f hm; rw [hn] at this; exact this) _) (below_turned hturn1 H.out.low ?_)
        rw [show (w.setCell ⟨adr name, 0, none⟩ (.string (f.text ++ text))).heap.size = w.heap.size by simp [World.setCell]]
        exact H.out.lt
    · have hbig' : (20000 : Int) < (f.text.size : Int) + (text.size : Int) := by omega
      clear h hf hblk hm hn hown
      go_enter Try.func71, Try.ntmps71
      go_wp2
      go_ret
      exact did_none (by rw [HR.out, if_neg hbig]) rfl H.out (Below.refl _ _)
  · have HR := hid (doAct_add_new (text := text) h.right hf)
    have HL := hid h.size
    have hlrun := h.own.len Try.underlying72 3
    have HF := hid hf
    have C' := fun w => implNameOk_any name w
    have hown := h.own.alloc (.cells #[.string (⟨#[]⟩ ++ text), .int .i64 0] 105)
    clear hf
    cases hnm : nameOk name with
    | false =>
      rw [hnm] at C'
      have C := hid C'
      clear C' h hown
      go_enter Try.func71, Try.ntmps71
      go_wp2_with fail
      refine (C.out _).mono ?_
      rintro e w' ⟨rfl, hw⟩
      rw [hw]
      clear hw w' C
      go_wp2
      go_ret
      exact did_none (by rw [HR.out, if_neg (fun q => by rw [hnm] at q; simp at q)]) rfl H.out (Below.refl _ _)
    | true =>
      rw [hnm] at C'
      have C := hid C'
      clear C' h
      by_cases h30 : l.length < 30
      · have h30' : ¬ (30 : Int) ≤ (Maps.size D : Int) := by rw [HL.out]; omega
        by_cases hbig : text.size ≤ 20000
        · have hbig' : ¬ (20000 : Int) < (text.size : Int) := by omega
          go_enter Try.func71, Try.ntmps71
          go_wp2_with fail
          refine (C.out _).mono ?_
          rintro e w' ⟨rfl, hw⟩
          rw [hw]
          clear hw w' C
          go_wp2_with (at_mapUpdate; refine wpList_mapUpdate_in _ rfl _ _ _ 72 rfl 9 103 open_keyed Try.underlying72 ptrRead b _ D rfl hown (by unfold maxLen; omega) _ _ _ rfl rfl (keyL_of hs) (.lit (.int .i64 w.heap.size)) [] (ptrRead_mk w.heap.size) ?_; intro w1 hown1 hturn1)
          go_ret
          have hR := HR.out
          rw [if_pos ⟨hnm, h30, hbig⟩] at hR
          have hb := below_more (Below.refl w.heap.size w) (.cells #[.string (⟨#[]⟩ ++ text), .int .i64 0] 105)
          have hnew : BlockIs (w.alloc (.cells #[.string (⟨#[]⟩ ++ text), .int .i64 0] 105)) w.heap.size 105 [.string (⟨#[]⟩ ++ text), .int .i64 0] := heap_alloc_new w _
          refine did_some hR rfl (open_put (w := w.alloc (.cells #[.string (⟨#[]⟩ ++ text), .int .i64 0] 105)) (g := w.heap.size) ⟨name, ByteArray.empty ++ text, 0⟩ H.out.has H.out.at_ H.out.inj H.out.own.isMap H.out.low (doAct_right hR) hown1 hturn1 (fun k t cs hk => owns_apart hown hk) (fun g hg q => ?_) H.out.lt hnew) ?_
          · have := (H.out.blk g hg).lt
            exact ⟨H.out.lows g hg, by omega, (H.out.blk g hg).on hb this⟩
          · refine Below.trans (hb.mono H.out.lt) (below_turned hturn1 H.out.low (Nat.le_trans H.out.lt hb.size))
        · have hbig' : (20000 : Int) < (text.size : Int) := by omega
          clear hown
          go_enter Try.func71, Try.ntmps71
          go_wp2_with fail
          refine (C.out _).mono ?_
          rintro e w' ⟨rfl, hw⟩
          rw [hw]
          clear hw w' C
          go_wp2
          go_ret
          exact did_none (by rw [HR.out, if_neg (fun q => hbig q.2.2)]) rfl (H.out.on (below_more (Below.refl _ w) _)) ((below_more (Below.refl _ w) _).mono H.out.lt)
      · have h30' : (30 : Int) ≤ (Maps.size D : Int) := by rw [HL.out]; omega
        clear hown
        go_enter Try.func71, Try.ntmps71
        go_wp2_with fail
        refine (C.out _).mono ?_
        rintro e w' ⟨rfl, hw⟩
        rw [hw]
        clear hw w' C
        go_wp2
        go_ret
        exact did_none (by rw [HR.out, if_neg (fun q => h30 q.2.1)]) rfl H.out (Below.refl _ _)
end Go.Proofs.Ytbbohfagnnobgaa

namespace Go.Proofs.Ytbbohfagnnobgaa
open Go.RowKit Go.Maps

set_option maxRecDepth 1000000 in
set_option maxHeartbeats 1000000 in
theorem implMove_any (b : Nat) (l : List FileD) (adr : ByteArray → Nat) (lo : Nat) (D : DataW Unit) (name to : ByteArray) (hs : name.size ≤ maxLen) (ht : to.size ≤ maxLen) (w : World) (h : OpenIs w b l adr lo D) :
    Calls Try.prog 73 #[.map (some b), .string name, .string to] w fun e w' => OpenDid w b l lo (doAct l ⟨3, name, ByteArray.empty, to⟩) e w' := by
  have H := hid h
  have hlen : Maps.size D ≤ 30 := by rw [h.size]; exact (diskOk_iff.1 h.right).1
  rcases h.look hs with ⟨f, hf, hrun, hblk⟩ | ⟨hf, hrun⟩
  · have HR := hid (doAct_move_found (to := to) h.right hf)
    have HF := hid hf
    have hsz := (found_right h.right hf).2.2
    have CA' := fun w hb => implAllKeptFile_any (adr name) f.text f.kept w hb
    have HBL := hid hblk
    clear h hf hblk
    by_cases hk : f.kept < (f.text.size : Int)
    · have hk' : (f.kept == (f.text.size : Int)) = false := by rw [beq_eq_false_iff_ne]; omega
      rw [hk'] at CA'
      have CA := hid CA'
      clear CA' hk'
      go_enter Try.func73, Try.ntmps73
      go_wp2_with fail
      refine (CA.out _ HBL.out).mono ?_
      rintro e w' ⟨rfl, n, hw⟩
      have H2 : Hid (OpenIs w' b l adr lo D ∧ Below lo w w') := by rw [hw]; exact ⟨H.out.on (below_drewN (Below.refl _ _) n), below_drewN (Below.refl _ _) n⟩
      clear hw CA hrun
      go_wp2
      go_ret
      exact did_none (by rw [HR.out, if_pos (by simp [hk])]) rfl H2.out.1 H2.out.2
    · have hk' : (f.kept == (f.text.size : Int)) = true := by rw [beq_iff_eq]; omega
      rw [hk'] at CA'
      have CA := hid CA'
      clear CA' hk'
      cases h2 : (to.toList == name.toList) with
      | true =>
        go_enter Try.func73, Try.ntmps73
        go_wp2_with fail
        refine (CA.out _ HBL.out).mono ?_
        rintro e w' ⟨rfl, n, hw⟩
        have H2 : Hid (OpenIs w' b l adr lo D ∧ Below lo w w') := by rw [hw]; exact ⟨H.out.on (below_drewN (Below.refl _ _) n), below_drewN (Below.refl _ _) n⟩
        clear hw CA hrun
        go_wp2
        go_ret
        exact did_none (by rw [HR.out, if_pos (by simp [h2])]) rfl H2.out.1 H2.out.2
      | false =>
        have C' := fun w => implNameOk_any to w
        cases h3 : nameOk to with
        | false =>
          rw [h3] at C'
          have C := hid C'
          clear C'
          go_enter Try.func73, Try.ntmps73
          go_wp2_with fail
          refine (CA.out _ HBL.out).mono ?_
          rintro e w' ⟨rfl, n, hw⟩
          have H2 : Hid (OpenIs w' b l adr lo D ∧ Below lo w w') := by rw [hw]; exact ⟨H.out.on (below_drewN (Below.refl _ _) n), below_drewN (Below.refl _ _) n⟩
          clear hw CA hrun
          go_wp2_with fail
          refine (C.out _).mono ?_
          rintro e w2 ⟨rfl, hw⟩
          rw [hw]
          clear hw w2 C
          go_wp2
          go_ret
          exact did_none (by rw [HR.out, if_pos (by simp [h3])]) rfl H2.out.1 H2.out.2
        | true =>
          rw [h3] at C'
          have C := hid C'
          clear C'
          go_enter Try.func73, Try.ntmps73
          go_wp2_with fail
          refine (CA.out _ HBL.out).mono ?_
          rintro e w' ⟨rfl, n, hw⟩
          have H2 : Hid (OpenIs w' b l adr lo D ∧ Below lo w w' ∧ BlockIs w' (adr name) 105 [.string f.text, .int .i64 f.kept]) := by rw [hw]; exact ⟨H.out.on (below_drewN (Below.refl _ _) n), below_drewN (Below.refl _ _) n, HBL.out.on (below_drewN (Below.refl _ _) n) HBL.out.lt⟩
          have hown := H2.out.1.own
          clear hw CA hrun
          go_wp2_with fail
          refine (C.out _).mono ?_
          rintro e w2 ⟨rfl, hw⟩
          rw [hw]
          clear hw w2 C
          go_wp2_with (first | (at_delete; refine wpList_delete_own _ rfl _ _ 72 9 rfl 103 open_keyed Try.underlying72 _ b _ D rfl hown _ _ rfl (keyL_of hs) ?_; intro w3 hown1 hturn1) | (at_mapUpdate; refine wpList_mapUpdate_in _ rfl _ _ _ 72 rfl 9 103 open_keyed Try.underlying72 ptrRead b _ (D.del (keyL name)) rfl hown1 (by unfold maxLen; omega) _ _ _ rfl rfl (keyL_of ht) (.lit (.int .i64 (adr name))) [] (ptrRead_mk (adr name)) ?_; intro w4 hown2 hturn2))
          go_ret
          have hR := HR.out
          rw [if_neg (by simp [hk, h2, h3])] at hR
          obtain ⟨hm, hn⟩ := found_mem HF.out
          have hdel := open_del H2.out.1 hown1 hturn1
          have hlow : lo ≤ adr name := by have := H.out.lows f hm; rw [hn] at this; exact this
          refine did_some hR rfl (open_put (w := w3) (g := adr name) ⟨to, f.text, f.kept⟩ hdel.has hdel.at_ hdel.inj hdel.own.isMap hdel.low (doAct_right hR) hown2 hturn2 (fun k t cs hk => owns_apart hown1 hk) (fun g hg q => ?_) hlow (H2.out.2.2.turned hturn1 (owns_apart hown H2.out.2.2))) ?_
          · refine ⟨hdel.lows g hg, fun e => (mem_not.1 hg).2 ?_, hdel.blk g hg⟩
            have := H.out.inj g (mem_not.1 hg).1 f hm (by rw [hn]; exact e)
            rw [this, hn]
          · exact (H2.out.2.1.trans (below_turned hturn1 H.out.low H2.out.1.lt)).trans (below_turned hturn2 H.out.low hdel.lt)
  · have HR := hid (doAct_none (l := l) (a := ⟨3, name, ByteArray.empty, to⟩) (by simp) hf)
    clear h hf
    go_enter Try.func73, Try.ntmps73
    go_wp2
    go_ret
    exact did_none HR.out rfl H.out (Below.refl _ _)

theorem OpenDid.via {w w1 w' : World} {b lo : Nat} {l : List FileD} {r : Option (List FileD)} {e : Ending} (h : OpenDid w1 b l lo r e w') (hb : Below lo w w1) : OpenDid w b l lo r e w' := ⟨h.1, h.2.1, hb.trans h.2.2⟩
theorem isBlank_eq {s : ByteArray} (h : blank s = true) : s = ByteArray.empty := by
  rw [blank, beq_iff_eq] at h
  exact text_eq (by rw [h, ByteArray.toList_eq]; rfl)

set_option maxRecDepth 1000000 in
set_option maxHeartbeats 1000000 in
theorem implDo_any (b : Nat) (l : List FileD) (adr : ByteArray → Nat) (lo : Nat) (D : DataW Unit) (a : ActD) (hs : a.name.size ≤ 1048576 ∧ a.text.size ≤ 1048576 ∧ a.to.size ≤ 1048576) (w : World) (h : OpenIs w b l adr lo D) :
    Calls Try.prog 43 #[.map (some b), a.value] w fun e w' => OpenDid w b l lo (doAct l a) e w' := by
  obtain ⟨kd, name, text, to⟩ := a
  obtain ⟨s1, s2, s3⟩ := hs
  unfold ActD.value
  dsimp only at s1 s2 s3 ⊢
  have hm : name.size ≤ maxLen := by unfold maxLen; omega
  have hm2 : to.size ≤ maxLen := by unfold maxLen; omega
  have hbA := fun (c : Array Value) => below_more (Below.refl w.heap.size w) (.cells c 37)
  have HH : Hid (∀ c : Array Value, OpenIs (w.alloc (.cells c 37)) b l adr lo D ∧ Below lo w (w.alloc (.cells c 37))) := fun c => ⟨h.on (hbA c), (hbA c).mono h.lt⟩
  clear hbA h
  by_cases k1 : kd = 1
  · subst k1
    cases hb : blank to with
    | false =>
      have hb' : (to.toList == []) = false := hb
      have HR := hid (doAct_bad (l := l) (a := ⟨1, name, text, to⟩) (Or.inr ⟨by simp, hb⟩))
      clear hb
      go_enter Try.func43, Try.ntmps43
      go_wp2
      go_ret
      exact did_none HR.out rfl (HH.out _).1 (HH.out _).2
    | true =>
      obtain rfl := isBlank_eq hb
      have C := hid (fun w h => implAdd_any b l adr lo D name text hm s2 w h)
      clear hb
      go_enter Try.func43, Try.ntmps43
      go_wp2_with fail
      refine (C.out _ (HH.out _).1).mono ?_
      rintro e w1 ⟨rfl, h2, h3⟩
      have HD := hid (And.intro h2 h3)
      clear h2 h3 C
      go_wp2
      go_ret
      exact ⟨rfl, HD.out.1, (HH.out _).2.trans HD.out.2⟩
  · cases hb : blank text with
    | false =>
      have hb' : (text.toList == []) = false := hb
      have HR := hid (doAct_bad (l := l) (a := ⟨kd, name, text, to⟩) (Or.inl ⟨k1, hb⟩))
      clear hb
      go_enter Try.func43, Try.ntmps43
      go_wp2
      go_ret
      exact did_none HR.out rfl (HH.out _).1 (HH.out _).2
    | true =>
      obtain rfl := isBlank_eq hb
      clear hb
      by_cases k3 : kd = 3
      · subst k3
        have C := hid (fun w h => implMove_any b l adr lo D name to hm hm2 w h)
        go_enter Try.func43, Try.ntmps43
        go_wp2_with fail
        refine (C.out _ (HH.out _).1).mono ?_
        rintro e w1 ⟨rfl, h2, h3⟩
        have HD := hid (And.intro h2 h3)
        clear h2 h3 C
        go_wp2
        go_ret
        exact ⟨rfl, HD.out.1, (HH.out _).2.trans HD.out.2⟩
      · cases hb : blank to with
        | false =>
          have hb' : (to.toList == []) = false := hb
          have HR := hid (doAct_bad (l := l) (a := ⟨kd, name, ByteArray.empty, to⟩) (Or.inr ⟨k3, hb⟩))
          clear hb
          go_enter Try.func43, Try.ntmps43
          go_wp2
          go_ret
          exact did_none HR.out rfl (HH.out _).1 (HH.out _).2
        | true =>
          obtain rfl := isBlank_eq hb
          clear hb
          by_cases k2 : kd = 2
          · subst k2
            have C := hid (fun w h => implKeep_any b l adr lo D name hm w h)
            go_enter Try.func43, Try.ntmps43
            go_wp2_with fail
            refine (C.out _ (HH.out _).1).mono ?_
            rintro e w1 ⟨rfl, h2, h3⟩
            have HD := hid (And.intro h2 h3)
            clear h2 h3 C
            go_wp2
            go_ret
            exact ⟨rfl, HD.out.1, (HH.out _).2.trans HD.out.2⟩
          · by_cases k4 : kd = 4
            · subst k4
              have C := hid (fun w h => implDrop_any b l adr lo D name hm w h)
              go_enter Try.func43, Try.ntmps43
              go_wp2_with fail
              refine (C.out _ (HH.out _).1).mono ?_
              rintro e w1 ⟨rfl, h2, h3⟩
              have HD := hid (And.intro h2 h3)
              clear h2 h3 C
              go_wp2
              go_ret
              exact ⟨rfl, HD.out.1, (HH.out _).2.trans HD.out.2⟩
            · have HR := hid (doAct_other (l := l) (a := ⟨kd, name, ByteArray.empty, ByteArray.empty⟩) k1 k2 k3 k4)
              go_enter Try.func43, Try.ntmps43
              go_wp2
              go_ret
              exact did_none HR.out rfl (HH.out _).1 (HH.out _).2
end Go.Proofs.Ytbbohfagnnobgaa
