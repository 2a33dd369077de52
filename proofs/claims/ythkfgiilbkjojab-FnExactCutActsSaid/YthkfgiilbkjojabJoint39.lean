/-
  The walks of impl's move on an open disk, and of do: every act.
-/
import Derived.Test.YthkfgiilbkjojabJoint38
namespace Go.Proofs.Ythkfgiilbkjojab
open Go.RowKit Go.Maps

set_option maxRecDepth 1000000 in
set_option maxHeartbeats 1000000 in
theorem implMove_any (b : Nat) (l : List FileD) (adr : ByteArray → Nat) (lo : Nat) (D : DataW Unit) (name to : ByteArray) (hs : name.size ≤ maxLen) (ht : to.size ≤ maxLen) (w : World) (h : OpenIs w b l adr lo D) :
    Calls Try.prog 53 #[.map (some b), .string name, .string to] w fun e w' => OpenDid w b l lo (doAct l ⟨3, name, ByteArray.empty, to⟩) e w' := by
  have H := hid h
  have hlen : Maps.size D ≤ 30 := by rw [h.size]; exact (diskOk_iff.1 h.right).1
  rcases h.look hs with ⟨f, hf, hrun, hblk⟩ | ⟨hf, hrun⟩
  · have HR := hid (doAct_move_found (to := to) h.right hf)
    have HF := hid hf
    have hsz := (found_right h.right hf).2.2
    have CA' := fun w hb => implAllKeptFile_any (adr name) f.text f.kept w hb
    have HBL := hid hblk
    clear h hf hblk
    by_cases hk : f.kept < (f.text.size : Int)
    · have hk' : (f.kept == (f.text.size : Int)) = false := by rw [beq_eq_false_iff_ne]; omega
      rw [hk'] at CA'
      have CA := hid CA'
      clear CA' hk'
      go_enter Try.func53, Try.ntmps53
      go_wp2_with fail
      refine (CA.out _ HBL.out).mono ?_
      rintro e w' ⟨rfl, n, hw⟩
      have H2 : Hid (OpenIs w' b l adr lo D ∧ Below lo w w') := by rw [hw]; exact ⟨H.out.on (below_drewN (Below.refl _ _) n), below_drewN (Below.refl _ _) n⟩
      clear hw CA hrun
      go_wp2
      go_ret
      exact did_none (by rw [HR.out, if_pos (by simp [hk])]) rfl H2.out.1 H2.out.2
    · have hk' : (f.kept == (f.text.size : Int)) = true := by rw [beq_iff_eq]; omega
      rw [hk'] at CA'
      have CA := hid CA'
      clear CA' hk'
      cases h2 : (to.toList == name.toList) with
      | true =>
        go_enter Try.func53, Try.ntmps53
        go_wp2_with fail
        refine (CA.out _ HBL.out).mono ?_
        rintro e w' ⟨rfl, n, hw⟩
        have H2 : Hid (OpenIs w' b l adr lo D ∧ Below lo w w') := by rw [hw]; exact ⟨H.out.on (below_drewN (Below.refl _ _) n), below_drewN (Below.refl _ _) n⟩
        clear hw CA hrun
        go_wp2
        go_ret
        exact did_none (by rw [HR.out, if_pos (by simp [h2])]) rfl H2.out.1 H2.out.2
      | false =>
        have C' := fun w => implNameOk_any to w
        cases h3 : nameOk to with
        | false =>
          rw [h3] at C'
          have C := hid C'
          clear C'
          go_enter Try.func53, Try.ntmps53
          go_wp2_with fail
          refine (CA.out _ HBL.out).mono ?_
          rintro e w' ⟨rfl, n, hw⟩
          have H2 : Hid (OpenIs w' b l adr lo D ∧ Below lo w w') := by rw [hw]; exact ⟨H.out.on (below_drewN (Below.refl _ _) n), below_drewN (Below.refl _ _) n⟩
          clear hw CA hrun
          go_wp2_with fail
          refine (C.out _).mono ?_
          rintro e w2 ⟨rfl, hw⟩
          rw [hw]
          clear hw w2 C
          go_wp2
          go_ret
          exact did_none (by rw [HR.out, if_pos (by simp [h3])]) rfl H2.out.1 H2.out.2
        | true =>
          rw [h3] at C'
          have C := hid C'
          clear C'
          go_enter Try.func53, Try.ntmps53
          go_wp2_with fail
          refine (CA.out _ HBL.out).mono ?_
          rintro e w' ⟨rfl, n, hw⟩
          have H2 : Hid (OpenIs w' b l adr lo D ∧ Below lo w w' ∧ BlockIs w' (adr name) 85 [.string f.text, .int .i64 f.kept]) := by rw [hw]; exact ⟨H.out.on (below_drewN (Below.refl _ _) n), below_drewN (Below.refl _ _) n, HBL.out.on (below_drewN (Below.refl _ _) n) HBL.out.lt⟩
          have hown := H2.out.1.own
          clear hw CA hrun
          go_wp2_with fail
          refine (C.out _).mono ?_
          rintro e w2 ⟨rfl, hw⟩
          rw [hw]
          clear hw w2 C
          go_wp2_with (first | (at_delete; refine wpList_delete_own _ rfl _ _ 70 9 rfl 83 open_keyed Try.underlying70 _ b _ D rfl hown _ _ rfl (keyL_of hs) ?_; intro w3 hown1 hturn1) | (at_mapUpdate; refine wpList_mapUpdate_in _ rfl _ _ _ 70 rfl 9 83 open_keyed Try.underlying70 ptrRead b _ (D.del (keyL name)) rfl hown1 (by unfold maxLen; omega) _ _ _ rfl rfl (keyL_of ht) (.lit (.int .i64 (adr name))) [] (ptrRead_mk (adr name)) ?_; intro w4 hown2 hturn2))
          go_ret
          have hR := HR.out
          rw [if_neg (by simp [hk, h2, h3])] at hR
          obtain ⟨hm, hn⟩ := found_mem HF.out
          have hdel := open_del H2.out.1 hown1 hturn1
          have hlow : lo ≤ adr name := by have := H.out.lows f hm; rw [hn] at this; exact this
          refine did_some hR rfl (open_put (w := w3) (g := adr name) ⟨to, f.text, f.kept⟩ hdel.has hdel.at_ hdel.inj hdel.own.isMap hdel.low (doAct_right hR) hown2 hturn2 (fun k t cs hk => owns_apart hown1 hk) (fun g hg q => ?_) hlow (H2.out.2.2.turned hturn1 (owns_apart hown H2.out.2.2))) ?_
          · refine ⟨hdel.lows g hg, fun e => (mem_not.1 hg).2 ?_, hdel.blk g hg⟩
            have := H.out.inj g (mem_not.1 hg).1 f hm (by rw [hn]; exact e)
            rw [this, hn]
          · exact (H2.out.2.1.trans (below_turned hturn1 H.out.low H2.out.1.lt)).trans (below_turned hturn2 H.out.low hdel.lt)
  · have HR := hid (doAct_none (l := l) (a := ⟨3, name, ByteArray.empty, to⟩) (by simp) hf)
    clear h hf
    go_enter Try.func53, Try.ntmps53
    go_wp2
    go_ret
    exact did_none HR.out rfl H.out (Below.refl _ _)

theorem OpenDid.via {w w1 w' : World} {b lo : Nat} {l : List FileD} {r : Option (List FileD)} {e : Ending} (h : OpenDid w1 b l lo r e w') (hb : Below lo w w1) : OpenDid w b l lo r e w' := ⟨h.1, h.2.1, hb.trans h.2.2⟩
theorem isBlank_eq {s : ByteArray} (h : blank s = true) : s = ByteArray.empty := by
  rw [blank, beq_iff_eq] at h
  exact text_eq (by rw [h, ByteArray.toList_eq]; rfl)

set_option maxRecDepth 1000000 in
set_option maxHeartbeats 1000000 in
theorem implDo_any (b : Nat) (l : List FileD) (adr : ByteArray → Nat) (lo : Nat) (D : DataW Unit) (a : ActD) (hs : a.name.size ≤ 1048576 ∧ a.text.size ≤ 1048576 ∧ a.to.size ≤ 1048576) (w : World) (h : OpenIs w b l adr lo D) :
    Calls Try.prog 42 #[.map (some b), a.value] w fun e w' => OpenDid w b l lo (doAct l a) e w' := by
  obtain ⟨kd, name, text, to⟩ := a
  obtain ⟨s1, s2, s3⟩ := hs
  unfold ActD.value
  dsimp only at s1 s2 s3 ⊢
  have hm : name.size ≤ maxLen := by unfold maxLen; omega
  have hm2 : to.size ≤ maxLen := by unfold maxLen; omega
  have hbA := fun (c : Array Value) => below_more (Below.refl w.heap.size w) (.cells c 56)
  have HH : Hid (∀ c : Array Value, OpenIs (w.alloc (.cells c 56)) b l adr lo D ∧ Below lo w (w.alloc (.cells c 56))) := fun c => ⟨h.on (hbA c), (hbA c).mono h.lt⟩
  clear hbA h
  by_cases k1 : kd = 1
  · subst k1
    cases hb : blank to with
    | false =>
      have hb' : (to.toList == []) = false := hb
      have HR := hid (doAct_bad (l := l) (a := ⟨1, name, text, to⟩) (Or.inr ⟨by simp, hb⟩))
      clear hb
      go_enter Try.func42, Try.ntmps42
      go_wp2
      go_ret
      exact did_none HR.out rfl (HH.out _).1 (HH.out _).2
    | true =>
      obtain rfl := isBlank_eq hb
      have C := hid (fun w h => implAdd_any b l adr lo D name text hm s2 w h)
      clear hb
      go_enter Try.func42, Try.ntmps42
      go_wp2_with fail
      refine (C.out _ (HH.out _).1).mono ?_
      rintro e w1 ⟨rfl, h2, h3⟩
      have HD := hid (And.intro h2 h3)
      clear h2 h3 C
      go_wp2
      go_ret
      exact ⟨rfl, HD.out.1, (HH.out _).2.trans HD.out.2⟩
  · cases hb : blank text with
    | false =>
      have hb' : (text.toList == []) = false := hb
      have HR := hid (doAct_bad (l := l) (a := ⟨kd, name, text, to⟩) (Or.inl ⟨k1, hb⟩))
      clear hb
      go_enter Try.func42, Try.ntmps42
      go_wp2
      go_ret
      exact did_none HR.out rfl (HH.out _).1 (HH.out _).2
    | true =>
      obtain rfl := isBlank_eq hb
      clear hb
      by_cases k3 : kd = 3
      · subst k3
        have C := hid (fun w h => implMove_any b l adr lo D name to hm hm2 w h)
        go_enter Try.func42, Try.ntmps42
        go_wp2_with fail
        refine (C.out _ (HH.out _).1).mono ?_
        rintro e w1 ⟨rfl, h2, h3⟩
        have HD := hid (And.intro h2 h3)
        clear h2 h3 C
        go_wp2
        go_ret
        exact ⟨rfl, HD.out.1, (HH.out _).2.trans HD.out.2⟩
      · cases hb : blank to with
        | false =>
          have hb' : (to.toList == []) = false := hb
          have HR := hid (doAct_bad (l := l) (a := ⟨kd, name, ByteArray.empty, to⟩) (Or.inr ⟨k3, hb⟩))
          clear hb
          go_enter Try.func42, Try.ntmps42
          go_wp2
          go_ret
          exact did_none HR.out rfl (HH.out _).1 (HH.out _).2
        | true =>
          obtain rfl := isBlank_eq hb
          clear hb
          by_cases k2 : kd = 2
          · subst k2
            have C := hid (fun w h => implKeep_any b l adr lo D name hm w h)
            go_enter Try.func42, Try.ntmps42
            go_wp2_with fail
            refine (C.out _ (HH.out _).1).mono ?_
            rintro e w1 ⟨rfl, h2, h3⟩
            have HD := hid (And.intro h2 h3)
            clear h2 h3 C
            go_wp2
            go_ret
            exact ⟨rfl, HD.out.1, (HH.out _).2.trans HD.out.2⟩
          · by_cases k4 : kd = 4
            · subst k4
              have C := hid (fun w h => implDrop_any b l adr lo D name hm w h)
              go_enter Try.func42, Try.ntmps42
              go_wp2_with fail
              refine (C.out _ (HH.out _).1).mono ?_
              rintro e w1 ⟨rfl, h2, h3⟩
              have HD := hid (And.intro h2 h3)
              clear h2 h3 C
              go_wp2
              go_ret
              exact ⟨rfl, HD.out.1, (HH.out _).2.trans HD.out.2⟩
            · have HR := hid (doAct_other (l := l) (a := ⟨kd, name, ByteArray.empty, ByteArray.empty⟩) k1 k2 k3 k4)
              go_enter Try.func42, Try.ntmps42
              go_wp2
              go_ret
              exact did_none HR.out rfl (HH.out _).1 (HH.out _).2
end Go.Proofs.Ythkfgiilbkjojab
