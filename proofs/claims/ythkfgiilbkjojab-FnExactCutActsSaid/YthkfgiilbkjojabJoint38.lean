/-
  The walks of impl's acts on an open disk: add, keep, move, drop.
-/
import Derived.Test.YthkfgiilbkjojabJoint10
import Derived.Test.YthkfgiilbkjojabJoint37
import Derived.BigQuiet
import Derived.BigRegion
namespace Go.Proofs.Ythkfgiilbkjojab
open Go.RowKit Go.Maps

/-- what an act on an open disk leaves -/
def OpenDid (w : World) (b : Nat) (l : List FileD) (lo : Nat) (r : Option (List FileD)) (e : Ending) (w' : World) : Prop :=
  e = .returned (.bool r.isSome) ∧ (∃ adr D, OpenIs w' b (r.getD l) adr lo D) ∧ Below lo w w'
theorem did_none {w w' : World} {b lo : Nat} {l : List FileD} {e : Ending} {adr : ByteArray → Nat} {D : DataW Unit} {r : Option (List FileD)} (hr : r = none) (he : e = .returned (.bool false)) (h : OpenIs w' b l adr lo D) (hb : Below lo w w') : OpenDid w b l lo r e w' := by
  subst hr; exact ⟨he, ⟨adr, D, h⟩, hb⟩
theorem did_some {w w' : World} {b lo : Nat} {l o : List FileD} {e : Ending} {adr : ByteArray → Nat} {D : DataW Unit} {r : Option (List FileD)} (hr : r = some o) (he : e = .returned (.bool true)) (h : OpenIs w' b o adr lo D) (hb : Below lo w w') : OpenDid w b l lo r e w' := by
  subst hr; exact ⟨he, ⟨adr, D, h⟩, hb⟩
theorem below_turned {w w' : World} {b lo : Nat} (h : w.mapTurned w' b) (hlo : lo ≤ b) (hw : lo ≤ w.heap.size) : Below lo w w' :=
  (Below.refl lo w).grown h.grown hw (fun j hj => by cases hj; exact hlo)
theorem OpenIs.lt {w : World} {b : Nat} {l : List FileD} {adr : ByteArray → Nat} {lo : Nat} {D : DataW Unit} (h : OpenIs w b l adr lo D) : lo ≤ w.heap.size := Nat.le_trans h.low (Nat.le_of_lt h.own.lt)

set_option maxRecDepth 1000000 in
theorem implDrop_any (b : Nat) (l : List FileD) (adr : ByteArray → Nat) (lo : Nat) (D : DataW Unit) (name : ByteArray) (hs : name.size ≤ maxLen) (w : World) (h : OpenIs w b l adr lo D) :
    Calls Try.prog 54 #[.map (some b), .string name] w fun e w' => OpenDid w b l lo (doAct l ⟨4, name, ByteArray.empty, ByteArray.empty⟩) e w' := by
  have H := hid h
  have hown := h.own
  rcases h.look hs with ⟨f, hf, hrun, hblk⟩ | ⟨hf, hrun⟩
  · have HR := hid (doAct_drop_found h.right hf)
    clear h hf hblk
    go_enter Try.func54, Try.ntmps54
    go_wp2_with (at_delete; refine wpList_delete_own _ rfl _ _ 70 9 rfl 83 open_keyed Try.underlying70 _ b _ D rfl hown _ _ rfl (keyL_of hs) ?_; intro w1 hown1 hturn1)
    go_ret
    exact did_some HR.out rfl (open_del H.out hown1 hturn1) (below_turned hturn1 H.out.low H.out.lt)
  · have HR := hid (doAct_none (l := l) (a := ⟨4, name, ByteArray.empty, ByteArray.empty⟩) (by simp) hf)
    have HN := hid (not_all (found_not hf))
    clear h hf
    go_enter Try.func54, Try.ntmps54
    go_wp2_with (at_delete; refine wpList_delete_own _ rfl _ _ 70 9 rfl 83 open_keyed Try.underlying70 _ b _ D rfl hown _ _ rfl (keyL_of hs) ?_; intro w1 hown1 hturn1)
    go_ret
    have hd := open_del H.out hown1 hturn1
    rw [HN.out] at hd
    exact did_none HR.out rfl hd (below_turned hturn1 H.out.low H.out.lt)

set_option maxRecDepth 1000000 in
theorem implKeep_any (b : Nat) (l : List FileD) (adr : ByteArray → Nat) (lo : Nat) (D : DataW Unit) (name : ByteArray) (hs : name.size ≤ maxLen) (w : World) (h : OpenIs w b l adr lo D) :
    Calls Try.prog 52 #[.map (some b), .string name] w fun e w' => OpenDid w b l lo (doAct l ⟨2, name, ByteArray.empty, ByteArray.empty⟩) e w' := by
  have H := hid h
  rcases h.look hs with ⟨f, hf, hrun, hblk⟩ | ⟨hf, hrun⟩
  · have HR := hid (doAct_keep_found h.right hf)
    have HF := hid hf
    have x0 := hblk.cell (j := 0) rfl
    have x1 := hblk.cell (j := 1) rfl
    have f1 := hblk.thaw 1
    have hsz := (found_right h.right hf).2.1
    have HBL := hid hblk
    clear h hf hblk
    go_enter Try.func52, Try.ntmps52
    go_wp2
    go_ret
    exact did_some HR.out rfl (open_set H.out HF.out (doAct_right HR.out) rfl (HBL.out.set 1 _)) ((Below.refl _ _).setCell (p := ⟨adr name, 1, none⟩) (by show lo ≤ adr name; have := H.out.lows _ (found_mem HF.out).1; rw [(found_mem HF.out).2] at this; exact this) _)
  · have HR := hid (doAct_none (l := l) (a := ⟨2, name, ByteArray.empty, ByteArray.empty⟩) (by simp) hf)
    clear h hf
    go_enter Try.func52, Try.ntmps52
    go_wp2
    go_ret
    exact did_none HR.out rfl H.out (Below.refl _ _)

set_option maxRecDepth 1000000 in
theorem implAllKeptFile_any (g : Nat) (t : ByteArray) (k : Int) (w : World) (hb : BlockIs w g 85 [.string t, .int .i64 k]) :
    Calls Try.prog 59 #[.pointer (some ⟨g, 0, none⟩)] w fun e w' => e = .returned (.bool (k == (t.size : Int))) ∧ ∃ n, w' = w.drewN n := by
  have x0 := hb.cell (j := 0) rfl
  have x1 := hb.cell (j := 1) rfl
  clear hb
  go_enter Try.func59, Try.ntmps59
  go_wp2
  go_region
  go_wp2
  go_ret
  exact ⟨rfl, 1, rfl⟩

set_option maxRecDepth 1000000 in
set_option maxHeartbeats 1000000 in
theorem implAdd_any (b : Nat) (l : List FileD) (adr : ByteArray → Nat) (lo : Nat) (D : DataW Unit) (name text : ByteArray) (hs : name.size ≤ maxLen) (ht : text.size ≤ 1048576) (w : World) (h : OpenIs w b l adr lo D) :
    Calls Try.prog 51 #[.map (some b), .string name, .string text] w fun e w' => OpenDid w b l lo (doAct l ⟨1, name, text, ByteArray.empty⟩) e w' := by
  have H := hid h
  have hlen : Maps.size D ≤ 30 := by rw [h.size]; exact (diskOk_iff.1 h.right).1
  rcases h.look hs with ⟨f, hf, hrun, hblk⟩ | ⟨hf, hrun⟩
  · have HR := hid (doAct_add_found (text := text) h.right hf)
    have HF := hid hf
    have x0 := hblk.cell (j := 0) rfl
    have x1 := hblk.cell (j := 1) rfl
    have f0 := hblk.thaw 0
    have hsz := (found_right h.right hf).2.1
    have HBL := hid hblk
    obtain ⟨hm, hn⟩ := found_mem hf
    have hne : b ≠ adr name := fun e => owns_apart h.own (h.blk f hm) (by rw [hn]; exact e.symm)
    have hown := h.own.setCell (a := ⟨adr name, 0, none⟩) hne (.string (f.text ++ text))
    by_cases hbig : f.text.size + text.size ≤ 20000
    · have hbig' : ¬ (20000 : Int) < (f.text.size : Int) + (text.size : Int) := by omega
      clear h hf hblk hm hn
      go_enter Try.func51, Try.ntmps51
      go_wp2_with (at_mapUpdate; refine wpList_mapUpdate_in _ rfl _ _ _ 70 rfl 9 83 open_keyed Try.underlying70 ptrRead b _ D rfl hown (by unfold maxLen; omega) _ _ _ rfl rfl (keyL_of hs) (.lit (.int .i64 (adr name))) [] (ptrRead_mk (adr name)) ?_; intro w1 hown1 hturn1)
      go_ret
      have hR := HR.out
      rw [if_pos hbig] at hR
      obtain ⟨hm, hn⟩ := found_mem HF.out
      refine did_some hR rfl (open_put (w := w.setCell ⟨adr name, 0, none⟩ (.string (f.text ++ text))) ⟨name, f.text ++ text, f.kept⟩ H.out.has H.out.at_ H.out.inj H.out.own.isMap H.out.low (doAct_right hR) hown1 hturn1 (fun k t cs hk => owns_apart hown hk) (fun g hg q => ?_) ?_ (HBL.out.set 0 _)) ?_
      · have hq : adr g.name ≠ adr name := fun e => q (by have := H.out.inj g hg f hm (by rw [hn]; exact e); rw [this, hn])
        exact ⟨H.out.lows g hg, hq, (H.out.blk g hg).far (fun e => hq e.symm) _⟩
      · have := H.out.lows f hm; rw [hn] at this; exact this
      · refine Below.trans ((Below.refl lo w).setCell (p := ⟨adr name, 0, none⟩) (by show lo ≤ adr name; have := H.out.lows f hm; rw [hn] at this; exact this) _) (below_turned hturn1 H.out.low ?_)
        rw [show (w.setCell ⟨adr name, 0, none⟩ (.string (f.text ++ text))).heap.size = w.heap.size by simp [World.setCell]]
        exact H.out.lt
    · have hbig' : (20000 : Int) < (f.text.size : Int) + (text.size : Int) := by omega
      clear h hf hblk hm hn hown
      go_enter Try.func51, Try.ntmps51
      go_wp2
      go_ret
      exact did_none (by rw [HR.out, if_neg hbig]) rfl H.out (Below.refl _ _)
  · have HR := hid (doAct_add_new (text := text) h.right hf)
    have HL := hid h.size
    have hlrun := h.own.len Try.underlying70 3
    have HF := hid hf
    have C' := fun w => implNameOk_any name w
    have hown := h.own.alloc (.cells #[.string (⟨#[]⟩ ++ text), .int .i64 0] 85)
    clear hf
    cases hnm : nameOk name with
    | false =>
      rw [hnm] at C'
      have C := hid C'
      clear C' h hown
      go_enter Try.func51, Try.ntmps51
      go_wp2_with fail
      refine (C.out _).mono ?_
      rintro e w' ⟨rfl, hw⟩
      rw [hw]
      clear hw w' C
      go_wp2
      go_ret
      exact did_none (by rw [HR.out, if_neg (fun q => by rw [hnm] at q; simp at q)]) rfl H.out (Below.refl _ _)
    | true =>
      rw [hnm] at C'
      have C := hid C'
      clear C' h
      by_cases h30 : l.length < 30
      · have h30' : ¬ (30 : Int) ≤ (Maps.size D : Int) := by rw [HL.out]; omega
        by_cases hbig : text.size ≤ 20000
        · have hbig' : ¬ (20000 : Int) < (text.size : Int) := by omega
          go_enter Try.func51, Try.ntmps51
          go_wp2_with fail
          refine (C.out _).mono ?_
          rintro e w' ⟨rfl, hw⟩
          rw [hw]
          clear hw w' C
          go_wp2_with (at_mapUpdate; refine wpList_mapUpdate_in _ rfl _ _ _ 70 rfl 9 83 open_keyed Try.underlying70 ptrRead b _ D rfl hown (by unfold maxLen; omega) _ _ _ rfl rfl (keyL_of hs) (.lit (.int .i64 w.heap.size)) [] (ptrRead_mk w.heap.size) ?_; intro w1 hown1 hturn1)
          go_ret
          have hR := HR.out
          rw [if_pos ⟨hnm, h30, hbig⟩] at hR
          have hb := below_more (Below.refl w.heap.size w) (.cells #[.string (⟨#[]⟩ ++ text), .int .i64 0] 85)
          have hnew : BlockIs (w.alloc (.cells #[.string (⟨#[]⟩ ++ text), .int .i64 0] 85)) w.heap.size 85 [.string (⟨#[]⟩ ++ text), .int .i64 0] := heap_alloc_new w _
          refine did_some hR rfl (open_put (w := w.alloc (.cells #[.string (⟨#[]⟩ ++ text), .int .i64 0] 85)) (g := w.heap.size) ⟨name, ByteArray.empty ++ text, 0⟩ H.out.has H.out.at_ H.out.inj H.out.own.isMap H.out.low (doAct_right hR) hown1 hturn1 (fun k t cs hk => owns_apart hown hk) (fun g hg q => ?_) H.out.lt hnew) ?_
          · have := (H.out.blk g hg).lt
            exact ⟨H.out.lows g hg, by omega, (H.out.blk g hg).on hb this⟩
          · refine Below.trans (hb.mono H.out.lt) (below_turned hturn1 H.out.low (Nat.le_trans H.out.lt hb.size))
        · have hbig' : (20000 : Int) < (text.size : Int) := by omega
          clear hown
          go_enter Try.func51, Try.ntmps51
          go_wp2_with fail
          refine (C.out _).mono ?_
          rintro e w' ⟨rfl, hw⟩
          rw [hw]
          clear hw w' C
          go_wp2
          go_ret
          exact did_none (by rw [HR.out, if_neg (fun q => hbig q.2.2)]) rfl (H.out.on (below_more (Below.refl _ w) _)) ((below_more (Below.refl _ w) _).mono H.out.lt)
      · have h30' : (30 : Int) ≤ (Maps.size D : Int) := by rw [HL.out]; omega
        clear hown
        go_enter Try.func51, Try.ntmps51
        go_wp2_with fail
        refine (C.out _).mono ?_
        rintro e w' ⟨rfl, hw⟩
        rw [hw]
        clear hw w' C
        go_wp2
        go_ret
        exact did_none (by rw [HR.out, if_neg (fun q => h30 q.2.1)]) rfl H.out (Below.refl _ _)
end Go.Proofs.Ythkfgiilbkjojab
