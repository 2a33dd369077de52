/-
  The walks of impl.nameOk, impl.fileOk, impl.DiskOk: what they answer.
  The walks of impl's acts on an open disk: add, keep, move, drop.
  The walks of impl's move on an open disk, and of do: every act.
  Plain facts on check sums of 32 bits; nothing of the program stands here.
-/
import Derived.Test.YtfkknmhokiacaaaJoint1
import Derived.Lib.QuietBelow
import Derived.Laws.Cover1
import Derived.Test.YtfkknmhokiacaaaJoint6
import Derived.BigQuiet
import Derived.BigRegion
namespace Go.Proofs.Ytfkknmhokiacaaa
open Go.RowKit Go.Sort

set_option maxRecDepth 1000000 in
theorem implNameOk_any (s : ByteArray) (w : World) :
    Calls Try.prog 69 #[.string s] w fun e w' => e = .returned (.bool (nameOk s)) ∧ w' = w := by
  unfold nameOk within
  by_cases h1 : (1 : Int) ≤ (s.size : Int)
  · by_cases h2 : (s.size : Int) ≤ 8
    · go_enter Try.func69, Try.ntmps69
      go_wp2
      go_ret
      exact ⟨by simp [h1, h2], rfl⟩
    · go_enter Try.func69, Try.ntmps69
      go_wp2
      go_ret
      exact ⟨by simp; omega, rfl⟩
  · go_enter Try.func69, Try.ntmps69
    go_wp2
    go_ret
    exact ⟨by simp; omega, rfl⟩

set_option maxRecDepth 1000000 in
theorem implFileOk_any (f : FileD) (w : World) :
    Calls Try.prog 45 #[f.value] w fun e w' => e = .returned (.bool (fileOk f)) ∧ Below w.heap.size w w' := by
  unfold FileD.value
  have HB := hid (below_more (Below.refl w.heap.size w) (.cells #[.string f.name, .string f.text, .int .i64 f.kept] 36))
  have cN' := fun w => implNameOk_any f.name w
  cases hA : nameOk f.name with
  | false =>
    rw [hA] at cN'
    have cN := hid cN'
    have hr : Hid (fileOk f = false) := by show _ = _; simp [fileOk, hA]
    clear cN' hA
    go_enter Try.func45, Try.ntmps45
    go_wp2_with fail
    refine (cN.out _).mono ?_
    rintro e w' ⟨rfl, hw⟩
    rw [hw]
    clear hw w'
    go_wp2
    go_ret
    exact ⟨by rw [hr.out]; rfl, HB.out⟩
  | true =>
    rw [hA] at cN'
    have cN := hid cN'
    clear cN'
    by_cases h1 : (f.text.size : Int) ≤ 20000
    · by_cases h2 : (0 : Int) ≤ f.kept
      · by_cases h3 : f.kept ≤ (f.text.size : Int)
        · have hr : Hid (fileOk f = true) := by
            show _ = _
            have h1' : f.text.size ≤ 20000 := by omega
            simp [fileOk, within, hA, h1', h2, h3]
          clear hA
          go_enter Try.func45, Try.ntmps45
          go_wp2_with fail
          refine (cN.out _).mono ?_
          rintro e w' ⟨rfl, hw⟩
          rw [hw]
          clear hw w'
          go_wp2
          go_ret
          exact ⟨by rw [hr.out]; rfl, HB.out⟩
        · have hr : Hid (fileOk f = decide (f.kept ≤ (f.text.size : Int))) := by show _ = _; simp [fileOk, within, h3]
          clear hA
          go_enter Try.func45, Try.ntmps45
          go_wp2_with fail
          refine (cN.out _).mono ?_
          rintro e w' ⟨rfl, hw⟩
          rw [hw]
          clear hw w'
          go_wp2
          go_ret
          exact ⟨by rw [hr.out]; rfl, HB.out⟩
      · have hr : Hid (fileOk f = false) := by show _ = _; simp [fileOk, within, h2]
        clear hA
        go_enter Try.func45, Try.ntmps45
        go_wp2_with fail
        refine (cN.out _).mono ?_
        rintro e w' ⟨rfl, hw⟩
        rw [hw]
        clear hw w'
        go_wp2
        go_ret
        exact ⟨by rw [hr.out]; rfl, HB.out⟩
    · have hr : Hid (fileOk f = false) := by
        show _ = _
        have h1' : ¬ f.text.size ≤ 20000 := by omega
        simp [fileOk, h1']
      clear hA
      go_enter Try.func45, Try.ntmps45
      go_wp2_with fail
      refine (cN.out _).mono ?_
      rintro e w' ⟨rfl, hw⟩
      rw [hw]
      clear hw w'
      go_wp2
      go_ret
      exact ⟨by rw [hr.out]; rfl, HB.out⟩

set_option maxRecDepth 1000000 in
set_option maxHeartbeats 1000000 in
theorem implDiskOk_any (ao : Option Addr) (l : List FileD) (cap : Nat) (hl : l.length ≤ 16777216) (w : World) (ha : FilesAt w ao l) :
    Calls Try.prog 14 #[.agg #[.slice ao l.length cap]] w fun e w' => e = .returned (.bool (diskOk l)) ∧ Below w.heap.size w w' := by
  have HA := (show Hid (FilesAt w ao l) from ha)
  clear ha
  by_cases h30 : (30 : Int) < (l.length : Int)
  · have hr : Hid (diskOk l = false) := by show _ = _; unfold diskOk; simp; omega
    go_enter Try.func14, Try.ntmps14
    go_wp2
    go_ret
    exact ⟨by rw [hr.out]; rfl, below_more (Below.refl _ w) _⟩
  · have HB := (show Hid _ from below_more (Below.refl w.heap.size w) (.cells #[.slice ao l.length cap] 26))
    have HX := (show Hid (BlockIs (w.alloc (.cells #[.slice ao l.length cap] 26)) w.heap.size 26 [.slice ao l.length cap]) from heap_alloc_new w _)
    go_enter Try.func14, Try.ntmps14
    go_wp2
    go_loopg [3, 4, 12] l.length (fun g _ _ i wr => ∃ (k : Nat), k + g = l.length ∧ i = .int .i64 k ∧ Hid (Below w.heap.size w wr) ∧ Hid (BlockIs wr w.heap.size 26 [.slice ao l.length cap]) ∧ Hid (rightTo l k = true))
    case atStart => exact ⟨0, by omega, rfl, HB, HX, rfl⟩
    case round =>
      obtain ⟨k, hkg, rfl, BR, XR, RT⟩ := hrel
      clear HB HX
      have c0 := XR.out.cell (j := 0) rfl
      cases gk with
      | zero =>
        have hlt : ¬ (k : Int) < (l.length : Int) := by omega
        have hr : Hid (diskOk l = true) := by show _ = _; exact diskOk_of (by omega) (by rw [← RT.out, show k = l.length by omega])
        go_wp2
        go_ret
        exact ⟨by rw [hr.out]; rfl, BR.out⟩
      | succ g =>
        have hlt : k < l.length := by omega
        have hlt' : (k : Int) < (l.length : Int) := by omega
        have hne : l ≠ [] := by intro e; rw [e] at hlt; simp at hlt
        obtain ⟨b, off, rfl, hc⟩ := HA.out.on BR.out hne
        obtain ⟨x0, x1, x2⟩ := hc k hlt
        have HC := hid hc
        clear hc
        go_wp2
        generalize hW2 : wr.alloc (.cells #[.string l[k].name, .string l[k].text, .int .i64 l[k].kept] 36) = W2
        have hb2 : Below wr.heap.size wr W2 := by rw [← hW2]; exact below_more (Below.refl _ wr) _
        have hx2 : BlockIs W2 wr.heap.size 36 [.string l[k].name, .string l[k].text, .int .i64 l[k].kept] := by rw [← hW2]; exact heap_alloc_new wr _
        have n0 := cell_regrown (hx2.cell (j := 0) rfl)
        have n1 := cell_regrown (hx2.cell (j := 1) rfl)
        have n2 := cell_regrown (hx2.cell (j := 2) rfl)
        have XW := XR.out.on hb2 XR.out.lt
        have d0 := cell_regrown (XW.cell (j := 0) rfl)
        have B2 := (show Hid (Below w.heap.size w W2) from below_via BR.out hb2)
        have X2 := (show Hid (BlockIs _ _ _ _) from XW)
        have C' := fun d os => Calls.regrown_of (w := W2) (d := d) (os := os) (implFileOk_any l[k] _)
        unfold FileD.value at C'
        clear hW2 hx2 c0 x0 x1 x2 XW
        cases hA : fileOk l[k] with
        | false =>
          have hr : Hid (diskOk l = false) := not_diskOk hlt (by simp [hA])
          rw [hA] at C'
          have C := hid C'
          clear C' hA
          refine wp_region_quiet_below (by kernel_rfl) (by kernel_rfl) ?_
          repeat (first | go_big_quiet_step (first | (go_at_call 45; exact C.out _ _) | fail) | quiet_step (first | (go_at_call 45; exact C.out _ _) | fail))
          refine wpQuiet_nil ?_
          intro _ hw'
          obtain ⟨⟨dq, osq⟩, hw''⟩ := hw'
          subst hw''
          have BQ : Hid (Below w.heap.size w (grow (redrawn W2 dq) osq)) := B2.out.trans ((below_regrown W2 dq osq).mono B2.out.size)
          generalize grow (redrawn W2 dq) osq = wq at BQ ⊢
          clear n0 n1 n2 d0 C
          go_wp2
          go_ret
          exact ⟨by rw [hr.out]; rfl, BQ.out⟩
        | true =>
          rw [hA] at C'
          have C := hid C'
          clear C'
          cases k with
          | zero =>
            have HR : Hid (rightTo l 1 = true) := by show _ = _; rw [rightTo_step hlt]; simp [rightTo, behind, hA]
            clear hA
            refine wp_region_quiet_below (by kernel_rfl) (by kernel_rfl) ?_
            repeat (first | go_big_quiet_step (first | (go_at_call 45; exact C.out _ _) | fail) | quiet_step (first | (go_at_call 45; exact C.out _ _) | fail))
            refine wpQuiet_nil ?_
            intro _ hw'
            obtain ⟨⟨dq, osq⟩, hw''⟩ := hw'
            subst hw''
            have BQ : Hid (Below w.heap.size w (grow (redrawn W2 dq) osq)) := B2.out.trans ((below_regrown W2 dq osq).mono B2.out.size)
            have XQ : Hid (BlockIs (grow (redrawn W2 dq) osq) w.heap.size 26 [.slice (some ⟨b, off, none⟩) l.length cap]) := X2.out.on (below_regrown W2 dq osq) X2.out.lt
            generalize grow (redrawn W2 dq) osq = wq at BQ XQ ⊢
            clear n0 n1 n2 d0 C
            go_wp2
            go_roundg g
            case measure => omega
            case rel => exact ⟨1, by omega, by go_num, BQ, XQ, HR⟩
          | succ j =>
            have hj : j < l.length := by omega
            have p0 := cell_regrown (show W2.cell? ⟨b, off + j * 3, none⟩ = some (.string l[j].name) from (hb2.cell (p := ⟨b, off + j * 3, none⟩) (World.block_lt_of_cell? wr _ (HC.out j hj).1)).trans (HC.out j hj).1)
            have hpos : (0 : Int) < (((j + 1 : Nat)) : Int) := by omega
            have hsub : (((j + 1 : Nat)) : Int) - 1 = (j : Int) := by omega
            have hjl : (j : Int) < (l.length : Int) := by omega
            have hwj : IntKind.i64.wrap (j : Int) = (j : Int) := by rw [IntKind.wrap_i64]; omega
            cases hL : textLt l[j].name l[j + 1].name with
            | false =>
              have hr : Hid (diskOk l = false) := not_diskOk hlt (by rw [behind_step hlt, hL]; simp)
              have hL' : Op.bytesLess l[j].name.toList l[j + 1].name.toList = false := hL
              clear hA hL
              refine wp_region_quiet_below (by kernel_rfl) (by kernel_rfl) ?_
              repeat (first | go_big_quiet_step (first | (go_at_call 45; exact C.out _ _) | fail) | quiet_step (first | (go_at_call 45; exact C.out _ _) | fail))
              refine wpQuiet_nil ?_
              intro _ hw'
              obtain ⟨⟨dq, osq⟩, hw''⟩ := hw'
              subst hw''
              have BQ : Hid (Below w.heap.size w (grow (redrawn W2 dq) osq)) := B2.out.trans ((below_regrown W2 dq osq).mono B2.out.size)
              generalize grow (redrawn W2 dq) osq = wq at BQ ⊢
              clear n0 n1 n2 d0 C p0
              go_wp2
              go_ret
              exact ⟨by rw [hr.out]; rfl, BQ.out⟩
            | true =>
              have HR : Hid (rightTo l (j + 1 + 1) = true) := by show _ = _; rw [rightTo_step hlt, RT.out, behind_step hlt, hL]; simp [hA]
              have hL' : Op.bytesLess l[j].name.toList l[j + 1].name.toList = true := hL
              clear hA hL
              refine wp_region_quiet_below (by kernel_rfl) (by kernel_rfl) ?_
              repeat (first | go_big_quiet_step (first | (go_at_call 45; exact C.out _ _) | fail) | quiet_step (first | (go_at_call 45; exact C.out _ _) | fail))
              refine wpQuiet_nil ?_
              intro _ hw'
              obtain ⟨⟨dq, osq⟩, hw''⟩ := hw'
              subst hw''
              have BQ : Hid (Below w.heap.size w (grow (redrawn W2 dq) osq)) := B2.out.trans ((below_regrown W2 dq osq).mono B2.out.size)
              have XQ : Hid (BlockIs (grow (redrawn W2 dq) osq) w.heap.size 26 [.slice (some ⟨b, off, none⟩) l.length cap]) := X2.out.on (below_regrown W2 dq osq) X2.out.lt
              generalize grow (redrawn W2 dq) osq = wq at BQ XQ ⊢
              clear n0 n1 n2 d0 C p0
              go_wp2
              go_roundg g
              case measure => omega
              case rel => exact ⟨j + 1 + 1, by omega, by go_num, BQ, XQ, HR⟩
end Go.Proofs.Ytfkknmhokiacaaa

namespace Go.Proofs.Ytfkknmhokiacaaa
open Go.RowKit Go.Maps

/-- what an act on an open disk leaves -/
def OpenDid (w : World) (b : Nat) (l : List FileD) (lo : Nat) (r : Option (List FileD)) (e : Ending) (w' : World) : Prop :=
  e = .returned (.bool r.isSome) ∧ (∃ adr D, OpenIs w' b (r.getD l) adr lo D) ∧ Below lo w w'
theorem did_none {w w' : World} {b lo : Nat} {l : List FileD} {e : Ending} {adr : ByteArray → Nat} {D : DataW Unit} {r : Option (List FileD)} (hr : r = none) (he : e = .returned (.bool false)) (h : OpenIs w' b l adr lo D) (hb : Below lo w w') : OpenDid w b l lo r e w' := by
  subst hr; exact ⟨he, ⟨adr, D, h⟩, hb⟩
theorem did_some {w w' : World} {b lo : Nat} {l o : List FileD} {e : Ending} {adr : ByteArray → Nat} {D : DataW Unit} {r : Option (List FileD)} (hr : r = some o) (he : e = .returned (.bool true)) (h : OpenIs w' b o adr lo D) (hb : Below lo w w') : OpenDid w b l lo r e w' := by
  subst hr; exact ⟨he, ⟨adr, D, h⟩, hb⟩
theorem below_turned {w w' : World} {b lo : Nat} (h : w.mapTurned w' b) (hlo : lo ≤ b) (hw : lo ≤ w.heap.size) : Below lo w w' :=
  (Below.refl lo w).grown h.grown hw (fun j hj => by cases hj; exact hlo)
theorem OpenIs.lt {w : World} {b : Nat} {l : List FileD} {adr : ByteArray → Nat} {lo : Nat} {D : DataW Unit} (h : OpenIs w b l adr lo D) : lo ≤ w.heap.size := Nat.le_trans h.low (Nat.le_of_lt h.own.lt)

set_option maxRecDepth 1000000 in
theorem implDrop_any (b : Nat) (l : List FileD) (adr : ByteArray → Nat) (lo : Nat) (D : DataW Unit) (name : ByteArray) (hs : name.size ≤ maxLen) (w : World) (h : OpenIs w b l adr lo D) :
    Calls Try.prog 78 #[.map (some b), .string name] w fun e w' => OpenDid w b l lo (doAct l ⟨4, name, ByteArray.empty, ByteArray.empty⟩) e w' := by
  have H := hid h
  have hown := h.own
  rcases h.look hs with ⟨f, hf, hrun, hblk⟩ | ⟨hf, hrun⟩
  · have HR := hid (doAct_drop_found h.right hf)
    clear h hf hblk
    go_enter Try.func78, Try.ntmps78
    go_wp2_with (at_delete; refine wpList_delete_own _ rfl _ _ 81 9 rfl 106 open_keyed Try.underlying81 _ b _ D rfl hown _ _ rfl (keyL_of hs) ?_; intro w1 hown1 hturn1)
    go_ret
    exact did_some HR.out rfl (open_del H.out hown1 hturn1) (below_turned hturn1 H.out.low H.out.lt)
  · have HR := hid (doAct_none (l := l) (a := ⟨4, name, ByteArray.empty, ByteArray.empty⟩) (by simp) hf)
    have HN := hid (not_all (found_not hf))
    clear h hf
    go_enter Try.func78, Try.ntmps78
    go_wp2_with (at_delete; refine wpList_delete_own _ rfl _ _ 81 9 rfl 106 open_keyed Try.underlying81 _ b _ D rfl hown _ _ rfl (keyL_of hs) ?_; intro w1 hown1 hturn1)
    go_ret
    have hd := open_del H.out hown1 hturn1
    rw [HN.out] at hd
    exact did_none HR.out rfl hd (below_turned hturn1 H.out.low H.out.lt)

set_option maxRecDepth 1000000 in
theorem implKeep_any (b : Nat) (l : List FileD) (adr : ByteArray → Nat) (lo : Nat) (D : DataW Unit) (name : ByteArray) (hs : name.size ≤ maxLen) (w : World) (h : OpenIs w b l adr lo D) :
    Calls Try.prog 76 #[.map (some b), .string name] w fun e w' => OpenDid w b l lo (doAct l ⟨2, name, ByteArray.empty, ByteArray.empty⟩) e w' := by
  have H := hid h
  rcases h.look hs with ⟨f, hf, hrun, hblk⟩ | ⟨hf, hrun⟩
  · have HR := hid (doAct_keep_found h.right hf)
    have HF := hid hf
    have x0 := hblk.cell (j := 0) rfl
    have x1 := hblk.cell (j := 1) rfl
    have f1 := hblk.thaw 1
    have hsz := (found_right h.right hf).2.1
    have HBL := hid hblk
    clear h hf hblk
    go_enter Try.func76, Try.ntmps76
    go_wp2
    go_ret
    exact did_some HR.out rfl (open_set H.out HF.out (doAct_right HR.out) rfl (HBL.out.set 1 _)) ((Below.refl _ _).setCell (p := ⟨adr name, 1, none⟩) (by show lo ≤ adr name; have := H.out.lows _ (found_mem HF.out).1; rw [(found_mem HF.out).2] at this; exact this) _)
  · have HR := hid (doAct_none (l := l) (a := ⟨2, name, ByteArray.empty, ByteArray.empty⟩) (by simp) hf)
    clear h hf
    go_enter Try.func76, Try.ntmps76
    go_wp2
    go_ret
    exact did_none HR.out rfl H.out (Below.refl _ _)

set_option maxRecDepth 1000000 in
theorem implAllKeptFile_any (g : Nat) (t : ByteArray) (k : Int) (w : World) (hb : BlockIs w g 108 [.string t, .int .i64 k]) :
    Calls Try.prog 86 #[.pointer (some ⟨g, 0, none⟩)] w fun e w' => e = .returned (.bool (k == (t.size : Int))) ∧ ∃ n, w' = w.drewN n := by
  have x0 := hb.cell (j := 0) rfl
  have x1 := hb.cell (j := 1) rfl
  clear hb
  go_enter Try.func86, Try.ntmps86
  go_wp2
  go_region
  go_wp2
  go_ret
  exact ⟨rfl, 1, rfl⟩

set_option maxRecDepth 1000000 in
set_option maxHeartbeats 1000000 in
theorem implAdd_any (b : Nat) (l : List FileD) (adr : ByteArray → Nat) (lo : Nat) (D : DataW Unit) (name text : ByteArray) (hs : name.size ≤ maxLen) (ht : text.size ≤ 1048576) (w : World) (h : OpenIs w b l adr lo D) :
    Calls Try.prog 75 #[.map (some b), .string name, .string text] w fun e w' => OpenDid w b l lo (doAct l ⟨1, name, text, ByteArray.empty⟩) e w' := by
  have H := hid h
  have hlen : Maps.size D ≤ 30 := by rw [h.size]; exact (diskOk_iff.1 h.right).1
  rcases h.look hs with ⟨f, hf, hrun, hblk⟩ | ⟨hf, hrun⟩
  · have HR := hid (doAct_add_found (text := text) h.right hf)
    have HF := hid hf
    have x0 := hblk.cell (j := 0) rfl
    have x1 := hblk.cell (j := 1) rfl
    have f0 := hblk.thaw 0
    have hsz := (found_right h.right hf).2.1
    have HBL := hid hblk
    obtain ⟨hm, hn⟩ := found_mem hf
    have hne : b ≠ adr name := fun e => owns_apart h.own (h.blk f hm) (by rw [hn]; exact e.symm)
    have hown := h.own.setCell (a := ⟨adr name, 0, none⟩) hne (.string (f.text ++ text))
    by_cases hbig : f.text.size + text.size ≤ 20000
    · have hbig' : ¬ (20000 : Int) < (f.text.size : Int) + (text.size : Int) := by omega
      clear h hf hblk hm hn
      go_enter Try.func75, Try.ntmps75
      go_wp2_with (at_mapUpdate; refine wpList_mapUpdate_in _ rfl _ _ _ 81 rfl 9 106 open_keyed Try.underlying81 ptrRead b _ D rfl hown (by unfold maxLen; omega) _ _ _ rfl rfl (keyL_of hs) (.lit (.int .i64 (adr name))) [] (ptrRead_mk (adr name)) ?_; intro w1 hown1 hturn1)
      go_ret
      have hR := HR.out
      rw [if_pos hbig] at hR
      obtain ⟨hm, hn⟩ := found_mem HF.out
      refine did_some hR rfl (open_put (w := w.setCell ⟨adr name, 0, none⟩ (.string (f.text ++ text))) ⟨name, f.text ++ text, f.kept⟩ H.out.has H.out.at_ H.out.inj H.out.own.isMap H.out.low (doAct_right hR) hown1 hturn1 (fun k t cs hk => owns_apart hown hk) (fun g hg q => ?_) ?_ (HBL.out.set 0 _)) ?_
      · have hq : adr g.name ≠ adr name := fun e => q (by have := H.out.inj g hg f hm (by rw [hn]; exact e); rw [this, hn])
        exact ⟨H.out.lows g hg, hq, (H.out.blk g hg).far (fun e => hq e.symm) _⟩
      · have := H.out.lows f hm; rw [hn] at this; exact this
      · refine Below.trans ((Below.refl lo w).setCell (p := ⟨adr name, 0, none⟩) (by show lo ≤ adr name; have := H.out.lows f hm; rw [hn] at this; exact this) _) (below_turned hturn1 H.out.low ?_)
        rw [show (w.setCell ⟨adr name, 0, none⟩ (.string (f.text ++ text))).heap.size = w.heap.size by simp [World.setCell]]
        exact H.out.lt
    · have hbig' : (20000 : Int) < (f.text.size : Int) + (text.size : Int) := by omega
      clear h hf hblk hm hn hown
      go_enter Try.func75, Try.ntmps75
      go_wp2
      go_ret
      exact did_none (by rw [HR.out, if_neg hbig]) rfl H.out (Below.refl _ _)
  · have HR := hid (doAct_add_new (text := text) h.right hf)
    have HL := hid h.size
    have hlrun := h.own.len Try.underlying81 3
    have HF := hid hf
    have C' := fun w => implNameOk_any name w
    have hown := h.own.alloc (.cells #[.string (⟨#[]⟩ ++ text), .int .i64 0] 108)
    clear hf
    cases hnm : nameOk name with
    | false =>
      rw [hnm] at C'
      have C := hid C'
      clear C' h hown
      go_enter Try.func75, Try.ntmps75
      go_wp2_with fail
      refine (C.out _).mono ?_
      rintro e w' ⟨rfl, hw⟩
      rw [hw]
      clear hw w' C
      go_wp2
      go_ret
      exact did_none (by rw [HR.out, if_neg (fun q => by rw [hnm] at q; simp at q)]) rfl H.out (Below.refl _ _)
    | true =>
      rw [hnm] at C'
      have C := hid C'
      clear C' h
      by_cases h30 : l.length < 30
      · have h30' : ¬ (30 : Int) ≤ (Maps.size D : Int) := by rw [HL.out]; omega
        by_cases hbig : text.size ≤ 20000
        · have hbig' : ¬ (20000 : Int) < (text.size : Int) := by omega
          go_enter Try.func75, Try.ntmps75
          go_wp2_with fail
          refine (C.out _).mono ?_
          rintro e w' ⟨rfl, hw⟩
          rw [hw]
          clear hw w' C
          go_wp2_with (at_mapUpdate; refine wpList_mapUpdate_in _ rfl _ _ _ 81 rfl 9 106 open_keyed Try.underlying81 ptrRead b _ D rfl hown (by unfold maxLen; omega) _ _ _ rfl rfl (keyL_of hs) (.lit (.int .i64 w.heap.size)) [] (ptrRead_mk w.heap.size) ?_; intro w1 hown1 hturn1)
          go_ret
          have hR := HR.out
          rw [if_pos ⟨hnm, h30, hbig⟩] at hR
          have hb := below_more (Below.refl w.heap.size w) (.cells #[.string (⟨#[]⟩ ++ text), .int .i64 0] 108)
          have hnew : BlockIs (w.alloc (.cells #[.string (⟨#[]⟩ ++ text), .int .i64 0] 108)) w.heap.size 108 [.string (⟨#[]⟩ ++ text), .int .i64 0] := heap_alloc_new w _
          refine did_some hR rfl (open_put (w := w.alloc (.cells #[.string (⟨#[]⟩ ++ text), .int .i64 0] 108)) (g := w.heap.size) ⟨name, ByteArray.empty ++ text, 0⟩ H.out.has H.out.at_ H.out.inj H.out.own.isMap H.out.low (doAct_right hR) hown1 hturn1 (fun k t cs hk => owns_apart hown hk) (fun g hg q => ?_) H.out.lt hnew) ?_
          · have := (H.out.blk g hg).lt
            exact ⟨H.out.lows g hg, by omega, (H.out.blk g hg).on hb this⟩
          · refine Below.trans (hb.mono H.out.lt) (below_turned hturn1 H.out.low (Nat.le_trans H.out.lt hb.size))
        · have hbig' : (20000 : Int) < (text.size : Int) := by omega
          clear hown
          go_enter Try.func75, Try.ntmps75
          go_wp2_with fail
          refine (C.out _).mono ?_
          rintro e w' ⟨rfl, hw⟩
          rw [hw]
          clear hw w' C
          go_wp2
          go_ret
          exact did_none (by rw [HR.out, if_neg (fun q => hbig q.2.2)]) rfl (H.out.on (below_more (Below.refl _ w) _)) ((below_more (Below.refl _ w) _).mono H.out.lt)
      · have h30' : (30 : Int) ≤ (Maps.size D : Int) := by rw [HL.out]; omega
        clear hown
        go_enter Try.func75, Try.ntmps75
        go_wp2_with fail
        refine (C.out _).mono ?_
        rintro e w' ⟨rfl, hw⟩
        rw [hw]
        clear hw w' C
        go_wp2
        go_ret
        exact did_none (by rw [HR.out, if_neg (fun q => h30 q.2.1)]) rfl H.out (Below.refl _ _)
end Go.Proofs.Ytfkknmhokiacaaa

namespace Go.Proofs.Ytfkknmhokiacaaa
open Go.RowKit Go.Maps

set_option maxRecDepth 1000000 in
set_option maxHeartbeats 1000000 in
theorem implMove_any (b : Nat) (l : List FileD) (adr : ByteArray → Nat) (lo : Nat) (D : DataW Unit) (name to : ByteArray) (hs : name.size ≤ maxLen) (ht : to.size ≤ maxLen) (w : World) (h : OpenIs w b l adr lo D) :
    Calls Try.prog 77 #[.map (some b), .string name, .string to] w fun e w' => OpenDid w b l lo (doAct l ⟨3, name, ByteArray.empty, to⟩) e w' := by
  have H := hid h
  have hlen : Maps.size D ≤ 30 := by rw [h.size]; exact (diskOk_iff.1 h.right).1
  rcases h.look hs with ⟨f, hf, hrun, hblk⟩ | ⟨hf, hrun⟩
  · have HR := hid (doAct_move_found (to := to) h.right hf)
    have HF := hid hf
    have hsz := (found_right h.right hf).2.2
    have CA' := fun w hb => implAllKeptFile_any (adr name) f.text f.kept w hb
    have HBL := hid hblk
    clear h hf hblk
    by_cases hk : f.kept < (f.text.size : Int)
    · have hk' : (f.kept == (f.text.size : Int)) = false := by rw [beq_eq_false_iff_ne]; omega
      rw [hk'] at CA'
      have CA := hid CA'
      clear CA' hk'
      go_enter Try.func77, Try.ntmps77
      go_wp2_with fail
      refine (CA.out _ HBL.out).mono ?_
      rintro e w' ⟨rfl, n, hw⟩
      have H2 : Hid (OpenIs w' b l adr lo D ∧ Below lo w w') := by rw [hw]; exact ⟨H.out.on (below_drewN (Below.refl _ _) n), below_drewN (Below.refl _ _) n⟩
      clear hw CA hrun
      go_wp2
      go_ret
      exact did_none (by rw [HR.out, if_pos (by simp [hk])]) rfl H2.out.1 H2.out.2
    · have hk' : (f.kept == (f.text.size : Int)) = true := by rw [beq_iff_eq]; omega
      rw [hk'] at CA'
      have CA := hid CA'
      clear CA' hk'
      cases h2 : (to.toList == name.toList) with
      | true =>
        go_enter Try.func77, Try.ntmps77
        go_wp2_with fail
        refine (CA.out _ HBL.out).mono ?_
        rintro e w' ⟨rfl, n, hw⟩
        have H2 : Hid (OpenIs w' b l adr lo D ∧ Below lo w w') := by rw [hw]; exact ⟨H.out.on (below_drewN (Below.refl _ _) n), below_drewN (Below.refl _ _) n⟩
        clear hw CA hrun
        go_wp2
        go_ret
        exact did_none (by rw [HR.out, if_pos (by simp [h2])]) rfl H2.out.1 H2.out.2
      | false =>
        have C' := fun w => implNameOk_any to w
        cases h3 : nameOk to with
        | false =>
          rw [h3] at C'
          have C := hid C'
          clear C'
          go_enter Try.func77, Try.ntmps77
          go_wp2_with fail
          refine (CA.out _ HBL.out).mono ?_
          rintro e w' ⟨rfl, n, hw⟩
          have H2 : Hid (OpenIs w' b l adr lo D ∧ Below lo w w') := by rw [hw]; exact ⟨H.out.on (below_drewN (Below.refl _ _) n), below_drewN (Below.refl _ _) n⟩
          clear hw CA hrun
          go_wp2_with fail
          refine (C.out _).mono ?_
          rintro e w2 ⟨rfl, hw⟩
          rw [hw]
          clear hw w2 C
          go_wp2
          go_ret
          exact did_none (by rw [HR.out, if_pos (by simp [h3])]) rfl H2.out.1 H2.out.2
        | true =>
          rw [h3] at C'
          have C := hid C'
          clear C'
          go_enter Try.func77, Try.ntmps77
          go_wp2_with fail
          refine (CA.out _ HBL.out).mono ?_
          rintro e w' ⟨rfl, n, hw⟩
          have H2 : Hid (OpenIs w' b l adr lo D ∧ Below lo w w' ∧ BlockIs w' (adr name) 108 [.string f.text, .int .i64 f.kept]) := by rw [hw]; exact ⟨H.out.on (below_drewN (Below.refl _ _) n), below_drewN (Below.refl _ _) n, HBL.out.on (below_drewN (Below.refl _ _) n) HBL.out.lt⟩
          have hown := H2.out.1.own
          clear hw CA hrun
          go_wp2_with fail
          refine (C.out _).mono ?_
          rintro e w2 ⟨rfl, hw⟩
          rw [hw]
          clear hw w2 C
          go_wp2_with (first | (at_delete; refine wpList_delete_own _ rfl _ _ 81 9 rfl 106 open_keyed Try.underlying81 _ b _ D rfl hown _ _ rfl (keyL_of hs) ?_; intro w3 hown1 hturn1) | (at_mapUpdate; refine wpList_mapUpdate_in _ rfl _ _ _ 81 rfl 9 106 open_keyed Try.underlying81 ptrRead b _ (D.del (keyL name)) rfl hown1 (by unfold maxLen; omega) _ _ _ rfl rfl (keyL_of ht) (.lit (.int .i64 (adr name))) [] (ptrRead_mk (adr name)) ?_; intro w4 hown2 hturn2))
          go_ret
          have hR := HR.out
          rw [if_neg (by simp [hk, h2, h3])] at hR
          obtain ⟨hm, hn⟩ := found_mem HF.out
          have hdel := open_del H2.out.1 hown1 hturn1
          have hlow : lo ≤ adr name := by have := H.out.lows f hm; rw [hn] at this; exact this
          refine did_some hR rfl (open_put (w := w3) (g := adr name) ⟨to, f.text, f.kept⟩ hdel.has hdel.at_ hdel.inj hdel.own.isMap hdel.low (doAct_right hR) hown2 hturn2 (fun k t cs hk => owns_apart hown1 hk) (fun g hg q => ?_) hlow (H2.out.2.2.turned hturn1 (owns_apart hown H2.out.2.2))) ?_
          · refine ⟨hdel.lows g hg, fun e => (mem_not.1 hg).2 ?_, hdel.blk g hg⟩
            have := H.out.inj g (mem_not.1 hg).1 f hm (by rw [hn]; exact e)
            rw [this, hn]
          · exact (H2.out.2.1.trans (below_turned hturn1 H.out.low H2.out.1.lt)).trans (below_turned hturn2 H.out.low hdel.lt)
  · have HR := hid (doAct_none (l := l) (a := ⟨3, name, ByteArray.empty, to⟩) (by simp) hf)
    clear h hf
    go_enter Try.func77, Try.ntmps77
    go_wp2
    go_ret
    exact did_none HR.out rfl H.out (Below.refl _ _)

theorem OpenDid.via {w w1 w' : World} {b lo : Nat} {l : List FileD} {r : Option (List FileD)} {e : Ending} (h : OpenDid w1 b l lo r e w') (hb : Below lo w w1) : OpenDid w b l lo r e w' := ⟨h.1, h.2.1, hb.trans h.2.2⟩
theorem isBlank_eq {s : ByteArray} (h : blank s = true) : s = ByteArray.empty := by
  rw [blank, beq_iff_eq] at h
  exact text_eq (by rw [h, ByteArray.toList_eq]; rfl)

set_option maxRecDepth 1000000 in
set_option maxHeartbeats 1000000 in
theorem implDo_any (b : Nat) (l : List FileD) (adr : ByteArray → Nat) (lo : Nat) (D : DataW Unit) (a : ActD) (hs : a.name.size ≤ 1048576 ∧ a.text.size ≤ 1048576 ∧ a.to.size ≤ 1048576) (w : World) (h : OpenIs w b l adr lo D) :
    Calls Try.prog 51 #[.map (some b), a.value] w fun e w' => OpenDid w b l lo (doAct l a) e w' := by
  obtain ⟨kd, name, text, to⟩ := a
  obtain ⟨s1, s2, s3⟩ := hs
  unfold ActD.value
  dsimp only at s1 s2 s3 ⊢
  have hm : name.size ≤ maxLen := by unfold maxLen; omega
  have hm2 : to.size ≤ maxLen := by unfold maxLen; omega
  have hbA := fun (c : Array Value) => below_more (Below.refl w.heap.size w) (.cells c 45)
  have HH : Hid (∀ c : Array Value, OpenIs (w.alloc (.cells c 45)) b l adr lo D ∧ Below lo w (w.alloc (.cells c 45))) := fun c => ⟨h.on (hbA c), (hbA c).mono h.lt⟩
  clear hbA h
  by_cases k1 : kd = 1
  · subst k1
    cases hb : blank to with
    | false =>
      have hb' : (to.toList == []) = false := hb
      have HR := hid (doAct_bad (l := l) (a := ⟨1, name, text, to⟩) (Or.inr ⟨by simp, hb⟩))
      clear hb
      go_enter Try.func51, Try.ntmps51
      go_wp2
      go_ret
      exact did_none HR.out rfl (HH.out _).1 (HH.out _).2
    | true =>
      obtain rfl := isBlank_eq hb
      have C := hid (fun w h => implAdd_any b l adr lo D name text hm s2 w h)
      clear hb
      go_enter Try.func51, Try.ntmps51
      go_wp2_with fail
      refine (C.out _ (HH.out _).1).mono ?_
      rintro e w1 ⟨rfl, h2, h3⟩
      have HD := hid (And.intro h2 h3)
      clear h2 h3 C
      go_wp2
      go_ret
      exact ⟨rfl, HD.out.1, (HH.out _).2.trans HD.out.2⟩
  · cases hb : blank text with
    | false =>
      have hb' : (text.toList == []) = false := hb
      have HR := hid (doAct_bad (l := l) (a := ⟨kd, name, text, to⟩) (Or.inl ⟨k1, hb⟩))
      clear hb
      go_enter Try.func51, Try.ntmps51
      go_wp2
      go_ret
      exact did_none HR.out rfl (HH.out _).1 (HH.out _).2
    | true =>
      obtain rfl := isBlank_eq hb
      clear hb
      by_cases k3 : kd = 3
      · subst k3
        have C := hid (fun w h => implMove_any b l adr lo D name to hm hm2 w h)
        go_enter Try.func51, Try.ntmps51
        go_wp2_with fail
        refine (C.out _ (HH.out _).1).mono ?_
        rintro e w1 ⟨rfl, h2, h3⟩
        have HD := hid (And.intro h2 h3)
        clear h2 h3 C
        go_wp2
        go_ret
        exact ⟨rfl, HD.out.1, (HH.out _).2.trans HD.out.2⟩
      · cases hb : blank to with
        | false =>
          have hb' : (to.toList == []) = false := hb
          have HR := hid (doAct_bad (l := l) (a := ⟨kd, name, ByteArray.empty, to⟩) (Or.inr ⟨k3, hb⟩))
          clear hb
          go_enter Try.func51, Try.ntmps51
          go_wp2
          go_ret
          exact did_none HR.out rfl (HH.out _).1 (HH.out _).2
        | true =>
          obtain rfl := isBlank_eq hb
          clear hb
          by_cases k2 : kd = 2
          · subst k2
            have C := hid (fun w h => implKeep_any b l adr lo D name hm w h)
            go_enter Try.func51, Try.ntmps51
            go_wp2_with fail
            refine (C.out _ (HH.out _).1).mono ?_
            rintro e w1 ⟨rfl, h2, h3⟩
            have HD := hid (And.intro h2 h3)
            clear h2 h3 C
            go_wp2
            go_ret
            exact ⟨rfl, HD.out.1, (HH.out _).2.trans HD.out.2⟩
          · by_cases k4 : kd = 4
            · subst k4
              have C := hid (fun w h => implDrop_any b l adr lo D name hm w h)
              go_enter Try.func51, Try.ntmps51
              go_wp2_with fail
              refine (C.out _ (HH.out _).1).mono ?_
              rintro e w1 ⟨rfl, h2, h3⟩
              have HD := hid (And.intro h2 h3)
              clear h2 h3 C
              go_wp2
              go_ret
              exact ⟨rfl, HD.out.1, (HH.out _).2.trans HD.out.2⟩
            · have HR := hid (doAct_other (l := l) (a := ⟨kd, name, ByteArray.empty, ByteArray.empty⟩) k1 k2 k3 k4)
              go_enter Try.func51, Try.ntmps51
              go_wp2
              go_ret
              exact did_none HR.out rfl (HH.out _).1 (HH.out _).2
end Go.Proofs.Ytfkknmhokiacaaa

namespace Go.Proofs.Ytfkknmhokiacaaa
open Go.RowKit

/-- one of the eight steps -/
def half (x : Nat) : Nat := if x % 2 = 1 then x / 2 ^^^ 3558460437 else x / 2

theorem half_lt {x : Nat} (h : x < 4294967296) : half x < 4294967296 := by
  unfold half
  split
  · exact Nat.xor_lt_two_pow (n := 32) (by omega) (by omega)
  · omega

theorem top_bit {a : Nat} (h : a < 2147483648) : 2147483648 ≤ a ^^^ 3558460437 := by
  have h1 : (a ^^^ 3558460437).testBit 31 = true := by
    rw [Nat.testBit_xor, Nat.testBit_lt_two_pow (x := a) (i := 31) (by omega)]
    decide
  exact Nat.ge_two_pow_of_testBit h1

theorem xor_cancel {a b c : Nat} (h : a ^^^ c = b ^^^ c) : a = b := by
  have := congrArg (· ^^^ c) h
  simpa [Nat.xor_assoc] using this

theorem half_inj {x y : Nat} (hx : x < 4294967296) (hy : y < 4294967296) (h : half x = half y) : x = y := by
  unfold half at h
  have tx := top_bit (a := x / 2) (by omega)
  have ty := top_bit (a := y / 2) (by omega)
  split at h <;> split at h
  · have := xor_cancel h; omega
  · omega
  · omega
  · omega

/-- k steps -/
def hsN : Nat → Nat → Nat
  | 0, x => x
  | k + 1, x => half (hsN k x)

theorem hsN_lt (k : Nat) {x : Nat} (h : x < 4294967296) : hsN k x < 4294967296 := by
  induction k with
  | zero => exact h
  | succ k ih => exact half_lt ih
theorem hsN_inj (k : Nat) {x y : Nat} (hx : x < 4294967296) (hy : y < 4294967296) (h : hsN k x = hsN k y) : x = y := by
  induction k with
  | zero => exact h
  | succ k ih => exact ih (half_inj (hsN_lt k hx) (hsN_lt k hy) h)

/-- a sum and one byte more -/
def crc1 (s : Nat) (b : UInt8) : Nat := hsN 8 (s ^^^ b.toNat)

theorem xb_lt {s : Nat} (h : s < 4294967296) (b : UInt8) : s ^^^ b.toNat < 4294967296 := Nat.xor_lt_two_pow (n := 32) (by omega) (by have := b.toNat_lt; omega)
theorem crc1_lt {s : Nat} (h : s < 4294967296) (b : UInt8) : crc1 s b < 4294967296 := hsN_lt 8 (xb_lt h b)
theorem crc1_inj {s t : Nat} (hs : s < 4294967296) (ht : t < 4294967296) {b : UInt8} (h : crc1 s b = crc1 t b) : s = t :=
  xor_cancel (hsN_inj 8 (xb_lt hs b) (xb_lt ht b) h)
theorem crc1_byte {s : Nat} (hs : s < 4294967296) {b c : UInt8} (h : crc1 s b = crc1 s c) : b = c := by
  have h1 := hsN_inj 8 (xb_lt hs b) (xb_lt hs c) h
  rw [Nat.xor_comm s, Nat.xor_comm s] at h1
  exact UInt8.toNat_inj.1 (xor_cancel h1)

/-- a sum and more bytes -/
def crc (s : Nat) (l : List UInt8) : Nat := l.foldl crc1 s

theorem crc_append (s : Nat) (l r : List UInt8) : crc s (l ++ r) = crc (crc s l) r := by simp [crc]
theorem crc_snoc (s : Nat) (l : List UInt8) (b : UInt8) : crc s (l ++ [b]) = crc1 (crc s l) b := by simp [crc]
theorem crc_lt {s : Nat} (h : s < 4294967296) (l : List UInt8) : crc s l < 4294967296 := by
  induction l generalizing s with
  | nil => exact h
  | cons b l ih => exact ih (crc1_lt h b)
theorem crc_inj {s t : Nat} (hs : s < 4294967296) (ht : t < 4294967296) (l : List UInt8) (h : crc s l = crc t l) : s = t := by
  induction l generalizing s t with
  | nil => exact h
  | cons b l ih => exact crc1_inj hs ht (ih (crc1_lt hs b) (crc1_lt ht b) h)
/-- one byte turned turns the sum -/
theorem crc_turned {s : Nat} (hs : s < 4294967296) (p q : List UInt8) {b c : UInt8} (h : crc s (p ++ b :: q) = crc s (p ++ c :: q)) : b = c := by
  rw [crc_append, crc_append] at h
  have hp := crc_lt hs p
  have h1 : crc (crc1 (crc s p) b) q = crc (crc1 (crc s p) c) q := h
  exact crc1_byte hp (crc_inj (crc1_lt hp b) (crc1_lt hp c) q h1)

/-- a sum in four bytes, the highest first -/
def four (x : Nat) : List UInt8 := [UInt8.ofNat (x / 16777216), UInt8.ofNat (x / 65536), UInt8.ofNat (x / 256), UInt8.ofNat x]
theorem four_length (x : Nat) : (four x).length = 4 := rfl
theorem four_inj {x y : Nat} (hx : x < 4294967296) (hy : y < 4294967296) (h : four x = four y) : x = y := by
  simp only [four, List.cons.injEq, and_true] at h
  obtain ⟨h1, h2, h3, h4⟩ := h
  have e1 := congrArg UInt8.toNat h1
  have e2 := congrArg UInt8.toNat h2
  have e3 := congrArg UInt8.toNat h3
  have e4 := congrArg UInt8.toNat h4
  simp only [UInt8.toNat_ofNat'] at e1 e2 e3 e4
  omega

def sumOf (l : List UInt8) : Nat := crc 4294967295 l
theorem sumOf_lt (l : List UInt8) : sumOf l < 4294967296 := crc_lt (by omega) l

/-- a sealed text with one byte turned is the sealed text of none of its length -/
theorem seal_turned (l m : List UInt8) (p q : List UInt8) (b c : UInt8) (h1 : l ++ four (sumOf l) = p ++ b :: q) (h2 : m ++ four (sumOf m) = p ++ c :: q) : b = c := by
  have hlen : l.length = m.length := by
    have e1 := congrArg List.length h1
    have e2 := congrArg List.length h2
    simp only [List.length_append, List.length_cons, four_length] at e1 e2
    omega
  have tl : l = (p ++ b :: q).take l.length := by rw [← h1, List.take_left]
  have tm : m = (p ++ c :: q).take l.length := by rw [← h2, hlen, List.take_left]
  have dl : four (sumOf l) = (p ++ b :: q).drop l.length := by rw [← h1, List.drop_left]
  have dm : four (sumOf m) = (p ++ c :: q).drop l.length := by rw [← h2, hlen, List.drop_left]
  rw [List.take_append] at tl tm
  rw [List.drop_append] at dl dm
  rcases Nat.lt_or_ge p.length l.length with hp | hp
  · -- the byte lies in the text: the sums' bytes are alike
    obtain ⟨k, hk⟩ : ∃ k, l.length - p.length = k + 1 := ⟨l.length - p.length - 1, by omega⟩
    rw [hk, List.take_of_length_le (by omega), List.take_succ_cons] at tl tm
    rw [hk, List.drop_of_length_le (by omega), List.drop_succ_cons] at dl dm
    have hs := four_inj (sumOf_lt l) (sumOf_lt m) (dl.trans dm.symm)
    rw [tl, tm] at hs
    exact crc_turned (by omega) p (q.take k) hs
  · -- the byte lies in the sum: the texts are alike
    have hk : l.length - p.length = 0 := by omega
    rw [hk, List.take_zero, List.append_nil] at tl tm
    have e : l = m := tl.trans tm.symm
    have h3 : p ++ b :: q = p ++ c :: q := by rw [← h1, ← h2, e]
    have h4 := List.append_cancel_left h3
    simp only [List.cons.injEq] at h4
    exact h4.1

/-- a text that is sealed -/
def Uns (s : ByteArray) : Prop := 4 ≤ s.size ∧ s.size ≤ 20004 ∧ s.data.toList.drop (s.size - 4) = four (sumOf (s.data.toList.take (s.size - 4)))

theorem slice_from {P : Program} {t : TypeId} (h : P.underlying t = some .string) (s : ByteArray) (a : Nat) (x : Int) (hx : x = a) (ha : a ≤ s.size) (w : World) :
    (Instr.slice t (.string s) (some (.int .i64 x)) none none).run P w = .ok (.string (s.extract a s.size)) w := by
  subst hx
  rw [run_slice_string_l w t s h .i64 a (by omega) (by omega)]
  simp
theorem slice_upto {P : Program} {t : TypeId} (h : P.underlying t = some .string) (s : ByteArray) (a : Nat) (x : Int) (hx : x = a) (ha : a ≤ s.size) (w : World) :
    (Instr.slice t (.string s) none (some (.int .i64 x)) none).run P w = .ok (.string (s.extract 0 a)) w := by
  subst hx
  rw [run_slice_string_h w t s h .i64 a (by omega) (by omega)]
  simp

theorem head_list (s : ByteArray) (a : Nat) : (s.extract 0 a).data.toList = s.data.toList.take a := by rw [extract_eq]; simp
theorem tail_list (s : ByteArray) (a : Nat) : (s.extract a s.size).data.toList = s.data.toList.drop a := by
  rw [extract_eq, List.take_of_length_le (by simp)]

theorem uns_same {s : ByteArray} (h4 : 4 ≤ s.size) (h2 : s.size ≤ 20004) : (s.extract (s.size - 4) s.size).toList = four (sumOf (s.extract 0 (s.size - 4)).data.toList) ↔ Uns s := by
  rw [ByteArray.toList_eq, tail_list s _, head_list]
  exact ⟨fun h => ⟨h4, h2, h⟩, fun h => h.2.2⟩
end Go.Proofs.Ytfkknmhokiacaaa
