/-
  The walk of impl.DoActs: acts are done one by one.
-/
import Derived.Test.YtbbohfagnnobgaaJoint46
import Derived.Test.YtbbohfagnnobgaaJoint47
import Derived.Test.YtbbohfagnnobgaaJoint18
namespace Go.Proofs.Ytbbohfagnnobgaa
open Go.RowKit Go.Maps

def DoneAt (base : Nat) (w : World) (o : List FileD) (va : Option Addr) : Prop := OwnAt w 77 (fileCells o) o.length va base w.heap.size

set_option maxRecDepth 1000000 in
set_option maxHeartbeats 1000000 in
theorem implDoActs_no (ao : Option Addr) (l : List FileD) (cap : Nat) (bo : Option Addr) (acts : List ActD) (bcap : Nat) (hl : l.length ≤ 1048576) (hsm : ∀ f ∈ l, f.name.size ≤ 1048576 ∧ f.text.size ≤ 1048576) (hd : diskOk l = false) (w : World) (ha : FilesAt w ao l) :
    Calls Try.prog 11 #[.agg #[.slice ao l.length cap], .slice bo acts.length bcap] w fun e w' => DidActs w l acts (DoneAt w.heap.size) e w' := by
  have HA := hid ha
  have hx0 : BlockIs (w.alloc (.cells #[.slice ao l.length cap] 26)) w.heap.size 26 [.slice ao l.length cap] := heap_alloc_new w _
  have hx0' := hx0.on (below_more (Below.refl _ _) (.cells #[.slice none 0 0] 26)) hx0.lt
  have hx1 : BlockIs ((w.alloc (.cells #[.slice ao l.length cap] 26)).alloc (.cells #[.slice none 0 0] 26)) (w.heap.size + 1) 26 [.slice none 0 0] := by
    have := heap_alloc_new (w.alloc (.cells #[.slice ao l.length cap] 26)) (.cells #[.slice none 0 0] 26)
    rw [show (w.alloc (.cells #[.slice ao l.length cap] 26)).heap.size = w.heap.size + 1 by simp [World.alloc, -World.alloc_eq]] at this
    exact this
  have HX := hid (And.intro hx0' hx1)
  have HB := hid (below_more (below_more (Below.refl w.heap.size w) (.cells #[.slice ao l.length cap] 26)) (.cells #[.slice none 0 0] 26))
  have C := hid (fun w ha => implDiskOk_any ao l cap (by omega) w ha)
  rw [hd] at C
  have CC := hid (fun w ha => copiedDisk_any ao l cap hl hsm w ha)
  have HD := hid hd
  clear ha hd hx0 hx0' hx1
  go_enter Try.func11, Try.ntmps11
  go_wp2_with fail
  refine (C.out _ (HA.out.on HB.out)).mono ?_
  rintro e w1 ⟨rfl, b1⟩
  have B1 := hid (below_via HB.out b1)
  have X1 := hid (And.intro (HX.out.1.on b1 HX.out.1.lt) (HX.out.2.on b1 HX.out.2.lt))
  have c0 := X1.out.1.cell (j := 0) rfl
  clear b1 C HB HX
  go_wp2_with fail
  refine (CC.out _ (HA.out.on B1.out)).mono ?_
  rintro e w2 ⟨g, hg, rfl, hk, b2⟩
  have B2 := hid (below_via B1.out b2)
  have hgl : w.heap.size + 1 < g := Nat.lt_of_lt_of_le X1.out.2.lt hg
  have X2 := X1.out.2.on b2 X1.out.2.lt
  have c1 := X2.cell (j := 0) rfl
  have f1 := X2.thaw 0
  have HK := hid (hk.far (b := w.heap.size + 1) (j := 0) (by omega) (.slice (some ⟨g, 0, none⟩) l.length l.length))
  have HB := hid (B2.out.setCell (p := ⟨w.heap.size + 1, 0, none⟩) (by show _ ≤ _ + 1; omega) (.slice (some ⟨g, 0, none⟩) l.length l.length))
  clear b2 CC B1 X1 hk hg c0 X2 B2
  go_wp2
  refine bodyPost_ret (v := .tuple #[.agg #[.slice (some ⟨g, 0, none⟩) l.length l.length], .int .i64 0]) (by simp [results, Try.results11, go_sem, c1]) rfl ⟨0, l, some ⟨g, 0, none⟩, l.length, rfl, ⟨rfl, Nat.zero_le _, ?_⟩, own_of_block (by omega) HK.out, HB.out⟩
  rcases Nat.eq_zero_or_pos acts.length with q | q
  · exact Or.inl q.symm
  · exact Or.inr (by rw [doTo_step q rfl, doAct_wrong HD.out])

set_option maxRecDepth 1000000 in
set_option maxHeartbeats 1000000 in
theorem implDoActs_yes (ao : Option Addr) (l : List FileD) (cap : Nat) (bo : Option Addr) (acts : List ActD) (bcap : Nat) (hal : acts.length ≤ 1048576) (ham : ActsSmall acts) (hd : diskOk l = true) (w : World) (ha : FilesAt w ao l) (hq : ActsAt w bo acts) :
    Calls Try.prog 11 #[.agg #[.slice ao l.length cap], .slice bo acts.length bcap] w fun e w' => DidActs w l acts (DoneAt w.heap.size) e w' := by
  have HA := hid ha
  have HQ := hid hq
  have HM := hid ham
  have hl : l.length ≤ 30 := (diskOk_iff.1 hd).1
  have hx0 : BlockIs (w.alloc (.cells #[.slice ao l.length cap] 26)) w.heap.size 26 [.slice ao l.length cap] := heap_alloc_new w _
  have hx0' := hx0.on (below_more (Below.refl _ _) (.cells #[.slice none 0 0] 26)) hx0.lt
  have hx1 : BlockIs ((w.alloc (.cells #[.slice ao l.length cap] 26)).alloc (.cells #[.slice none 0 0] 26)) (w.heap.size + 1) 26 [.slice none 0 0] := by
    have := heap_alloc_new (w.alloc (.cells #[.slice ao l.length cap] 26)) (.cells #[.slice none 0 0] 26)
    rw [show (w.alloc (.cells #[.slice ao l.length cap] 26)).heap.size = w.heap.size + 1 by simp [World.alloc, -World.alloc_eq]] at this
    exact this
  have HX := hid (And.intro hx0' hx1)
  have HB := hid (below_more (below_more (Below.refl w.heap.size w) (.cells #[.slice ao l.length cap] 26)) (.cells #[.slice none 0 0] 26))
  have C := hid (fun w ha => implDiskOk_any ao l cap (by omega) w ha)
  rw [hd] at C
  have CO := hid (fun w ha => implOpened_any ao l cap hd w ha)
  have HD := hid hd
  clear ha hq ham hd hx0 hx0' hx1
  go_enter Try.func11, Try.ntmps11
  go_wp2_with fail
  refine (C.out _ (HA.out.on HB.out)).mono ?_
  rintro e w1 ⟨rfl, b1⟩
  have B1 := hid (below_via HB.out b1)
  have X1 := hid (And.intro (HX.out.1.on b1 HX.out.1.lt) (HX.out.2.on b1 HX.out.2.lt))
  have c0 := X1.out.1.cell (j := 0) rfl
  clear b1 C HB HX
  go_wp2_with fail
  refine (CO.out _ (HA.out.on B1.out)).mono ?_
  rintro e w2 ⟨b, rfl, hop, b2⟩
  have H2 := hid (And.intro hop b2)
  clear hop b2 CO c0
  go_wp2
  go_loopg [7] acts.length (fun q i wr => ∃ (k : Nat) (o : List FileD), k + q = acts.length ∧ i = .int .i64 k ∧ Hid (doTo l acts k = some o) ∧ Hid (∃ adr D, OpenIs wr b o adr w1.heap.size D) ∧ Hid (Below w1.heap.size w1 wr))
  case atStart => exact ⟨0, l, by omega, rfl, rfl, H2.out.1, H2.out.2⟩
  case round =>
    obtain ⟨k, o, hkg, rfl, HT, HO, BR⟩ := hrel
    clear H2
    obtain ⟨adr, D, hop⟩ := HO.out
    have BW := hid (below_via B1.out BR.out)
    cases gk with
    | zero =>
      have hlt : ¬ (k : Int) < (acts.length : Int) := by omega
      have C := hid (implClosed_any b o adr _ D wr hop)
      clear hop HO
      go_wp2_with fail
      refine Calls.mono C.out ?_
      rintro e w5 ⟨va, vc, rfl, hown, b5⟩
      have X5 := (X1.out.2.on BR.out X1.out.2.lt).on b5 (X1.out.2.on BR.out X1.out.2.lt).lt
      have c1 := X5.cell (j := 0) rfl
      have f1 := X5.thaw 0
      have hlow : w.heap.size + 1 < wr.heap.size := (X1.out.2.on BR.out X1.out.2.lt).lt
      have HO := hid ((hown.far (b := w.heap.size + 1) (j := 0) (by omega) (.slice va o.length vc)).down (lo' := w.heap.size) (by omega) (Nat.le_refl _))
      have HB := hid ((below_via BW.out b5).setCell (p := ⟨w.heap.size + 1, 0, none⟩) (by show _ ≤ _ + 1; omega) (.slice va o.length vc))
      clear b5 hown X5 C BR X1
      go_wp2
      refine bodyPost_ret (v := .tuple #[.agg #[.slice va o.length vc], .int .i64 k]) (by simp [results, Try.results11, go_sem, c1]) rfl ⟨k, o, va, vc, rfl, ⟨HT.out, by omega, Or.inl (by omega)⟩, ?_, HB.out⟩
      have := HO.out
      unfold DoneAt
      rw [size_setCell]
      exact this
    | succ q =>
      have hlt : k < acts.length := by omega
      have hlt' : (k : Int) < (acts.length : Int) := by omega
      have hne : acts ≠ [] := by intro e; rw [e] at hlt; simp at hlt
      obtain ⟨b', off, rfl, hc⟩ := HQ.out.on BW.out hne
      obtain ⟨x0, x1, x2, x3⟩ := hc k hlt
      have hst := doTo_step hlt HT.out
      have C' := implDo_any b o adr _ D acts[k] (HM.out _ (List.getElem_mem hlt)) wr hop
      unfold ActD.value at C'
      clear hc hop HO
      cases hr : doAct o acts[k] with
      | some o' =>
        rw [hr] at C' hst
        have C := hid C'
        have HT2 := hid hst
        clear C' hr hst
        go_wp2_with fail
        refine Calls.mono C.out ?_
        rintro e w3 ⟨rfl, hop3, b3⟩
        have HO3 := hid hop3
        have B3 := hid (BR.out.trans b3)
        clear C hop3 b3 x0 x1 x2 x3
        go_wp2
        go_roundg q
        case measure => omega
        case rel => exact ⟨k + 1, o', by omega, by go_num, HT2, HO3, B3⟩
      | none =>
        rw [hr] at C' hst
        have C := hid C'
        have HT2 := hid hst
        clear C' hr hst
        go_wp2_with fail
        refine Calls.mono C.out ?_
        rintro e w3 ⟨rfl, hop3, b3⟩
        have B3 := hid (BR.out.trans b3)
        have BW3 := hid (B1.out.trans (B3.out.mono B1.out.size))
        obtain ⟨adr3, D3, hop3⟩ := hop3
        have C2 := hid (implClosed_any b o adr3 _ D3 w3 hop3)
        clear C hop3 b3 x0 x1 x2 x3
        go_wp2_with fail
        refine Calls.mono C2.out ?_
        rintro e w5 ⟨va, vc, rfl, hown, b5⟩
        have X5 := (X1.out.2.on B3.out X1.out.2.lt).on b5 (X1.out.2.on B3.out X1.out.2.lt).lt
        have c1 := X5.cell (j := 0) rfl
        have f1 := X5.thaw 0
        have hlow : w.heap.size + 1 < w3.heap.size := (X1.out.2.on B3.out X1.out.2.lt).lt
        have HO := hid ((hown.far (b := w.heap.size + 1) (j := 0) (by omega) (.slice va o.length vc)).down (lo' := w.heap.size) (by omega) (Nat.le_refl _))
        have HB := hid ((below_via BW3.out b5).setCell (p := ⟨w.heap.size + 1, 0, none⟩) (by show _ ≤ _ + 1; omega) (.slice va o.length vc))
        clear b5 hown X5 C2 BR X1
        go_wp2
        refine bodyPost_ret (v := .tuple #[.agg #[.slice va o.length vc], .int .i64 k]) (by simp [results, Try.results11, go_sem, c1]) rfl ⟨k, o, va, vc, rfl, ⟨HT.out, by omega, Or.inr HT2.out⟩, ?_, HB.out⟩
        have := HO.out
        unfold DoneAt
        rw [size_setCell]
        exact this
end Go.Proofs.Ytbbohfagnnobgaa
