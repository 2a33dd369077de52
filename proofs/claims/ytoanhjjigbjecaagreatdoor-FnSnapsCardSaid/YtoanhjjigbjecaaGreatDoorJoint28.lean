/-
  The walk of spec.DoActs: acts are done one by one.
-/
import Derived.Test.YtoanhjjigbjecaaGreatDoorJoint27
import Derived.Test.YtoanhjjigbjecaaGreatDoorJoint25
import Derived.Deep.AppendLies
import Derived.Deep.DeepCutAuto
import Derived.Deep.RegionWith
namespace Go.Proofs.YtoanhjjigbjecaaGreatDoor
open Go.RowKit

/-- the loop of spec.DoActs -/
structure ActsIn (w : World) (O : Nat) (l : List FileD) (acts : List ActD) (k : Nat) (o : List FileD) (va : Option Addr) (vc : Nat) (W : World) : Prop where
  below : Below w.heap.size w W
  res : BlockIs W (w.heap.size + 1) 26 [.slice none 0 0]
  out : BlockIs W O 26 [.slice va o.length vc]
  own : OwnAt W 61 (fileCells o) o.length va w.heap.size W.heap.size
  did : doTo l acts k = some o
  small : o.length ≤ 1048576
  far : w.heap.size + 1 < O
theorem ActsIn.on {w W W' : World} {O k vc : Nat} {l o : List FileD} {acts : List ActD} {va : Option Addr} (h : ActsIn w O l acts k o va vc W) (hb : Below W.heap.size W W') : ActsIn w O l acts k o va vc W' :=
  ⟨below_via h.below hb, h.res.on hb h.res.lt, h.out.on hb h.out.lt, (h.own.on hb).down (Nat.le_refl _) hb.size, h.did, h.small, h.far⟩
theorem ActsIn.files {w W : World} {O k vc : Nat} {l o : List FileD} {acts : List ActD} {va : Option Addr} (h : ActsIn w O l acts k o va vc W) : FilesAt W va o := h.own.files

theorem fileCells_one (l : List FileD) : ∀ u ∈ fileCells l, u.oneCell' = true := by
  intro u hu
  rw [fileCells, List.mem_flatMap] at hu
  obtain ⟨f, _, hf⟩ := hu
  simp [fileEnc] at hf
  rcases hf with rfl | rfl | rfl <;> simp [Value.oneCell']
theorem files_cells {w : World} {b off : Nat} {l : List FileD} (hc : ∀ j (hj : j < l.length), w.cell? ⟨b, off + j * 3, none⟩ = some (.string l[j].name) ∧ w.cell? ⟨b, off + j * 3 + 1, none⟩ = some (.string l[j].text) ∧ w.cell? ⟨b, off + j * 3 + 2, none⟩ = some (.int .i64 l[j].kept)) :
    ∀ j u, (fileCells l)[j]? = some u → w.cell? ((⟨b, off, none⟩ : Addr).add j) = some u := by
  intro j u hu
  have hlen := fileCells_length l
  have hj : j < l.length * 3 := by
    rcases Nat.lt_or_ge j (l.length * 3) with q | q
    · exact q
    · rw [List.getElem?_eq_none (by omega)] at hu; cases hu
  obtain ⟨q, c, hc3, rfl⟩ : ∃ q c, c < 3 ∧ j = q * 3 + c := ⟨j / 3, j % 3, Nat.mod_lt _ (by omega), by omega⟩
  have hq : q < l.length := by omega
  have e := row_at fileEnc 3 (fun _ => rfl) l [] q c hq hc3
  rw [List.append_nil] at e
  have e' : (fileCells l)[q * 3 + c]? = (fileEnc l[q])[c]? := e
  rw [e'] at hu
  obtain ⟨h0, h1, h2⟩ := hc q hq
  rw [show (⟨b, off, none⟩ : Addr).add (q * 3 + c) = ⟨b, off + (q * 3 + c), none⟩ by simp [Addr.add], show off + (q * 3 + c) = off + q * 3 + c by omega]
  match c, hc3 with
  | 0, _ => simp [fileEnc] at hu; rw [← hu]; exact h0
  | 1, _ => simp [fileEnc] at hu; rw [← hu]; exact h1
  | 2, _ => simp [fileEnc] at hu; rw [← hu]; exact h2

set_option maxRecDepth 1000000 in
set_option maxHeartbeats 2000000 in
theorem specDoActs_any (ao : Option Addr) (l : List FileD) (cap : Nat) (bo : Option Addr) (acts : List ActD) (bcap : Nat) (hl : l.length ≤ 1048576) (hal : acts.length ≤ 1048576) (ham : ActsSmall acts) (hpos : 0 < l.length) (w : World) (ha : FilesAt w ao l) (hq : ActsAt w bo acts) :
    Calls Tryz.prog 11 #[.agg #[.slice ao l.length cap], .slice bo acts.length bcap] w fun e w' => DidActs w l acts (fun W o va => OwnAt W 61 (fileCells o) o.length va w.heap.size W.heap.size) e w' := by
  obtain ⟨i0, hi, hz0, hz1, hz2⟩ := info_parts toFile_info
  have HQ := hid hq
  have HM := hid ham
  have hne : l ≠ [] := by intro e; rw [e] at hpos; simp at hpos
  obtain ⟨b, off, rfl, hc0⟩ := ha hne
  have hx0 : BlockIs (w.alloc (.cells #[.slice (some ⟨b, off, none⟩) l.length cap] 26)) w.heap.size 26 [.slice (some ⟨b, off, none⟩) l.length cap] := heap_alloc_new w _
  obtain ⟨W1, hW1⟩ : ∃ W1, (w.alloc (.cells #[.slice (some ⟨b, off, none⟩) l.length cap] 26)).alloc (.cells #[.slice none 0 0] 26) = W1 := ⟨_, rfl⟩
  have hs1 : W1.heap.size = w.heap.size + 2 := by rw [← hW1]; simp [World.alloc, -World.alloc_eq]
  have hb1 : Below w.heap.size w W1 := by rw [← hW1]; exact below_more (below_more (Below.refl _ w) _) _
  have hxD : BlockIs W1 w.heap.size 26 [.slice (some ⟨b, off, none⟩) l.length cap] := by rw [← hW1]; exact hx0.on (below_more (Below.refl _ _) _) hx0.lt
  have hxR : BlockIs W1 (w.heap.size + 1) 26 [.slice none 0 0] := by
    rw [← hW1]
    have := heap_alloc_new (w.alloc (.cells #[.slice (some ⟨b, off, none⟩) l.length cap] 26)) (.cells #[.slice none 0 0] 26)
    rw [show (w.alloc (.cells #[.slice (some ⟨b, off, none⟩) l.length cap] 26)).heap.size = w.heap.size + 1 by simp [World.alloc, -World.alloc_eq]] at this
    exact this
  obtain ⟨W2, hW2⟩ : ∃ W2, W1.alloc (.cells #[] 61) = W2 := ⟨_, rfl⟩
  have hbE : Below W1.heap.size W1 W2 := by rw [← hW2]; exact below_more (Below.refl W1.heap.size W1) _
  have d0 := (hxD.on hbE hxD.lt).cell (j := 0) rfl
  have hrow : W2.ownsRow W1.heap.size 61 3 (.slice (some ⟨W1.heap.size, 0, none⟩) 0 0) 0 [] := by
    rw [← hW2]; exact World.ownsRow_made W1 #[] 0 (Nat.le_refl W1.heap.size) (Nat.zero_le _) rfl
  have hs2 : W2.heap.size = W1.heap.size + 1 := by rw [← hW2]; simp [World.alloc, -World.alloc_eq]
  have hnews : ∀ j u, (fileCells l)[j]? = some u → W2.cell? ((⟨b, off, none⟩ : Addr).add j) = some u := by
    obtain ⟨b', off', e, hc'⟩ := ha.on (below_via hb1 hbE) hne
    cases e
    exact files_cells hc'
  have hone := fileCells_one l
  have H2 := hid (And.intro (below_via hb1 hbE) (hxR.on hbE hxR.lt))
  have HS1 := hid hs1
  clear ha hq ham hx0 hb1 hxD hxR hbE hc0 hs1
  go_enter Tryz.func11, Tryz.ntmps11
  go_wp2_with (at_builtin; refine wpList_append_lies _ rfl (.tmp 10) (.tmp 12) 24 rfl W1.heap.size 61 i0 _ 3 40 Tryz.underlying24 hi hz0 hz1 hz2 rfl (by decide) _ 0 _ rfl hrow ⟨b, off, none⟩ l.length cap (fileCells l) rfl (fileCells_length l) hnews hone hpos (by unfold maxLen; omega) (by omega) (by omega) (W1.heap.size + 1) hs2 ?_; intro g1 cap1 w1 hown1 hgrow hat hlt1)
  have hB1 : Below W1.heap.size W2 w1 := (Below.refl _ W2).grown hgrow (by omega) (fun j hj => by cases hj; exact Nat.le_refl _)
  rw [Nat.zero_add, List.nil_append] at hown1
  obtain ⟨va1, vc1, hv1, hown2⟩ := own_of_row hown1
  cases hv1
  have hbO := below_more (Below.refl w1.heap.size w1) (.cells #[.slice (some ⟨g1, 0, none⟩) l.length cap1] 26)
  have hxO : BlockIs (w1.alloc (.cells #[.slice (some ⟨g1, 0, none⟩) l.length cap1] 26)) w1.heap.size 26 [.slice (some ⟨g1, 0, none⟩) l.length cap1] := heap_alloc_new w1 _
  have hR1 := H2.out.2.on hB1 (by have := HS1.out; omega)
  have hsz1 := hB1.size
  have H3 : Hid (ActsIn w w1.heap.size l acts 0 l (some ⟨g1, 0, none⟩) cap1 (w1.alloc (.cells #[.slice (some ⟨g1, 0, none⟩) l.length cap1] 26))) :=
    ⟨below_via (H2.out.1.trans (hB1.mono (by have := HS1.out; omega))) hbO, hR1.on hbO hR1.lt, hxO, (hown2.on hbO).down (by have := HS1.out; omega) hbO.size, rfl, hl, by have := HS1.out; omega⟩
  clear hB1 hown1 hown2 hbO hxO hR1 hsz1 hgrow hat hlt1 H2 HS1 hrow hnews hone d0 hs2
  go_wp2
  go_loopg [7, 8, 9] acts.length (fun q i _ _ wr => ∃ (k : Nat) (o : List FileD) (va : Option Addr) (vc : Nat), k + q = acts.length ∧ i = .int .i64 k ∧ Hid (ActsIn w w1.heap.size l acts k o va vc wr))
  case atStart => exact ⟨0, l, _, _, by omega, rfl, H3⟩
  case round =>
    obtain ⟨k, o, va, vc, hkg, rfl, HI⟩ := hrel
    clear H3
    have r0 := HI.out.res.cell (j := 0) rfl
    have s0 := HI.out.res.thaw 0
    have o0 := HI.out.out.cell (j := 0) rfl
    have t0 := HI.out.out.thaw 0
    cases gk with
    | zero =>
      have hlt : ¬ (k : Int) < (acts.length : Int) := by omega
      have HB := hid (HI.out.below.setCell (p := ⟨w.heap.size + 1, 0, none⟩) (by show _ ≤ _ + 1; omega) (.slice va o.length vc))
      have HO := hid (own_ret (v := .slice va o.length vc) HI.out.own HI.out.res (Nat.le_refl _) (by decide))
      have HT := hid HI.out.did
      have hk : k = acts.length := by omega
      have HK := hid hk
      clear HI hk
      go_wp2
      refine bodyPost_ret (v := .tuple #[.agg #[.slice va o.length vc], .int .i64 acts.length]) (by simp [results, Tryz.results11, go_sem, r0]) rfl ⟨acts.length, o, va, vc, rfl, ⟨by rw [← HK.out]; exact HT.out, Nat.le_refl _, Or.inl rfl⟩, HO.out, HB.out⟩
    | succ q =>
      have hlt : k < acts.length := by omega
      have hlt' : (k : Int) < (acts.length : Int) := by omega
      have hne : acts ≠ [] := by intro e; rw [e] at hlt; simp at hlt
      obtain ⟨b', off', rfl, hc⟩ := HQ.out.on HI.out.below hne
      obtain ⟨x0, x1, x2, x3⟩ := hc k hlt
      clear hc
      have hbA := below_more (Below.refl wr.heap.size wr) (.cells #[.slice none 0 0] 26)
      have y0 := (hbA.cell (p := ⟨b', off' + k * 4, none⟩) (World.block_lt_of_cell? wr _ x0)).trans x0
      have y1 := (hbA.cell (p := ⟨b', off' + k * 4 + 1, none⟩) (World.block_lt_of_cell? wr _ x1)).trans x1
      have y2 := (hbA.cell (p := ⟨b', off' + k * 4 + 2, none⟩) (World.block_lt_of_cell? wr _ x2)).trans x2
      have y3 := (hbA.cell (p := ⟨b', off' + k * 4 + 3, none⟩) (World.block_lt_of_cell? wr _ x3)).trans x3
      have o1 := (HI.out.out.on hbA HI.out.out.lt).cell (j := 0) rfl
      have hbx : BlockIs (wr.alloc (.cells #[.slice none 0 0] 26)).drew wr.heap.size 26 [.slice none 0 0] := heap_alloc_new wr _
      have HGa := hid (show Below wr.heap.size wr wr.drew from below_drewN (Below.refl _ _) 1)
      have HGb := hid (show Below wr.heap.size wr (wr.alloc (.cells #[.slice none 0 0] 26)).drew from below_drewN hbA 1)
      have HBX := hid hbx
      obtain ⟨A, ok, hF⟩ : ∃ A ok, doAns o acts[k] = (A, ok) := ⟨_, _, rfl⟩
      have CF : Hid (∀ W, Hid (Below wr.heap.size wr W) → Calls Tryz.prog 39 #[.agg #[.slice va o.length vc], .agg #[.int .i64 acts[k].kind, .string acts[k].name, .string acts[k].text, .string acts[k].to]] W fun e W' => ∃ vb vd, e = .returned (.tuple #[.agg #[.slice vb A.length vd], .bool ok]) ∧ Hid (OwnAt W' 61 (fileCells A) A.length vb wr.heap.size W'.heap.size ∧ Below W.heap.size W W' ∧ Below wr.heap.size wr W')) := by
        intro W hW
        have CQ := specDoAct_o va o vc acts[k] HI.out.small (HM.out _ (List.getElem_mem hlt)).2.1 W (HI.out.files.on hW.out)
        rw [hF] at CQ
        dsimp only at CQ
        refine Calls.mono CQ ?_
        rintro e W' ⟨vb, vd, rfl, ho, hb⟩
        exact ⟨vb, vd, rfl, ho.down hW.out.size (Nat.le_refl _), hb, below_via hW.out hb⟩
      have HF := hid hF
      clear hbA hbx hF
      go_upto_region 5 with fail
      go_cut [8, 9] (fun sa sb wx => ∃ Bx vb vd, sa = .pointer (some ⟨Bx, 0, none⟩) ∧ sb = .bool ok ∧ Hid (Below wr.heap.size wr wx ∧ BlockIs wx Bx 26 [.slice vb A.length vd] ∧ OwnAt wx 61 (fileCells A) A.length vb wr.heap.size wx.heap.size))
      case first =>
        go_region_with (first | (go_at_call 39; refine Calls.mono (CF.out _ HGa) ?_; rintro e w5 ⟨vb, vd, rfl, H5⟩) | (go_at_call 39; refine Calls.mono (CF.out _ HGb) ?_; rintro e w5 ⟨vb, vd, rfl, H5⟩; have z0 := (HBX.out.on H5.out.2.1 HBX.out.lt).cell (j := 0) rfl; have z1 := (HBX.out.on H5.out.2.1 HBX.out.lt).thaw 0))
        all_goals
          go_wp2_with fail
          go_meet
          first
          | (have hbm := below_more (Below.refl w5.heap.size w5) (.cells #[.slice vb A.length vd] 26)
             exact ⟨w5.heap.size, vb, vd, rfl, rfl, below_via H5.out.2.2 hbm, heap_alloc_new w5 _, (H5.out.1.on hbm).down (Nat.le_refl _) hbm.size⟩)
          | exact ⟨wr.heap.size, vb, vd, rfl, rfl, H5.out.2.2.setCell (p := ⟨wr.heap.size, 0, none⟩) (Nat.le_refl _) _, (HBX.out.on H5.out.2.1 HBX.out.lt).set 0 _, own_ret H5.out.1 (HBX.out.on H5.out.2.1 HBX.out.lt) (Nat.le_refl _) (by decide)⟩
      case rest =>
        obtain ⟨Bx, vb, vd, rfl, rfl, HC⟩ := hcut
        clear CF HGa HGb HBX x0 x1 x2 x3 y0 y1 y2 y3 o0 o1 r0 s0 t0
        have HI2 := hid (HI.out.on HC.out.1)
        have hst := doTo_step hlt HI.out.did
        have r0 := HI2.out.res.cell (j := 0) rfl
        have s0 := HI2.out.res.thaw 0
        have o0 := HI2.out.out.cell (j := 0) rfl
        have t0 := HI2.out.out.thaw 0
        have n0 := HC.out.2.1.cell (j := 0) rfl
        cases hr : doAct o acts[k] with
        | none =>
          rw [hr] at hst
          have hF := HF.out
          rw [doAns, hr] at hF
          cases hF
          have HT2 := hid hst
          have HT := hid HI.out.did
          have HB := hid (HI2.out.below.setCell (p := ⟨w.heap.size + 1, 0, none⟩) (by show _ ≤ _ + 1; omega) (.slice va o.length vc))
          have HO := hid (own_ret (v := .slice va o.length vc) HI2.out.own HI2.out.res (Nat.le_refl _) (by decide))
          clear HI HI2 HC hst hr HF
          go_wp2
          refine bodyPost_ret (v := .tuple #[.agg #[.slice va o.length vc], .int .i64 k]) (by simp [results, Tryz.results11, go_sem, r0]) rfl ⟨k, o, va, vc, rfl, ⟨HT.out, by omega, Or.inr HT2.out⟩, HO.out, HB.out⟩
        | some o' =>
          rw [hr] at hst
          have hF := HF.out
          rw [doAns, hr] at hF
          cases hF
          have hsm : A.length ≤ 1048576 := by have := (diskOk_iff.1 (doAct_right hr)).1; omega
          have HN : Hid (ActsIn w w1.heap.size l acts (k + 1) A vb vd (wc.setCell ⟨w1.heap.size, 0, none⟩ (.slice vb A.length vd))) :=
            ⟨HI2.out.below.setCell (p := ⟨w1.heap.size, 0, none⟩) (by show _ ≤ w1.heap.size; have := HI2.out.far; omega) _, HI2.out.res.far (by have := HI2.out.far; omega) _, HI2.out.out.set 0 _, (own_ret HC.out.2.2 HI2.out.out (Nat.le_refl _) (by decide)).down (by have := HI.out.below.size; omega) (Nat.le_refl _), hst, hsm, HI2.out.far⟩
          clear HI HI2 HC hst hr HF
          go_wp2
          go_roundg q
          case measure => omega
          case rel => exact ⟨k + 1, A, vb, vd, by omega, by go_num, HN⟩
end Go.Proofs.YtoanhjjigbjecaaGreatDoor
