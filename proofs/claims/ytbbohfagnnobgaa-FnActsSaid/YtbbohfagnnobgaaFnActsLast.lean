/-
  For every slice of bytes, laws.FnActs returns true: drawn acts, done one by one, leave what they leave all at once; what is added stands behind, what is dropped is gone; nothing that was in memory is written.
-/
import Derived.Test.YtbbohfagnnobgaaRows
import Derived.Test.YtbbohfagnnobgaaJoint40
import Derived.Test.YtbbohfagnnobgaaJoint18
import Derived.Test.YtbbohfagnnobgaaJoint49
import Derived.Test.YtbbohfagnnobgaaJoint50
import Derived.Test.YtbbohfagnnobgaaJoint53
import Derived.Lib.QuietBelow
import Derived.Laws.Concat
import Derived.WalkSmall
import Derived.WalkKit
import Derived.ProofKit
import Derived.OpenShut
import Derived.OpenVars
import Derived.Deep.DeepHandedRow
import Derived.Lib.LaidTab
import Derived.Stop.LaidErr
namespace Go.Proofs.Ytbbohfagnnobgaa.fnActs
open Go.ChangeShapes Go.WideShapes Go.ChangeAt Go.ChangeMaps Go.RowKit

theorem own_more {x y : World} {t : TypeId} {cs : List Value} {n : Nat} {va : Option Addr} {lo : Nat} (h : OwnAt x t cs n va lo x.heap.size) (hb : Below x.heap.size x y) : OwnAt y t cs n va lo y.heap.size := h.more hb
theorem cells_on {w w' : World} {gb off i : Nat} {a : ActD} (h : w.cell? ⟨gb, off + i * 4, none⟩ = some (.int .i64 a.kind) ∧ w.cell? ⟨gb, off + i * 4 + 1, none⟩ = some (.string a.name) ∧ w.cell? ⟨gb, off + i * 4 + 2, none⟩ = some (.string a.text) ∧ w.cell? ⟨gb, off + i * 4 + 3, none⟩ = some (.string a.to)) (hb : Below w.heap.size w w') :
    w'.cell? ⟨gb, off + i * 4, none⟩ = some (.int .i64 a.kind) ∧ w'.cell? ⟨gb, off + i * 4 + 1, none⟩ = some (.string a.name) ∧ w'.cell? ⟨gb, off + i * 4 + 2, none⟩ = some (.string a.text) ∧ w'.cell? ⟨gb, off + i * 4 + 3, none⟩ = some (.string a.to) := by
  obtain ⟨x, y, z, u⟩ := h
  exact ⟨(hb.cell (p := ⟨gb, off + i * 4, none⟩) (World.block_lt_of_cell? w _ x)).trans x, (hb.cell (p := ⟨gb, off + i * 4 + 1, none⟩) (World.block_lt_of_cell? w _ y)).trans y, (hb.cell (p := ⟨gb, off + i * 4 + 2, none⟩) (World.block_lt_of_cell? w _ z)).trans z, (hb.cell (p := ⟨gb, off + i * 4 + 3, none⟩) (World.block_lt_of_cell? w _ u)).trans u⟩
theorem fileAt_txt (ao : Option Addr) (l : List FileD) (cap : Nat) (name : ByteArray) (hl : l.length ≤ 1048576) (ht : ∀ f ∈ l, f.text.size ≤ 1048576) (w : World) (ha : FilesAt w ao l) :
    Calls Try.prog 15 #[.agg #[.slice ao l.length cap], .string name] w fun e w' => e = .returned (.tuple #[.string (textOf l name), .bool (hasOf l name)]) ∧ Below w.heap.size w w' := by
  refine (implFileAt_any ao l cap name hl ht w ha).mono ?_
  rintro e w' ⟨(⟨k, hk, hf, rfl⟩ | ⟨hn, rfl⟩), b⟩
  · refine ⟨?_, b⟩
    rw [textOf, hasOf, found_some hf]
    rfl
  · refine ⟨?_, b⟩
    rw [textOf, hasOf, found_none hn]
    rfl
open Go.Sort in
set_option maxRecDepth 1000000 in
set_option maxHeartbeats 8000000 in
theorem walk (ao : Option Addr) (len cap : Nat) (hcap : len ≤ cap) (w : World) (hr : Bytes w ao len) :
    Calls Try.prog 3 #[.slice ao len cap] w fun e w' => e = .returned (.bool true) ∧ Below w.heap.size w w' := by
  have HR := hid hr
  clear hr
  by_cases hbig : 1048576 < len
  · go_enter Try.func3, Try.ntmps3
    go_wp2
    go_ret
    exact ⟨rfl, Below.refl _ _⟩
  have hlen : len ≤ 1048576 := by omega
  clear hbig
  go_enter Try.func3, Try.ntmps3
  go_wp2_with fail
  refine (big_no ao len cap hlen _).mono ?_
  rintro e w0 ⟨rfl, hw0⟩
  rw [hw0]
  clear hw0 w0
  go_wp2_with fail
  refine (drawCutActs_any ao len cap hlen hcap _ HR.out).mono ?_
  rintro e w1 ⟨va, vc, l, oa, oc, acts, x, zo, zc, zs, rfl, hl, hm, hal, hat, hzl, he, hea, hez, hoc, b1⟩
  have HSM : Hid (∀ f ∈ l, f.name.size ≤ 1048576 ∧ f.text.size ≤ 1048576) := fun f hf => ⟨by have := (hm f hf).1; omega, by have := (hm f hf).2; omega⟩
  have HAM : Hid (ActsSmall acts) := fun a ha => by obtain ⟨h1, h2, h3⟩ := hat a ha; exact ⟨by omega, by omega, by omega⟩
  have HTY := hid hat
  clear hm hat
  have BW := hid b1
  have EL := hid he
  have EA := hid hea
  have EZ := hid hez
  clear b1 he hea hez HR
  have bx := below_more (Below.refl w1.heap.size w1) (.cells #[.slice va l.length vc] 26)
  have NXD : Hid (BlockIs (w1.alloc (.cells #[.slice va l.length vc] 26)) w1.heap.size 26 [.slice va l.length vc]) := heap_alloc_new w1 _
  have YBW := hid (below_via BW.out bx)
  have YEL := hid (EL.out.on bx)
  have YEA := hid (EA.out.on bx)
  have YEZ := hid (EZ.out.on bx)
  clear bx BW EL EA EZ
  have BW := YBW
  have EL := YEL
  have EA := YEA
  have EZ := YEZ
  clear YBW YEL YEA YEZ
  have XD := NXD
  clear NXD
  have zXD_1 := XD.out.cell (j := 0) rfl
  obtain ⟨RR, hRR⟩ : ∃ RR, (doAll l acts).1 = RR := ⟨_, rfl⟩
  obtain ⟨N, hN⟩ : ∃ N, (doAll l acts).2 = N := ⟨_, rfl⟩
  have hto := doAll_to acts l
  have hRs := doAll_small (l := l) (acts := acts) (by omega)
  rw [hRR, hN] at hto
  rw [hRR] at hRs
  have HTO := hid hto.1
  have hNl := hto.2
  clear hto
  go_wp2_with fail
  refine Calls.mono (implDoActs_o va l vc oa acts oc (by omega) HSM.out (by omega) HAM.out _ EL.out EA.out) ?_
  rintro e w2 ⟨vn, vnc, rfl, hown, bx⟩
  rw [hRR, hN]
  rw [hRR] at hown
  have EN := hid hown.files
  clear hown
  have YBW := hid (below_via BW.out bx)
  have YEL := hid (EL.out.on bx)
  have YEA := hid (EA.out.on bx)
  have YEZ := hid (EZ.out.on bx)
  have YXD := hid (XD.out.on bx XD.out.lt)
  clear bx BW EL EA EZ XD zXD_1
  have BW := YBW
  have EL := YEL
  have EA := YEA
  have EZ := YEZ
  have XD := YXD
  clear YBW YEL YEA YEZ YXD
  have bx := below_more (Below.refl w2.heap.size w2) (.cells #[.slice vn RR.length vnc] 26)
  have NXN : Hid (BlockIs (w2.alloc (.cells #[.slice vn RR.length vnc] 26)) w2.heap.size 26 [.slice vn RR.length vnc]) := heap_alloc_new w2 _
  have YBW := hid (below_via BW.out bx)
  have YEL := hid (EL.out.on bx)
  have YEA := hid (EA.out.on bx)
  have YEZ := hid (EZ.out.on bx)
  have YXD := hid (XD.out.on bx XD.out.lt)
  have YEN := hid (EN.out.on bx)
  clear bx BW EL EA EZ XD EN
  have BW := YBW
  have EL := YEL
  have EA := YEA
  have EZ := YEZ
  have XD := YXD
  have EN := YEN
  clear YBW YEL YEA YEZ YXD YEN
  have XN := NXN
  clear NXN
  have zXD_2 := XD.out.cell (j := 0) rfl
  have zXN_2 := XN.out.cell (j := 0) rfl
  go_wp2_with fail
  refine Calls.mono (specDoActs_o va l vc oa acts oc (by omega) (by omega) HAM.out _ EL.out EA.out) ?_
  rintro e w3 ⟨vw, vwc, rfl, hown, bx⟩
  rw [hRR, hN]
  rw [hRR] at hown
  have EW := hid hown.files
  clear hown hRR hN
  have YBW := hid (below_via BW.out bx)
  have YEL := hid (EL.out.on bx)
  have YEA := hid (EA.out.on bx)
  have YEZ := hid (EZ.out.on bx)
  have YXD := hid (XD.out.on bx XD.out.lt)
  have YEN := hid (EN.out.on bx)
  have YXN := hid (XN.out.on bx XN.out.lt)
  clear bx BW EL EA EZ XD EN XN zXD_2 zXN_2
  have BW := YBW
  have EL := YEL
  have EA := YEA
  have EZ := YEZ
  have XD := YXD
  have EN := YEN
  have XN := YXN
  clear YBW YEL YEA YEZ YXD YEN YXN
  have bx := below_more (Below.refl w3.heap.size w3) (.cells #[.slice vw RR.length vwc] 26)
  have NXW : Hid (BlockIs (w3.alloc (.cells #[.slice vw RR.length vwc] 26)) w3.heap.size 26 [.slice vw RR.length vwc]) := heap_alloc_new w3 _
  have YBW := hid (below_via BW.out bx)
  have YEL := hid (EL.out.on bx)
  have YEA := hid (EA.out.on bx)
  have YEZ := hid (EZ.out.on bx)
  have YXD := hid (XD.out.on bx XD.out.lt)
  have YEN := hid (EN.out.on bx)
  have YXN := hid (XN.out.on bx XN.out.lt)
  have YEW := hid (EW.out.on bx)
  clear bx BW EL EA EZ XD EN XN EW
  have BW := YBW
  have EL := YEL
  have EA := YEA
  have EZ := YEZ
  have XD := YXD
  have EN := YEN
  have XN := YXN
  have EW := YEW
  clear YBW YEL YEA YEZ YXD YEN YXN YEW
  have XW := NXW
  clear NXW
  have zXD_3 := XD.out.cell (j := 0) rfl
  have zXN_3 := XN.out.cell (j := 0) rfl
  have zXW_3 := XW.out.cell (j := 0) rfl
  go_wp2_with fail
  refine Calls.mono (sameDisk_same vn vw RR vnc vwc hRs _ EN.out EW.out) ?_
  rintro e w4 ⟨rfl, bx⟩
  have YBW := hid (below_via BW.out bx)
  have YEL := hid (EL.out.on bx)
  have YEA := hid (EA.out.on bx)
  have YEZ := hid (EZ.out.on bx)
  have YXD := hid (XD.out.on bx XD.out.lt)
  have YEN := hid (EN.out.on bx)
  have YXN := hid (XN.out.on bx XN.out.lt)
  have YEW := hid (EW.out.on bx)
  have YXW := hid (XW.out.on bx XW.out.lt)
  clear bx BW EL EA EZ XD EN XN EW XW zXD_3 zXN_3 zXW_3
  have BW := YBW
  have EL := YEL
  have EA := YEA
  have EZ := YEZ
  have XD := YXD
  have EN := YEN
  have XN := YXN
  have EW := YEW
  have XW := YXW
  clear YBW YEL YEA YEZ YXD YEN YXN YEW YXW
  clear XW EW
  have F0 := hid (And.intro EL.out (And.intro EA.out (And.intro EN.out EZ.out)))
  have B4 := hid (And.intro BW.out (And.intro XD.out XN.out))
  have c_d4 := XD.out.cell (j := 0) rfl
  have bx := below_more (Below.refl w4.heap.size w4) (.cells #[.slice va l.length vc] 26)
  have NXO : Hid (BlockIs (w4.alloc (.cells #[.slice va l.length vc] 26)) w4.heap.size 26 [.slice va l.length vc]) := heap_alloc_new w4 _
  have YBW := hid (below_via BW.out bx)
  have YEL := hid (EL.out.on bx)
  have YEA := hid (EA.out.on bx)
  have YEZ := hid (EZ.out.on bx)
  have YXD := hid (XD.out.on bx XD.out.lt)
  have YEN := hid (EN.out.on bx)
  have YXN := hid (XN.out.on bx XN.out.lt)
  clear bx BW EL EA EZ XD EN XN
  have BW := YBW
  have EL := YEL
  have EA := YEA
  have EZ := YEZ
  have XD := YXD
  have EN := YEN
  have XN := YXN
  clear YBW YEL YEA YEZ YXD YEN YXN
  have XO := NXO
  clear NXO
  obtain ⟨w5, hw5⟩ : ∃ x, w4.alloc (.cells #[.slice va l.length vc] 26) = x := ⟨_, rfl⟩
  rw [hw5] at BW EL EA EZ XD EN XN XO
  have zXD_4 := XD.out.cell (j := 0) rfl
  have zXN_4 := XN.out.cell (j := 0) rfl
  have zXO_4 := XO.out.cell (j := 0) rfl
  go_wp2
  clear c_d4 zXD_4 zXN_4 zXO_4
  have B5 : Hid (Below w4.heap.size w4 w5) := (show Below _ _ _ by rw [← hw5]; exact below_more (Below.refl _ _) _)
  clear hw5
  go_loopw [12, 13, 14, 15, 16, 17, 18] (fun y _ _ _ _ _ _ wr => ∃ (i : Nat) (L : List FileD) (va' : Option Addr) (vc' : Nat), i ≤ N ∧ y = .int .i64 i ∧ L.length ≤ 1048576 ∧ Hid (doTo l acts i = some L) ∧ Hid (∀ f ∈ L, f.name.size ≤ 1048576 ∧ f.text.size ≤ 1048576) ∧ Hid (Below w4.heap.size w4 wr) ∧ Hid (FilesAt w4 va' L ∨ OwnAt wr 77 (fileCells L) L.length va' w4.heap.size wr.heap.size) ∧ Hid (BlockIs wr w4.heap.size 26 [.slice va' L.length vc'])) (fun y _ _ _ _ _ _ _ => N + 1 - (intOf y).toNat)
  case atStart => exact ⟨0, l, va, vc, by omega, rfl, by omega, rfl, HSM, B5, hid (Or.inl F0.out.1), XO⟩
  case round =>
    clear XO B5 EL EA EN EZ BW XD XN
    obtain ⟨i, L, va', vc', hi, rfl, hLs, HTL, HLM, B5, HF, XO⟩ := hrel
    have BW := hid (below_via B4.out.1 (show Below w4.heap.size w4 wr from B5.out))
    have EL := hid (F0.out.1.on B5.out)
    have EA := hid (F0.out.2.1.on B5.out)
    have EN := hid (F0.out.2.2.1.on B5.out)
    have EZ := hid (F0.out.2.2.2.on B5.out)
    have XD := hid (B4.out.2.1.on B5.out B4.out.2.1.lt)
    have XN := hid (B4.out.2.2.on B5.out B4.out.2.2.lt)
    have HW4 := hid B5.out.size
    have EO : Hid (FilesAt wr va' L) := HF.out.elim (fun h => h.on B5.out) (fun h => h.files)
    by_cases hlt : i < N
    · have hlt' : (i : Int) < (N : Int) := by omega
      have hia : i < acts.length := by omega
      have hia' : (i : Int) < (acts.length : Int) := by omega
      have hi0 : (0 : Int) ≤ (i : Int) := by omega
      obtain ⟨L2, hd2, ht2⟩ := doTo_next HTO.out hlt hia HTL.out
      obtain ⟨a, ha⟩ : ∃ a, acts[i] = a := ⟨_, rfl⟩
      rw [ha] at hd2
      have htn : a.Tiny := by rw [← ha]; exact HTY.out _ (List.getElem_mem hia)
      have hL2 := doAct_right hd2
      have HT2 := hid ht2
      have HD2 := hid hd2
      have HA2 := hid ha
      obtain ⟨gb, off, hoa, hca⟩ := EA.out (by intro e; rw [e] at hia; simp at hia)
      subst hoa
      have hcells := hca i hia
      rw [ha] at hcells
      clear ht2 hd2 ha hca
      go_wp2
      refine wp_region_each (N := 156) (by kernel_rfl) (by kernel_rfl) rfl (by kernel_rfl) (fun W => Below wr.heap.size wr W) (fun j v u W => match j with | 0 => v = .agg #[.slice va' L.length vc'] | 1 => v = .slice (some ⟨gb, off, none⟩) acts.length oc | 2 => v = .int .i64 (i : Int) | 3 => v = .pointer (some ⟨gb, off + i * 4, none⟩) | 4 => v = .agg #[.int .i64 a.kind, .string a.name, .string a.text, .string a.to] | 5 => ∃ vn2 vc2, v = .tuple #[.agg #[.slice vn2 L2.length vc2], .bool true] ∧ OwnAt W 77 (fileCells L2) L2.length vn2 wr.heap.size W.heap.size | 6 => ∃ vn2 vc2, v = .tuple #[.agg #[.slice vn2 L2.length vc2], .bool true] ∧ OwnAt W 77 (fileCells L2) L2.length vn2 wr.heap.size W.heap.size | 7 => ∃ vn2 vc2, v = .agg #[.slice vn2 L2.length vc2] ∧ OwnAt W 77 (fileCells L2) L2.length vn2 wr.heap.size W.heap.size | 8 => v = .bool true | 9 => ∃ X, v = .pointer (some ⟨X, 0, none⟩) ∧ wr.heap.size ≤ X ∧ BlockIs W X 26 [.slice none 0 0] | 10 => ∃ X vn2 vc2, u = .pointer (some ⟨X, 0, none⟩) ∧ wr.heap.size ≤ X ∧ BlockIs W X 26 [.slice vn2 L2.length vc2] ∧ OwnAt W 77 (fileCells L2) L2.length vn2 wr.heap.size W.heap.size | 11 => v = .bool true | _ => True) (fun i => if i = 10 then 9 else i) (fun j i => decide ((j, i) ∈ ([(9, 10)] : List (Nat × Nat)))) (fun i x y => x.heap.size ≤ y.heap.size ∧ ∀ g ty cs, BlockIs x g ty cs → (i = 10 → ty ≠ 26) → BlockIs y g ty cs) (fun i => if i = 10 then 13 else 0) (by kernel_rfl) (fun i hi => by have : 12 ≤ i := hi; simp; omega) ?_ (below_drewN (Below.refl _ _) 1) ?_ ?_
      · intro i j v u x y hij hdd hwt hxy hg
        match j, hg with
        | 0, hg => exact hg
        | 1, hg => exact hg
        | 2, hg => exact hg
        | 3, hg => exact hg
        | 4, hg => exact hg
        | 5, hg =>
          obtain ⟨vn2, vc2, e1, e2⟩ := hg
          exact ⟨vn2, vc2, e1, own_ext e2 hxy.1 fun g r _ h => hxy.2 _ _ _ h (fun _ => by decide)⟩
        | 6, hg =>
          obtain ⟨vn2, vc2, e1, e2⟩ := hg
          exact ⟨vn2, vc2, e1, own_ext e2 hxy.1 fun g r _ h => hxy.2 _ _ _ h (fun _ => by decide)⟩
        | 7, hg =>
          obtain ⟨vn2, vc2, e1, e2⟩ := hg
          exact ⟨vn2, vc2, e1, own_ext e2 hxy.1 fun g r _ h => hxy.2 _ _ _ h (fun _ => by decide)⟩
        | 8, hg => exact hg
        | 9, hg =>
          obtain ⟨X, e1, e2, e3⟩ := hg
          simp at hdd
          exact ⟨X, e1, e2, hxy.2 _ _ _ e3 (fun e => absurd e hdd)⟩
        | 10, hg =>
          obtain ⟨X, vn2, vc2, e1, e2, e3, e4⟩ := hg
          exact ⟨X, vn2, vc2, e1, e2, hxy.2 _ _ _ e3 (fun e => absurd e hij), own_ext e4 hxy.1 fun g r _ h => hxy.2 _ _ _ h (fun _ => by decide)⟩
        | 11, hg => exact hg
        | n + 12, _ => exact trivial
      · refine ⟨?_, ?_, ?_, ?_, ?_, ?_, ?_, ?_, ?_, ?_, ?_, ?_, trivial⟩
        · intro A W hC hg hb
          have h11 : A.eval (.tmp 11) = .pointer (some ⟨w4.heap.size, 0, none⟩) := hb 11 (base_of (by kernel_rfl))
          have hc := (XO.out.on hC XO.out.lt).cell (j := 0) rfl
          exact does_value (v := .agg #[.slice va' L.length vc']) (w' := W) (by simp only [execOp, h11]; simp [go_sem, hc]) ⟨rfl, hC, Nat.le_refl _, fun _ _ _ h _ => h⟩
        · intro A W hC hg hb
          have h4 : A.eval (.tmp 4) = .slice (some ⟨gb, off, none⟩) acts.length oc := hb 4 (base_of (by kernel_rfl))
          exact does_value (v := .slice (some ⟨gb, off, none⟩) acts.length oc) (w' := W) (by simp only [execOp, h4]; simp [go_sem]) ⟨rfl, hC, Nat.le_refl _, fun _ _ _ h _ => h⟩
        · intro A W hC hg hb
          have h12 : A.eval (.tmp 12) = .int .i64 (i : Int) := hb 12 (base_of (by kernel_rfl))
          exact does_value (v := .int .i64 (i : Int)) (w' := W) (by simp only [execOp, h12]; simp [go_sem]) ⟨rfl, hC, Nat.le_refl _, fun _ _ _ h _ => h⟩
        · intro A W hC hg hb
          have h61 : A.eval (.tmp 61) = .slice (some ⟨gb, off, none⟩) acts.length oc := hg 1 61 (by decide) rfl (by simp [Op.operands]) (by kernel_rfl) rfl
          have h62 : A.eval (.tmp 62) = .int .i64 (i : Int) := hg 2 62 (by decide) rfl (by simp [Op.operands]) (by kernel_rfl) rfl
          simp [go_sem] at h61 h62
          exact does_value (v := .pointer (some ⟨gb, off + i * 4, none⟩)) (w' := W) (by simp [execOp, go_sem, h61, h62, hia', hi0]) ⟨rfl, hC, Nat.le_refl _, fun _ _ _ h _ => h⟩
        · intro A W hC hg hb
          have h63 : A.eval (.tmp 63) = .pointer (some ⟨gb, off + i * 4, none⟩) := hg 3 63 (by decide) rfl (by simp [Op.operands]) (by kernel_rfl) rfl
          have hc0 := (hC.cell (p := ⟨gb, off + i * 4, none⟩) (World.block_lt_of_cell? wr _ hcells.1)).trans hcells.1
          have hc1 := (hC.cell (p := ⟨gb, off + i * 4 + 1, none⟩) (World.block_lt_of_cell? wr _ hcells.2.1)).trans hcells.2.1
          have hc2 := (hC.cell (p := ⟨gb, off + i * 4 + 2, none⟩) (World.block_lt_of_cell? wr _ hcells.2.2.1)).trans hcells.2.2.1
          have hc3 := (hC.cell (p := ⟨gb, off + i * 4 + 3, none⟩) (World.block_lt_of_cell? wr _ hcells.2.2.2)).trans hcells.2.2.2
          exact does_value (v := .agg #[.int .i64 a.kind, .string a.name, .string a.text, .string a.to]) (w' := W) (by simp only [execOp, h63]; simp [go_sem, hc0, hc1, hc2, hc3]) ⟨rfl, hC, Nat.le_refl _, fun _ _ _ h _ => h⟩
        · intro A W hC hg hb
          have h60 : A.eval (.tmp 60) = .agg #[.slice va' L.length vc'] := hg 0 60 (by decide) rfl (by simp [Op.operands, Call.operands]) (by kernel_rfl) rfl
          have h64 : A.eval (.tmp 64) = .agg #[.int .i64 a.kind, .string a.name, .string a.text, .string a.to] := hg 4 64 (by decide) rfl (by simp [Op.operands, Call.operands]) (by kernel_rfl) rfl
          simp [go_sem] at h60 h64
          refine does_enter (f := 14) (args := #[.agg #[.slice va' L.length vc'], .agg #[.int .i64 a.kind, .string a.name, .string a.text, .string a.to]]) (w' := W) (by simp [go_sem, h60, h64]) ?_
          refine (implDoAct_o va' L vc' a hLs HLM.out ⟨by have := htn.1; omega, by have := htn.2.1; omega, by have := htn.2.2; omega⟩ W (EO.out.on hC)).mono ?_
          rintro e W' ⟨vn2, vc2, rfl, hown, b'⟩
          rw [show (doAns L a).1 = L2 by rw [doAns, HD2.out]] at hown ⊢
          rw [show (doAns L a).2 = true by rw [doAns, HD2.out]]
          exact ⟨_, rfl, ⟨vn2, vc2, rfl, hown.down hC.size (Nat.le_refl _)⟩, below_via hC b', b'.size, fun _ _ _ h _ => h.on b' h.lt⟩
        · intro A W hC hg hb
          have g5 := hg 5 65 (by decide) rfl (by simp [Op.operands]) (by kernel_rfl) rfl
          obtain ⟨vn2, vc2, h65, ho⟩ := g5
          simp [go_sem] at h65
          exact does_value (v := .tuple #[.agg #[.slice vn2 L2.length vc2], .bool true]) (w' := W) (by simp [execOp, go_sem, h65]) ⟨⟨vn2, vc2, rfl, ho⟩, hC, Nat.le_refl _, fun _ _ _ h _ => h⟩
        · intro A W hC hg hb
          have g6 := hg 6 59 (by decide) rfl (by simp [Op.operands]) (by kernel_rfl) rfl
          obtain ⟨vn2, vc2, h59, ho⟩ := g6
          simp [go_sem] at h59
          exact does_value (v := .agg #[.slice vn2 L2.length vc2]) (w' := W) (by simp [execOp, go_sem, h59]) ⟨⟨vn2, vc2, rfl, ho⟩, hC, Nat.le_refl _, fun _ _ _ h _ => h⟩
        · intro A W hC hg hb
          have g6 := hg 6 59 (by decide) rfl (by simp [Op.operands]) (by kernel_rfl) rfl
          obtain ⟨vn2, vc2, h59, ho⟩ := g6
          simp [go_sem] at h59
          exact does_value (v := .bool true) (w' := W) (by simp [execOp, go_sem, h59]) ⟨rfl, hC, Nat.le_refl _, fun _ _ _ h _ => h⟩
        · intro A W hC hg hb
          exact does_value (v := .pointer (some ⟨W.heap.size, 0, none⟩)) (w' := W.alloc (.cells #[.slice none 0 0] 26)) (by simp [execOp, go_sem]) ⟨⟨_, rfl, hC.size, heap_alloc_new W _⟩, below_more hC _, (below_more (Below.refl _ W) _).size, fun _ _ _ h _ => h.on (below_more (Below.refl _ W) _) h.lt⟩
        · intro A W hC hg hb
          have g9 := hg 9 13 (by decide) rfl (by simp [Op.operands]) (by kernel_rfl) rfl
          have g7 := hg 7 66 (by decide) rfl (by simp [Op.operands]) (by kernel_rfl) rfl
          obtain ⟨X, h13, hlo, hX⟩ := g9
          obtain ⟨vn2, vc2, h66, ho⟩ := g7
          have c0 := hX.cell (j := 0) rfl
          have f0 := hX.thaw 0
          have far : ∀ q ty cs, BlockIs W q ty cs → ty ≠ 26 → BlockIs (W.setCell ⟨X, 0, none⟩ (.slice vn2 L2.length vc2)) q ty cs := fun q ty cs hq hne => hq.far (by intro e; subst e; exact hne (block_one hq hX).1) _
          exact does_skip (w' := W.setCell ⟨X, 0, none⟩ (.slice vn2 L2.length vc2)) (by simp only [execOp, h13, h66]; simp [go_sem, c0, f0]) ⟨⟨X, vn2, vc2, h13, hlo, hX.set 0 _, own_ext ho (by simp [World.size_setCell]) fun g r _ h => far g _ _ h (by decide)⟩, hC.setCell hlo _, by simp [World.size_setCell], fun q ty cs hq hne => far q ty cs hq (hne rfl)⟩
        · intro A W hC hg hb
          have h67 : A.eval (.tmp 67) = .bool true := hg 8 67 (by decide) rfl (by simp [Op.operands]) (by kernel_rfl) rfl
          exact does_value (v := .bool true) (w' := W) (by simp [go_sem] at h67; simp [execOp, go_sem, h67]) ⟨rfl, hC, Nat.le_refl _, fun _ _ _ h _ => h⟩
      · intro vs wB bx hg
        obtain ⟨X, vn2, vc2, hu, hXw, hX, hO⟩ := hg 10 (by decide) (fun k => by simp)
        change vs 9 = _ at hu
        have h11 : vs 11 = .bool true := hg 11 (by decide) (fun k => by simp)
        clear hg
        change Exit.then _ _ _ (laidBy _ vs _ 12 _) wB
        simp only [laidBy, if_true, dstAt, List.getElem?_toArray, List.getElem?_cons_succ, List.getElem?_cons_zero, Option.bind_some]
        simp only [Act.put, List.setIfInBounds_toArray, List.set_cons_succ, List.set_cons_zero]
        rw [hu, h11]
        clear hu h11
        have HX4 : Hid (w4.heap.size < X) := (show _ < _ by have := XO.out.lt; omega)
        have OO := hid hO
        have XX := hid hX
        have HCE := hid hcells
        clear hcells hO hX hXw
        have OF := hid (HF.out)
        have BX5 := hid (below_via B5.out bx)
        have HCB := hid (cells_on HCE.out bx)
        have K1 := hid (XD.out.on bx XD.out.lt)
        have K2 := hid (XN.out.on bx XN.out.lt)
        have K3 := hid (XO.out.on bx XO.out.lt)
        have K4 := hid (EO.out.on bx)
        clear bx XD XN XO EO B5 EL EA EN EZ BW HF OF HCE
        have XO := K3
        have EO := K4
        clear K1 K2 K3 K4
        have C1 := hid (fun D os => Calls.regrown_of (w := wB) (d := D) (os := os) (fileAt_txt va' L vc' a.name hLs (fun f hf => (HLM.out f hf).2) _ (EO.out.on (below_regrown wB D os))))
        have r0 := cell_regrown (XO.out.cell (j := 0) rfl)
        have r1 := cell_regrown HCB.out.2.1
        go_wp2
        refine wp_region_quiet_below (by kernel_rfl) (by kernel_rfl) ?_
        repeat (first | go_big_quiet_step (first | (go_at_call 15; exact C1.out _ _) | fail) | quiet_step (first | (go_at_call 15; exact C1.out _ _) | fail))
        refine wpQuiet_nil ?_
        intro _ hw'
        obtain ⟨⟨dq, osq⟩, hw''⟩ := hw'
        subst hw''
        have bq := below_regrown wB dq osq
        have Y1 := hid (XO.out.on bq XO.out.lt)
        have Y2 := hid (EO.out.on bq)
        have Y3 := hid (XX.out.on bq XX.out.lt)
        have Y4 := hid (own_more OO.out bq)
        have Y5 := hid (below_via BX5.out bq)
        have Y6 := hid (cells_on HCB.out bq)
        generalize Go.Sort.grow (redrawn wB dq) osq = wq1 at bq Y1 Y2 Y3 Y4 Y5 Y6 ⊢
        clear XO EO XX OO BX5 HCB bq r0 r1 C1
        have XO := Y1
        have EO := Y2
        have XX := Y3
        have OO := Y4
        have BX5 := Y5
        have HCB := Y6
        clear Y1 Y2 Y3 Y4 Y5 Y6
        have hL2s : L2.length ≤ 1048576 := by have := (diskOk_iff.1 hL2).1; omega
        have HL2 := hid (disk_sizes hL2)
        have C2 := hid (fun D os => Calls.regrown_of (w := wq1) (d := D) (os := os) (fileAt_txt vn2 L2 vc2 a.name hL2s (fun f hf => (HL2.out f hf).2) _ (OO.out.files.on (below_regrown wq1 D os))))
        have r0 := cell_regrown (XX.out.cell (j := 0) rfl)
        have r1 := cell_regrown HCB.out.2.1
        go_wp2
        refine wp_region_quiet_below (by kernel_rfl) (by kernel_rfl) ?_
        repeat (first | go_big_quiet_step (first | (go_at_call 15; exact C2.out _ _) | fail) | quiet_step (first | (go_at_call 15; exact C2.out _ _) | fail))
        refine wpQuiet_nil ?_
        intro _ hw'
        obtain ⟨⟨dq, osq⟩, hw''⟩ := hw'
        subst hw''
        have bq := below_regrown wq1 dq osq
        have Y1 := hid (XO.out.on bq XO.out.lt)
        have Y2 := hid (EO.out.on bq)
        have Y3 := hid (XX.out.on bq XX.out.lt)
        have Y4 := hid (own_more OO.out bq)
        have Y5 := hid (below_via BX5.out bq)
        have Y6 := hid (cells_on HCB.out bq)
        generalize Go.Sort.grow (redrawn wq1 dq) osq = wq2 at bq Y1 Y2 Y3 Y4 Y5 Y6 ⊢
        clear XO EO XX OO BX5 HCB bq r0 r1 C2
        have XO := Y1
        have EO := Y2
        have XX := Y3
        have OO := Y4
        have BX5 := Y5
        have HCB := Y6
        clear Y1 Y2 Y3 Y4 Y5 Y6
        obtain ⟨T1, hT1⟩ : ∃ x, textOf L a.name = x := ⟨_, rfl⟩
        obtain ⟨T2, hT2⟩ : ∃ x, textOf L2 a.name = x := ⟨_, rfl⟩
        obtain ⟨b1, hb1⟩ : ∃ x, hasOf L a.name = x := ⟨_, rfl⟩
        obtain ⟨b2, hb2⟩ : ∃ x, hasOf L2 a.name = x := ⟨_, rfl⟩
        have hT1s : T1.size ≤ 20000 := by rw [← hT1]; exact textOf_small (doAct_parts HD2.out).1 _
        have hAD : a.kind = 1 → b2 = true ∧ T2 = T1 ++ a.text := fun h => by rw [← hb2, ← hT2, ← hT1]; exact doAct_adds HD2.out h
        have hDR : a.kind = 4 → b2 = false := fun h => by rw [← hb2]; exact doAct_drops HD2.out h
        rw [hT1, hT2, hb1, hb2]
        have y0 := HCB.out.1
        have y2 := HCB.out.2.2.1
        have hat2 : a.text.size ≤ 10 := htn.2.1
        obtain ⟨kd, hkd⟩ : ∃ x, a.kind = x := ⟨_, rfl⟩
        obtain ⟨tx, htx⟩ : ∃ x, a.text = x := ⟨_, rfl⟩
        rw [hkd] at y0 hAD hDR
        rw [htx] at y2 hAD hat2
        clear hT1 hT2 hb1 hb2 hkd htx
        by_cases hk1 : kd = 1
        · obtain ⟨rfl, rfl⟩ := hAD hk1
          have hadd : ∀ w, (Op.stringOp .add T1 tx).run Try.prog w = .ok (.string (T1 ++ tx)) w := fun w => run_string_add_sum w _ _ (by omega)
          obtain ⟨TT, hTT⟩ : ∃ x, T1 ++ tx = x := ⟨_, rfl⟩
          rw [hTT] at hadd ⊢
          clear hTT hAD hDR
          subst hk1
          have c_x := XX.out.cell (j := 0) rfl
          have c_o := XO.out.cell (j := 0) rfl
          have t_o := XO.out.thaw 0
          have B9 := hid (BX5.out.setCell (p := ⟨w4.heap.size, 0, none⟩) (Nat.le_refl _) (.slice vn2 L2.length vc2))
          have X9 := hid (XO.out.set 0 (.slice vn2 L2.length vc2))
          have O9 := hid (OwnAt.other (j := 0) (u := .slice vn2 L2.length vc2) (OwnAt.down OO.out (show w4.heap.size ≤ wr.heap.size by have := HW4.out; omega) (Nat.le_refl _)) XO.out (by decide))
          clear XO EO XX OO BX5 HCB
          go_wp2
          go_roundw
          case rel => exact ⟨i + 1, L2, vn2, vc2, by omega, by go_num, hL2s, HT2, HL2, B9, hid (Or.inr O9.out), X9⟩
          case measure => simp [intOf]; omega
        · by_cases hk4 : kd = 4
          · obtain rfl := hDR hk4
            clear hAD hDR
            subst hk4
            have c_x := XX.out.cell (j := 0) rfl
            have c_o := XO.out.cell (j := 0) rfl
            have t_o := XO.out.thaw 0
            have B9 := hid (BX5.out.setCell (p := ⟨w4.heap.size, 0, none⟩) (Nat.le_refl _) (.slice vn2 L2.length vc2))
            have X9 := hid (XO.out.set 0 (.slice vn2 L2.length vc2))
            have O9 := hid (OwnAt.other (j := 0) (u := .slice vn2 L2.length vc2) (OwnAt.down OO.out (show w4.heap.size ≤ wr.heap.size by have := HW4.out; omega) (Nat.le_refl _)) XO.out (by decide))
            clear XO EO XX OO BX5 HCB
            go_wp2
            go_roundw
            case rel => exact ⟨i + 1, L2, vn2, vc2, by omega, by go_num, hL2s, HT2, HL2, B9, hid (Or.inr O9.out), X9⟩
            case measure => simp [intOf]; omega
          · clear hAD hDR
            have c_x := XX.out.cell (j := 0) rfl
            have c_o := XO.out.cell (j := 0) rfl
            have t_o := XO.out.thaw 0
            have B9 := hid (BX5.out.setCell (p := ⟨w4.heap.size, 0, none⟩) (Nat.le_refl _) (.slice vn2 L2.length vc2))
            have X9 := hid (XO.out.set 0 (.slice vn2 L2.length vc2))
            have O9 := hid (OwnAt.other (j := 0) (u := .slice vn2 L2.length vc2) (OwnAt.down OO.out (show w4.heap.size ≤ wr.heap.size by have := HW4.out; omega) (Nat.le_refl _)) XO.out (by decide))
            clear XO EO XX OO BX5 HCB
            go_wp2
            go_roundw
            case rel => exact ⟨i + 1, L2, vn2, vc2, by omega, by go_num, hL2s, HT2, HL2, B9, hid (Or.inr O9.out), X9⟩
            case measure => simp [intOf]; omega
    · have hge : ¬ (i : Int) < (N : Int) := by omega
      obtain rfl : i = N := by omega
      obtain rfl : L = RR := by have h1 := HTL.out; rw [HTO.out] at h1; cases h1; rfl
      have c_d := XD.out.cell (j := 0) rfl
      have c_n := XN.out.cell (j := 0) rfl
      have c_o := XO.out.cell (j := 0) rfl
      clear HF HTL HLM HTO
      go_wp2_with fail
      refine Calls.mono (implCutActs_o va l vc oa acts oc x zo zs zc (by omega) HSM.out (by omega) HAM.out hoc (by omega) _ EL.out EA.out EZ.out) ?_
      rintro e w6 ⟨vq, vqc, rfl, hown, bx⟩
      have hcs := cutAns_small (l := l) (acts := acts) (nn := x) (zs := zs) (by omega)
      obtain ⟨Q, hQ⟩ : ∃ Q, (cutAns l acts x zs).1 = Q := ⟨_, rfl⟩
      obtain ⟨qb, hqb⟩ : ∃ q, (cutAns l acts x zs).2 = q := ⟨_, rfl⟩
      rw [hQ, hqb]
      rw [hQ] at hown
      have EQ := hid hown.files
      clear hown c_d c_n c_o
      have YBW := hid (below_via BW.out bx)
      have YEL := hid (EL.out.on bx)
      have YEA := hid (EA.out.on bx)
      have YEN := hid (EN.out.on bx)
      have YEZ := hid (EZ.out.on bx)
      have YXD := hid (XD.out.on bx XD.out.lt)
      have YXN := hid (XN.out.on bx XN.out.lt)
      have YXO := hid (XO.out.on bx XO.out.lt)
      have YEO := hid (EO.out.on bx)
      clear bx BW EL EA EN EZ XD XN XO EO
      have BW := YBW
      have EL := YEL
      have EA := YEA
      have EN := YEN
      have EZ := YEZ
      have XD := YXD
      have XN := YXN
      have XO := YXO
      have EO := YEO
      clear YBW YEL YEA YEN YEZ YXD YXN YXO YEO
      have bx := below_more (Below.refl w6.heap.size w6) (.cells #[.slice vq Q.length vqc] 26)
      have NXQ : Hid (BlockIs (w6.alloc (.cells #[.slice vq Q.length vqc] 26)) w6.heap.size 26 [.slice vq Q.length vqc]) := heap_alloc_new w6 _
      have YBW := hid (below_via BW.out bx)
      have YEL := hid (EL.out.on bx)
      have YEA := hid (EA.out.on bx)
      have YEN := hid (EN.out.on bx)
      have YEZ := hid (EZ.out.on bx)
      have YXD := hid (XD.out.on bx XD.out.lt)
      have YXN := hid (XN.out.on bx XN.out.lt)
      have YXO := hid (XO.out.on bx XO.out.lt)
      have YEO := hid (EO.out.on bx)
      have YEQ := hid (EQ.out.on bx)
      clear bx BW EL EA EN EZ XD XN XO EO EQ
      have BW := YBW
      have EL := YEL
      have EA := YEA
      have EN := YEN
      have EZ := YEZ
      have XD := YXD
      have XN := YXN
      have XO := YXO
      have EO := YEO
      have EQ := YEQ
      clear YBW YEL YEA YEN YEZ YXD YXN YXO YEO YEQ
      have XQ := NXQ
      clear NXQ
      have zXD_5 := XD.out.cell (j := 0) rfl
      have zXN_5 := XN.out.cell (j := 0) rfl
      have zXO_5 := XO.out.cell (j := 0) rfl
      have zXQ_5 := XQ.out.cell (j := 0) rfl
      go_wp2_with fail
      refine Calls.mono (specCutActs_o va l vc oa acts oc x zo zs zc (by omega) HSM.out (by omega) HAM.out hoc (by omega) _ EL.out EA.out EZ.out) ?_
      rintro e w7 ⟨vp, vpc, rfl, hown, bx⟩
      rw [hQ, hqb]
      rw [hQ] at hown
      have EP := hid hown.files
      rw [hQ] at hcs
      clear hown hQ hqb
      have YBW := hid (below_via BW.out bx)
      have YEL := hid (EL.out.on bx)
      have YEA := hid (EA.out.on bx)
      have YEN := hid (EN.out.on bx)
      have YEZ := hid (EZ.out.on bx)
      have YXD := hid (XD.out.on bx XD.out.lt)
      have YXN := hid (XN.out.on bx XN.out.lt)
      have YXO := hid (XO.out.on bx XO.out.lt)
      have YEO := hid (EO.out.on bx)
      have YEQ := hid (EQ.out.on bx)
      have YXQ := hid (XQ.out.on bx XQ.out.lt)
      clear bx BW EL EA EN EZ XD XN XO EO EQ XQ zXD_5 zXN_5 zXO_5 zXQ_5
      have BW := YBW
      have EL := YEL
      have EA := YEA
      have EN := YEN
      have EZ := YEZ
      have XD := YXD
      have XN := YXN
      have XO := YXO
      have EO := YEO
      have EQ := YEQ
      have XQ := YXQ
      clear YBW YEL YEA YEN YEZ YXD YXN YXO YEO YEQ YXQ
      have bx := below_more (Below.refl w7.heap.size w7) (.cells #[.slice vp Q.length vpc] 26)
      have NXP : Hid (BlockIs (w7.alloc (.cells #[.slice vp Q.length vpc] 26)) w7.heap.size 26 [.slice vp Q.length vpc]) := heap_alloc_new w7 _
      have YBW := hid (below_via BW.out bx)
      have YEL := hid (EL.out.on bx)
      have YEA := hid (EA.out.on bx)
      have YEN := hid (EN.out.on bx)
      have YEZ := hid (EZ.out.on bx)
      have YXD := hid (XD.out.on bx XD.out.lt)
      have YXN := hid (XN.out.on bx XN.out.lt)
      have YXO := hid (XO.out.on bx XO.out.lt)
      have YEO := hid (EO.out.on bx)
      have YEQ := hid (EQ.out.on bx)
      have YXQ := hid (XQ.out.on bx XQ.out.lt)
      have YEP := hid (EP.out.on bx)
      clear bx BW EL EA EN EZ XD XN XO EO EQ XQ EP
      have BW := YBW
      have EL := YEL
      have EA := YEA
      have EN := YEN
      have EZ := YEZ
      have XD := YXD
      have XN := YXN
      have XO := YXO
      have EO := YEO
      have EQ := YEQ
      have XQ := YXQ
      have EP := YEP
      clear YBW YEL YEA YEN YEZ YXD YXN YXO YEO YEQ YXQ YEP
      have XP := NXP
      clear NXP
      have zXD_6 := XD.out.cell (j := 0) rfl
      have zXN_6 := XN.out.cell (j := 0) rfl
      have zXO_6 := XO.out.cell (j := 0) rfl
      have zXQ_6 := XQ.out.cell (j := 0) rfl
      have zXP_6 := XP.out.cell (j := 0) rfl
      go_wp2_with fail
      refine Calls.mono (sameDisk_same vq vp Q vqc vpc hcs _ EQ.out EP.out) ?_
      rintro e w8 ⟨rfl, bx⟩
      have YBW := hid (below_via BW.out bx)
      have YEL := hid (EL.out.on bx)
      have YEA := hid (EA.out.on bx)
      have YEN := hid (EN.out.on bx)
      have YEZ := hid (EZ.out.on bx)
      have YXD := hid (XD.out.on bx XD.out.lt)
      have YXN := hid (XN.out.on bx XN.out.lt)
      have YXO := hid (XO.out.on bx XO.out.lt)
      have YEO := hid (EO.out.on bx)
      have YEQ := hid (EQ.out.on bx)
      have YXQ := hid (XQ.out.on bx XQ.out.lt)
      have YEP := hid (EP.out.on bx)
      have YXP := hid (XP.out.on bx XP.out.lt)
      clear bx BW EL EA EN EZ XD XN XO EO EQ XQ EP XP zXD_6 zXN_6 zXO_6 zXQ_6 zXP_6
      have BW := YBW
      have EL := YEL
      have EA := YEA
      have EN := YEN
      have EZ := YEZ
      have XD := YXD
      have XN := YXN
      have XO := YXO
      have EO := YEO
      have EQ := YEQ
      have XQ := YXQ
      have EP := YEP
      have XP := YXP
      clear YBW YEL YEA YEN YEZ YXD YXN YXO YEO YEQ YXQ YEP YXP
      have zXD_7 := XD.out.cell (j := 0) rfl
      have zXN_7 := XN.out.cell (j := 0) rfl
      have zXO_7 := XO.out.cell (j := 0) rfl
      by_cases hn0 : i = 0
      · have hn0' : (i : Int) = 0 := by omega
        go_wp2
        go_ret
        exact ⟨rfl, BW.out⟩
      · have hn0' : ¬ (i : Int) = 0 := by omega
        go_wp2_with fail
        refine Calls.mono (sameDisk_same va' vn L vc' vnc hRs _ EO.out EN.out) ?_
        rintro e w9 ⟨rfl, bx⟩
        have B9 := hid (below_via BW.out bx)
        clear bx
        go_wp2
        go_ret
        exact ⟨rfl, B9.out⟩

theorem own : ownKnob Try.prog.godebug = none := by kernel_rfl
theorem laidOut : laidOutB Try.prog = true := by kernel_rfl
theorem rowed : varsRowed Try.prog Rows.fnActsSpec.vars = true := by kernel_rfl
set_option maxRecDepth 1000000 in
theorem contract (H : Type) (enc : TypeId × Value → H) (W : World) (base : Nat) (args : Array Value) (ds gs : List (DataW H)) (before : List MemPlace)
    (hval : ∀ (j : Nat) t v, Try.f3.params[j]? = some t → args[j]? = some v → Value.okWide Try.prog W .any base t v)
    (hW : DataW.Whole enc Try.prog Try.f3.params.toList Rows.fnActsSpec.vars false W args.toList ds gs before) (_hL : laidMetH Try.prog Rows.fnActsRow.laid W) :
    Calls Try.prog 3 args W fun e W' => ∃ v, e = .returned v ∧ Rows.fnActsSpec.post enc Try.prog Try.f3 false true false false W args v W' := by
  have hW' := hW
  obtain ⟨p, q, hA0, hV0, rfl, hfz, hnd⟩ := hW
  have hV : DataW.TrodVars enc Try.prog W (fun _ => true) Rows.fnActsSpec.vars gs q := hV0
  have hA : DataW.TrodAll enc Try.prog W 0 (fun _ => true) true Try.f3.params.toList args.toList ds p := hA0
  rw [Try.params3] at hA hval
  obtain ⟨v0, vs0, d0, ds0, p0, q0, hargs0, rfl, rfl, h0, r0⟩ := trodAll_cons hA
  obtain ⟨rfl, rfl, rfl⟩ := trodAll_nil r0
  obtain rfl : args = #[v0] := by cases args; simp_all
  obtain ⟨a0, len0, cap0, rfl⟩ := okWide_slice Try.underlying22 (hval 0 22 v0 rfl rfl)
  have k0 := h0
  have lt0 : ∀ x ∈ p0, x.block < W.heap.size := by obtain ⟨m, hm⟩ := k0; exact DataW.trod_lt m _ _ _ hm
  have hb0 : len0 ≤ cap0 ∧ Bytes W a0 len0 := by
    obtain ⟨fuel, hf⟩ := h0
    rcases open_ints Try.underlying22 Try.underlying5 (by kernel_rfl) hf with ⟨hcs, _⟩ | ⟨x, l, c, zs, hcs, _, hl, hm, hz, _, hcell, hwz⟩
    · simp [Value.cells] at hcs
      obtain ⟨rfl, rfl, rfl⟩ := hcs
      exact ⟨Nat.le_refl _, fun h => by omega⟩
    · simp [Value.cells] at hcs
      obtain ⟨rfl, rfl, rfl⟩ := hcs
      refine ⟨hl, fun hp => ?_⟩
      have hzl : zs.length = cap0 := by simpa using hz
      obtain ⟨b, off, rfl, hc⟩ := ints_at hcell (by omega)
      refine ⟨b, off, rfl, fun j hj => ?_⟩
      have hjz : j < zs.length := by omega
      have hb8 := bounds_u8 (hwz (zs.getD j 0) (by simp [List.getD, hjz]))
      exact ⟨zs.getD j 0, hb8.1, hb8.2, hc j hjz⟩
  clear hA0 hV0
  obtain ⟨rfl, rfl⟩ := trodVars_none hV
  refine (walk a0 len0 cap0 hb0.1 W hb0.2).mono fun e W' ⟨he, bel⟩ => ?_
  subst he
  exact ⟨_, rfl, _, _, _, [], _, [], hW', trodAll_mk1 (shut_bool Try.underlying4 _), trodAll_cons_mk (Below.trod laidOut (by kernel_rfl) (of_decide_eq_true (by kernel_rfl)) k0 bel lt0) (trodAll_mk0), rfl, bel.frame _, fun h => by cases h⟩

def put (cs : Array Value) : Obj → Obj
  | .cells _ t frozen => .cells cs t frozen
  | o => o

/-- a world for the witness: the tables hold what their initialisers lay -/
def laidWorld (w : World) : World := { w with heap := w.heap }
theorem laid_met (os : Os) : laidMet Try.prog Rows.fnActsRow.laid ((laidWorld (World.holding Try.prog os ⟨#[], #[], []⟩)).forCall (fun _ _ => 0) ⟨#[], #[.slice none 0 0], []⟩).memory :=
  laidMet_of_run' 8 (by kernel_rfl) (by kernel_rfl)
theorem reads (os : Os) {H : Type} (enc : TypeId × Value → H) : ∃ places, DataW.whole enc Try.prog ((laidWorld (World.holding Try.prog os ⟨#[], #[], []⟩)).forCall (fun _ _ => 0) ⟨#[], #[.slice none 0 0], []⟩).memory Try.f3.params.toList Rows.fnActsSpec.vars false #[Value.slice none 0 0].toList 8 = some ([.nil], [], places) :=
  ⟨[], by kernel_rfl⟩

set_option maxRecDepth 1000000 in
theorem lifted (os : Os) (started : os.Started) (H : Type) (enc : TypeId × Value → H) (F : Stop.Interp) :
    ReturnsInHanded {} Try.checked os 3 .any ((OpenSpec.ofChange Rows.fnActsSpec).preRow enc Try.prog Try.f3 Rows.fnActsRow.domain false Rows.fnActsRow.laid) (((OpenSpec.ofChange Rows.fnActsSpec).at F).post enc Try.prog Try.f3 false true false false) := by
  obtain ⟨places, hx⟩ := reads os enc
  refine returnsInHanded_of_row (C := Try.checked) (s := OpenSpec.ofChange Rows.fnActsSpec) own started (by kernel_rfl) Try.func3
    (witness_row_at (enc := enc) (C := Try.checked) false (laidWorld (World.holding Try.prog os ⟨#[], #[], []⟩)) #[.slice none 0 0] rfl (by kernel_rfl) (by kernel_rfl) (by kernel_rfl)
      (OpenSpec.preRow_of_cond 8 hx (by kernel_rfl) (fun k hk => by cases hk) (by kernel_rfl) (laid_met os))) ?_
  intro W base args ds gs before hval hW _ _ _ hL _ _
  exact contract H enc W base args ds gs before hval hW hL

theorem said : Rows.FnActsSaid :=
  OpenClaim.holds_of_cond 3 Try.f3 rfl rfl rfl rfl rfl rfl rfl ⟨rfl, rfl, rfl, rfl, rfl⟩ rfl rfl rfl rfl rfl (by kernel_rfl) Try.func3 (by kernel_rfl)
    (of_decide_eq_true (by kernel_rfl)) (by unfold Func.isWrapper; first | (rw [if_pos (by decide +kernel)]; kernel_rfl) | (rw [if_neg (by decide +kernel)]; exact ⟨rfl, rfl⟩))
    (fun os started H enc _ F => by rw [OpenClaim.pre_eq_preRow]; exact lifted os started H enc F)

end Go.Proofs.Ytbbohfagnnobgaa.fnActs
