/-
  The walk of spec.l03Acts: some acts, one behind the other.
-/
import Derived.Test.YtbbohfagnnobgaaJoint9
import Derived.Test.YtbbohfagnnobgaaJoint25
import Derived.Test.YtbbohfagnnobgaaJoint32
import Derived.Test.YtbbohfagnnobgaaJoint34
namespace Go.Proofs.Ytbbohfagnnobgaa
open Go.RowKit

theorem BlockIs.aside {x y : World} {b C : Nat} {t : TypeId} {cs : List Value} (h : BlockIs x b t cs) (hg : x.grownBy y (some C)) (hne : b ≠ C) : BlockIs y b t cs := by
  unfold BlockIs
  rw [hg.block b h.lt (by simpa using hne)]
  exact h
theorem OwnAt.aside {x y : World} {t : TypeId} {cs : List Value} {n : Nat} {va : Option Addr} {lo C : Nat} (h : OwnAt x t cs n va lo x.heap.size) (hg : x.grownBy y (some C)) (hC : C < lo) : OwnAt y t cs n va lo y.heap.size :=
  h.imp id fun ⟨g, r, a, b, c, d⟩ => ⟨g, r, a, b, Nat.lt_of_lt_of_le c hg.size, d.aside hg (by omega)⟩
theorem OwnAt.more {x y : World} {t : TypeId} {cs : List Value} {n : Nat} {va : Option Addr} {lo : Nat} (h : OwnAt x t cs n va lo x.heap.size) (hb : Below x.heap.size x y) : OwnAt y t cs n va lo y.heap.size :=
  h.imp id fun ⟨g, r, a, b, c, d⟩ => ⟨g, r, a, b, Nat.lt_of_lt_of_le c hb.size, d.on hb d.lt⟩
/-- a cell of a block of another type is written -/
theorem OwnAt.other {x : World} {t tb : TypeId} {cs cb : List Value} {n : Nat} {va : Option Addr} {lo b j : Nat} {u : Value} (h : OwnAt x t cs n va lo x.heap.size) (hb : BlockIs x b tb cb) (ht : tb ≠ t) : OwnAt (x.setCell ⟨b, j, none⟩ u) t cs n va lo (x.setCell ⟨b, j, none⟩ u).heap.size := by
  rw [World.size_setCell]
  exact h.imp id fun ⟨g, r, a, c, d, e⟩ => ⟨g, r, a, c, d, e.far (by intro q; subst q; exact ht (block_one hb e).1) u⟩
/-- behind an append to a row of another type -/
theorem OwnAt.past {x y : World} {t tr : TypeId} {cs xs : List Value} {n m base size : Nat} {va : Option Addr} {lo : Nat} {v : Value} (h : OwnAt x t cs n va lo x.heap.size) (hr : x.ownsRow base tr size v m xs) (ht : tr ≠ t) (hg : x.grownBy y v.ownBlock) : OwnAt y t cs n va lo y.heap.size :=
  h.imp id fun ⟨g, r, a, b, c, d⟩ => ⟨g, r, a, b, Nat.lt_of_lt_of_le c hg.size, by
    unfold BlockIs
    rw [hg.block g d.lt (fun e => by obtain ⟨cs', hb', _⟩ := row_block hr e.symm; exact ht (block_one hb' d).1)]
    exact d⟩
theorem BlockIs.after {x y : World} {b : Nat} {t tr : TypeId} {cs xs : List Value} {m base size : Nat} {v : Value} (h : BlockIs x b t cs) (hr : x.ownsRow base tr size v m xs) (ht : tr ≠ t) (hg : x.grownBy y v.ownBlock) : BlockIs y b t cs := by
  unfold BlockIs
  rw [hg.block b h.lt (fun e => by obtain ⟨cs', hb', _⟩ := row_block hr e.symm; exact ht (block_one hb' h).1)]
  exact h
theorem acts_info : (Try.prog.info? 37).map (fun i => (i.zero, i.size, i.bytes)) = some (some (.agg #[.int .i64 0, .string ByteArray.empty, .string ByteArray.empty, .string ByteArray.empty]), 4, 56) := by kernel_rfl
theorem actCells_snoc (l : List ActD) (d : ActD) : actCells (l ++ [d]) = actCells l ++ actEnc d := by simp [actCells]
theorem actEnc_one (d : ActD) : ∀ u ∈ actEnc d, u.oneCell' = true := by
  intro u hu
  simp only [actEnc, List.mem_cons, List.not_mem_nil, or_false] at hu
  rcases hu with rfl | rfl | rfl | rfl <;> rfl
theorem row_acts {w : World} {base : Nat} {va : Option Addr} {vc : Nat} {l : List ActD} (h : w.ownsRow base 37 4 (.slice va l.length vc) l.length (actCells l)) : ActsAt w va l := by
  rcases Nat.eq_zero_or_pos l.length with h0 | h0
  · intro hne
    exact absurd (List.length_eq_zero_iff.1 h0) hne
  · obtain ⟨g, rfl, _, r, hb⟩ := row_in h h0
    exact actsAt_of hb
theorem row_room {w : World} {base size n c : Nat} {t : TypeId} {va : Option Addr} {xs : List Value} (h : w.ownsRow base t size (.slice va n c) n xs) : n ≤ c := by
  obtain ⟨_, (⟨hv, h0⟩ | ⟨g, cap, cur, hv, _, _, hc, _⟩)⟩ := h
  · omega
  · cases hv
    exact hc

set_option maxRecDepth 1000000 in
set_option maxHeartbeats 4000000 in
theorem l03Acts_any (C base : Nat) (ao : Option Addr) (l : List FileD) (cap : Nat) (hl : l.length ≤ 1048576) (hCb : C < base) (w : World) (hc : CurAt w C) (ho : OwnAt w 77 (fileCells l) l.length ao base w.heap.size) :
    Calls Try.prog 38 #[.pointer (some ⟨C, 0, none⟩), .agg #[.slice ao l.length cap]] w fun e w' => ∃ (oa : Option Addr) (oc : Nat) (acts : List ActD), e = .returned (.slice oa acts.length oc) ∧ acts.length ≤ 9 ∧ (∀ a ∈ acts, a.Tiny) ∧ w'.ownsRow w.heap.size 37 4 (.slice oa acts.length oc) acts.length (actCells acts) ∧ CurAt w' C ∧ w.grownBy w' (some C) := by
  obtain ⟨i0, hi, hz0, hz1, hz2⟩ := info_parts acts_info
  have hCl := hc.lt
  have hx0 : BlockIs (w.alloc (.cells #[.slice ao l.length cap] 26)) w.heap.size 26 [.slice ao l.length cap] := heap_alloc_new w _
  have hsz : (w.alloc (.cells #[.slice ao l.length cap] 26)).heap.size = w.heap.size + 1 := by simp [World.alloc, -World.alloc_eq]
  have be := below_more (below_more (Below.refl w.heap.size w) (.cells #[.slice ao l.length cap] 26)) (.cells #[] 37)
  have XD := hid (hx0.on (below_more (Below.refl _ _) (.cells #[] 37)) hx0.lt)
  have KC := hid (hc.below be)
  have GC := hid (grown_below (World.grownBy.refl w (some C)) be)
  have OD := hid ((ho.more be).down (show C + 1 ≤ base by omega) (Nat.le_refl _))
  have HO : Hid (World.ownsRow ((w.alloc (.cells #[.slice ao l.length cap] 26)).alloc (.cells #[] 37)) (w.heap.size + 1) 37 4 (.slice (some ⟨w.heap.size + 1, 0, none⟩) 0 0) 0 (actCells [])) := by
    have := World.ownsRow_made (w.alloc (.cells #[.slice ao l.length cap] 26)) (size := 4) (e := 37) #[] 0 (Nat.le_refl _) (Nat.zero_le _) rfl
    rw [hsz] at this
    exact this
  have HCl := hid hCl
  clear hc ho hx0 hsz be
  go_enter Try.func38, Try.ntmps38
  go_wp2
  go_loopw [5, 6, 7, 8, 9] (fun v i _ _ _ wr => ∃ (k : Nat) (l : List FileD) (va : Option Addr) (vc : Nat) (acts : List ActD) (oa : Option Addr) (oc : Nat), k ≤ 8 ∧ i = .int .i64 k ∧ v = .slice oa acts.length oc ∧ l.length ≤ 1048576 ∧ acts.length ≤ k ∧ Hid (∀ a ∈ acts, a.Tiny) ∧ Hid (CurAt wr C) ∧ Hid (w.grownBy wr (some C)) ∧ Hid (BlockIs wr w.heap.size 26 [.slice va l.length vc]) ∧ Hid (OwnAt wr 77 (fileCells l) l.length va (C + 1) wr.heap.size) ∧ Hid (wr.ownsRow (w.heap.size + 1) 37 4 (.slice oa acts.length oc) acts.length (actCells acts))) (fun _ i _ _ _ _ => 9 - (intOf i).toNat)
  case atStart => exact ⟨0, l, ao, cap, [], _, _, by omega, rfl, rfl, hl, by simp, (fun a h => by simp at h), KC, GC, XD, OD, HO⟩
  case round =>
    clear KC GC XD OD HO
    obtain ⟨k, l, va, vc, acts, oa, oc, hk, rfl, rfl, hl, hak, HT, KC, GC, XD, OD, HO⟩ := hrel
    go_wp2_with fail
    refine Calls.mono (l01Below_any C 9 (by omega) (by omega) _ KC.out) ?_
    rintro e w1 ⟨y, rfl, y0, y1, k1, q1⟩
    have K1 := hid k1
    have G1 := hid (GC.out.trans q1)
    have X1 := hid (XD.out.cur q1 HCl.out)
    have D1 := hid (OD.out.aside q1 (by omega))
    have H1 := hid (row_past HO.out q1 (by have := HCl.out; omega))
    clear k1 q1 KC GC XD OD HO
    by_cases hlt : (k : Int) < y
    · go_wp2_with fail
      refine Calls.mono (l03Act_any C _ K1.out) ?_
      rintro e w2 ⟨a, rfl, ha, k2, q2⟩
      have ba := below_more (Below.refl w2.heap.size w2) (.cells #[.int .i64 a.kind, .string a.name, .string a.text, .string a.to] 37)
      have XA : Hid (BlockIs (w2.alloc (.cells #[.int .i64 a.kind, .string a.name, .string a.text, .string a.to] 37)) w2.heap.size 37 [.int .i64 a.kind, .string a.name, .string a.text, .string a.to]) := heap_alloc_new w2 _
      have K2 := hid (k2.below ba)
      have G2 := hid (grown_below (G1.out.trans q2) ba)
      have X2 := hid ((X1.out.cur q2 HCl.out).on ba (X1.out.cur q2 HCl.out).lt)
      have D2 := hid ((D1.out.aside q2 (by omega)).more ba)
      have H2 := hid (row_below (row_past H1.out q2 (by have := HCl.out; omega)) ba)
      have HTA := hid ha
      have HW2 : Hid (w.heap.size ≤ w2.heap.size) := (show _ ≤ _ by have := X1.out.lt; have := q2.size; omega)
      clear k2 q2 K1 G1 X1 D1 H1 ba ha
      have zd := X2.out.cell (j := 0) rfl
      have za0 := XA.out.cell (j := 0) rfl
      have za1 := XA.out.cell (j := 1) rfl
      have za2 := XA.out.cell (j := 2) rfl
      have za3 := XA.out.cell (j := 3) rfl
      go_wp2_with fail
      refine Calls.mono (specDoAct_o va l vc a hl (by have := HTA.out.2.1; omega) _ D2.out.files) ?_
      rintro e w3 ⟨vn, vnc, rfl, hown, b3⟩
      have hl3 := doAns_small (l := l) (a := a)
      obtain ⟨L3, hL3⟩ : ∃ L3, (doAns l a).1 = L3 := ⟨_, rfl⟩
      obtain ⟨ok, hok⟩ : ∃ ok, (doAns l a).2 = ok := ⟨_, rfl⟩
      rw [hL3] at hown hl3 ⊢
      rw [hok]
      clear hL3 hok zd za0 za1 za2 za3
      have bb := below_more (Below.refl w3.heap.size w3) (.cells #[.slice vn L3.length vnc] 26)
      have XN : Hid (BlockIs (w3.alloc (.cells #[.slice vn L3.length vnc] 26)) w3.heap.size 26 [.slice vn L3.length vnc]) := heap_alloc_new w3 _
      have b4 := below_via b3 bb
      have K3 := hid (K2.out.below b4)
      have G3 := hid (grown_below G2.out b4)
      have X3 := hid (X2.out.on b4 X2.out.lt)
      have XA3 := hid (XA.out.on b4 XA.out.lt)
      have D3 := hid (D2.out.more b4)
      have N3 := hid ((hown.more bb).down (show C + 1 ≤ _ by have := K2.out.lt; omega) (Nat.le_refl _))
      have H3 := hid (row_below H2.out b4)
      have HWN : Hid (w.heap.size < w3.heap.size) := (show _ < _ by have := X2.out.lt; have := b3.size; omega)
      have HCA : Hid (C < w2.heap.size) := (show _ < _ by have := HCl.out; have := HW2.out; omega)
      clear hown b3 b4 bb K2 G2 X2 XA D2 H2
      obtain ⟨w4, hw4⟩ : ∃ x, w3.alloc (.cells #[.slice vn L3.length vnc] 26) = x := ⟨_, rfl⟩
      rw [hw4] at K3 G3 X3 XA3 XN D3 N3 H3
      cases ok with
      | true =>
        have za0 := XA3.out.cell (j := 0) rfl
        have za1 := XA3.out.cell (j := 1) rfl
        have za2 := XA3.out.cell (j := 2) rfl
        have za3 := XA3.out.cell (j := 3) rfl
        have bb := below_more (Below.refl w4.heap.size w4) (.cells #[.int .i64 a.kind, .string a.name, .string a.text, .string a.to] 37)
        have hbase : w.heap.size + 1 ≤ (w4.alloc (.cells #[.int .i64 a.kind, .string a.name, .string a.text, .string a.to] 37)).heap.size := Nat.le_trans X3.out.lt bb.size
        have hone := actEnc_one a
        have hnew : ∀ j u, (actEnc a)[j]? = some u → (w4.alloc (.cells #[.int .i64 a.kind, .string a.name, .string a.text, .string a.to] 37)).cell? ((⟨w4.heap.size, 0, none⟩ : Addr).add j) = some u := by
          intro j u hu
          rw [Addr.add_lit, Nat.zero_add]
          exact (show BlockIs _ _ 37 (actEnc a) from heap_alloc_new w4 _).cell hu
        have hrow := row_below H3.out bb
        go_wp2_with (at_builtin; refine wpList_append_own _ rfl (.tmp 30) (.tmp 32) 27 rfl (w.heap.size + 1) 37 i0 _ 4 56 Try.underlying27 hi hz0 hz1 hz2 rfl (by decide) _ _ _ rfl hrow ⟨w4.heap.size, 0, none⟩ 1 1 (actEnc a) rfl rfl hnew hone (by unfold maxLen; omega) (by omega) hbase ?_)
        intro v' w6 hown' hgrow _
        obtain ⟨va', vc', rfl⟩ := row_shape hown'
        rw [← actCells_snoc] at hown'
        have hlow : ∀ j, (Value.slice oa acts.length oc).ownBlock = some j → w.heap.size + 1 ≤ j := fun j hj => (row_block hrow hj).elim fun _ h => h.2
        have K6 := hid ((K3.out.below bb).kept hgrow (fun j hj => by have := hlow j hj; have := HCl.out; omega))
        have G6 := hid (grown_row (grown_below G3.out bb) hgrow (fun j hj => by have := hlow j hj; omega))
        have X6 := hid ((X3.out.on bb X3.out.lt).after hrow (by decide) hgrow)
        have XN6 := hid ((XN.out.on bb XN.out.lt).after hrow (by decide) hgrow)
        have N6 := hid ((N3.out.more bb).past hrow (by decide) hgrow)
        have H6 := hid hown'
        clear za0 za1 za2 za3 bb hbase hone hnew hrow hown' hgrow hlow K3 G3 X3 XA3 XN D3 N3 H3
        have zn := XN6.out.cell (j := 0) rfl
        have zd := X6.out.cell (j := 0) rfl
        have yd := X6.out.thaw 0
        have K7 := hid (K6.out.set (b := w.heap.size) (j := 0) (v := .slice vn L3.length vnc) HCl.out)
        have G7 := hid (grown_far (b := w.heap.size) (j := 0) (v := .slice vn L3.length vnc) G6.out (Nat.le_refl _))
        have X7 := hid (X6.out.set 0 (.slice vn L3.length vnc))
        have N7 := hid (N6.out.other (j := 0) (u := .slice vn L3.length vnc) X6.out (by decide))
        have H7 := hid (row_set (b := w.heap.size) (j := 0) (v := .slice vn L3.length vnc) H6.out (by omega))
        have HT7 : Hid (∀ x ∈ acts ++ [a], x.Tiny) := fun x hx => (List.mem_append.1 hx).elim (HT.out x) fun q => by rw [List.mem_singleton.1 q]; exact HTA.out
        have HL9 : (acts ++ [a]).length = acts.length + 1 := by simp
        rw [← HL9] at H7 ⊢
        obtain ⟨acts2, ha2⟩ : ∃ q, acts ++ [a] = q := ⟨_, rfl⟩
        rw [ha2] at H7 HT7 HL9 ⊢
        have hak2 : acts2.length ≤ k + 1 := by omega
        clear K6 G6 X6 XN6 N6 H6 HL9 ha2 HT HTA
        go_wp2
        go_roundw
        case rel => exact ⟨k + 1, L3, vn, vnc, acts2, va', vc', by omega, by go_num, rfl, hl3, hak2, HT7, K7, G7, X7, N7, H7⟩
        case measure => simp [intOf]; omega
      | false =>
        go_wp2_with fail
        refine Calls.mono (l01Once_any C 20 (by omega) (by omega) _ K3.out) ?_
        rintro e w5 ⟨b, rfl, k5, q5⟩
        have K5 := hid k5
        have G5 := hid (G3.out.trans q5)
        have X5 := hid (X3.out.cur q5 HCl.out)
        have XA5 := hid (XA3.out.cur q5 (by have := HCA.out; omega))
        have XN5 := hid (XN.out.cur q5 (by have := HWN.out; have := HCl.out; omega))
        have D5 := hid (D3.out.aside q5 (by omega))
        have N5 := hid (N3.out.aside q5 (by omega))
        have H5 := hid (row_past H3.out q5 (by have := HCl.out; omega))
        clear k5 q5 K3 G3 X3 XA3 XN D3 N3 H3
        have K3 := K5
        have G3 := G5
        have X3 := X5
        have XA3 := XA5
        have XN := XN5
        have D3 := D5
        have N3 := N5
        have H3 := H5
        clear K5 G5 X5 XA5 XN5 D5 N5 H5
        cases b with
        | true =>
          have za0 := XA3.out.cell (j := 0) rfl
          have za1 := XA3.out.cell (j := 1) rfl
          have za2 := XA3.out.cell (j := 2) rfl
          have za3 := XA3.out.cell (j := 3) rfl
          have bb := below_more (Below.refl w5.heap.size w5) (.cells #[.int .i64 a.kind, .string a.name, .string a.text, .string a.to] 37)
          have hbase : w.heap.size + 1 ≤ (w5.alloc (.cells #[.int .i64 a.kind, .string a.name, .string a.text, .string a.to] 37)).heap.size := Nat.le_trans X3.out.lt bb.size
          have hone := actEnc_one a
          have hnew : ∀ j u, (actEnc a)[j]? = some u → (w5.alloc (.cells #[.int .i64 a.kind, .string a.name, .string a.text, .string a.to] 37)).cell? ((⟨w5.heap.size, 0, none⟩ : Addr).add j) = some u := by
            intro j u hu
            rw [Addr.add_lit, Nat.zero_add]
            exact (show BlockIs _ _ 37 (actEnc a) from heap_alloc_new w5 _).cell hu
          have hrow := row_below H3.out bb
          go_wp2_with (at_builtin; refine wpList_append_own _ rfl (.tmp 30) (.tmp 32) 27 rfl (w.heap.size + 1) 37 i0 _ 4 56 Try.underlying27 hi hz0 hz1 hz2 rfl (by decide) _ _ _ rfl hrow ⟨w5.heap.size, 0, none⟩ 1 1 (actEnc a) rfl rfl hnew hone (by unfold maxLen; omega) (by omega) hbase ?_)
          intro v' w6 hown' hgrow _
          obtain ⟨va', vc', rfl⟩ := row_shape hown'
          rw [← actCells_snoc] at hown'
          have hlow : ∀ j, (Value.slice oa acts.length oc).ownBlock = some j → w.heap.size + 1 ≤ j := fun j hj => (row_block hrow hj).elim fun _ h => h.2
          have K6 := hid ((K3.out.below bb).kept hgrow (fun j hj => by have := hlow j hj; have := HCl.out; omega))
          have G6 := hid (grown_row (grown_below G3.out bb) hgrow (fun j hj => by have := hlow j hj; omega))
          have X6 := hid ((X3.out.on bb X3.out.lt).after hrow (by decide) hgrow)
          have XN6 := hid ((XN.out.on bb XN.out.lt).after hrow (by decide) hgrow)
          have N6 := hid ((N3.out.more bb).past hrow (by decide) hgrow)
          have H6 := hid hown'
          clear za0 za1 za2 za3 bb hbase hone hnew hrow hown' hgrow hlow K3 G3 X3 XA3 XN D3 N3 H3
          have zn := XN6.out.cell (j := 0) rfl
          have zd := X6.out.cell (j := 0) rfl
          have yd := X6.out.thaw 0
          have K7 := hid (K6.out.set (b := w.heap.size) (j := 0) (v := .slice vn L3.length vnc) HCl.out)
          have G7 := hid (grown_far (b := w.heap.size) (j := 0) (v := .slice vn L3.length vnc) G6.out (Nat.le_refl _))
          have X7 := hid (X6.out.set 0 (.slice vn L3.length vnc))
          have N7 := hid (N6.out.other (j := 0) (u := .slice vn L3.length vnc) X6.out (by decide))
          have H7 := hid (row_set (b := w.heap.size) (j := 0) (v := .slice vn L3.length vnc) H6.out (by omega))
          have HT7 : Hid (∀ x ∈ acts ++ [a], x.Tiny) := fun x hx => (List.mem_append.1 hx).elim (HT.out x) fun q => by rw [List.mem_singleton.1 q]; exact HTA.out
          have HL9 : (acts ++ [a]).length = acts.length + 1 := by simp
          rw [← HL9] at H7 ⊢
          obtain ⟨acts2, ha2⟩ : ∃ q, acts ++ [a] = q := ⟨_, rfl⟩
          rw [ha2] at H7 HT7 HL9 ⊢
          have hak2 : acts2.length ≤ k + 1 := by omega
          clear K6 G6 X6 XN6 N6 H6 HL9 ha2 HT HTA
          go_wp2
          go_roundw
          case rel => exact ⟨k + 1, L3, vn, vnc, acts2, va', vc', by omega, by go_num, rfl, hl3, hak2, HT7, K7, G7, X7, N7, H7⟩
          case measure => simp [intOf]; omega
        | false =>
          go_wp2
          go_roundw
          case rel => exact ⟨k + 1, l, va, vc, acts, oa, oc, by omega, by go_num, rfl, hl, by omega, HT, K3, G3, X3, D3, H3⟩
          case measure => simp [intOf]; omega
    · have HL := hid (row_down H1.out (show w.heap.size ≤ _ by omega))
      go_wp2
      go_ret
      exact ⟨oa, oc, acts, rfl, by omega, HT.out, HL.out, K1.out, G1.out⟩
end Go.Proofs.Ytbbohfagnnobgaa
