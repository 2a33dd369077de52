/-
  The walk of (*impl.pile).add: bits come behind the others.
-/
import Derived.Test.YthdklbmachplmaaJoint34
namespace Go.Proofs.Ythdklbmachplmaa
open Go.RowKit Go.Maps

/-- the row has grown, and the pile tells it -/
structure HalfAt (w : World) (pb : Nat) (l : List BitD) (im : Nat → Option Nat) (lo hi N : Nat) (va : Option Addr) (vc mb : Nat) (rs : List BitsD) (l0 : List BitD) : Prop where
  blk : BlockIs w pb 62 [.slice va rs.length vc, .map (some mb)]
  row : w.ownsRow lo 35 6 (.slice va rs.length vc) rs.length (bitsCells rs)
  nest : NestR w l rs lo hi
  top : hi ≤ w.heap.size
  outer : MapIs w mb N (outerM im)
  low : lo ≤ pb ∧ lo ≤ mb
  inner : ∀ k g, im k = some g → lo ≤ g ∧ g ≠ mb ∧ ∃ e, l0[k]? = some e ∧ MapIs w g N (firstMap e.ats)
  inj : ∀ j k g, im j = some g → im k = some g → j = k
theorem half_of {W1 w5 : World} {pb : Nat} {l : List BitD} {im : Nat → Option Nat} {lo hi N : Nat} {va va1 : Option Addr} {vc vc1 mb H : Nat} {rs : List BitsD} {e : BitD} {R : BitsD} (hp : PileAt W1 pb l im lo hi N va vc mb rs) (ho : OwnRB W1 e R hi H) (hH : H ≤ W1.heap.size)
    (hrow : w5.ownsRow lo 35 6 (.slice va1 (rs.length + 1) vc1) (rs.length + 1) (bitsCells (rs ++ [R]))) (hgr : W1.drew.grownBy w5 (Value.slice va rs.length vc).ownBlock) :
    HalfAt (w5.setCell ⟨pb, 0, none⟩ (.slice va1 (rs.length + 1) vc1)) pb (l ++ [e]) im lo H N va1 vc1 mb (rs ++ [R]) l ∧ Below lo W1 (w5.setCell ⟨pb, 0, none⟩ (.slice va1 (rs.length + 1) vc1)) := by
  have hd := below_drewN (Below.refl W1.heap.size W1) 1
  have hr := hp.row.drew
  have hb5 := block_row (hp.blk.on hd hp.blk.lt) hr hgr (by decide)
  have hn : (rs ++ [R]).length = rs.length + 1 := by simp
  have hlo : lo ≤ W1.heap.size := Nat.le_trans hp.nest.le hp.top
  have far : ∀ {g : Nat} {t : TypeId} {cs : List Value} {u : Value}, t ≠ 62 → BlockIs w5 g t cs → BlockIs (w5.setCell ⟨pb, 0, none⟩ u) g t cs := fun ht hg => hg.far (fun e => by subst e; exact ht (block_one hg hb5).1) _
  have hmap : ∀ {b M : Nat} {f : Int → Option Value}, MapIs W1 b M f → MapIs (w5.setCell ⟨pb, 0, none⟩ (.slice va1 (rs.length + 1) vc1)) b M f := fun {b M f} hm => ((hm.on hd).kept hgr (row_notmap hr (hm.on hd))).set hb5 _
  have hnest := ((hp.nest.on hd).snoc (ho.on hd)).row hr hgr
  refine ⟨⟨?_, ?_, ?_, ?_, hmap hp.outer, hp.low, fun k g hg => ?_, hp.inj⟩, ?_⟩
  · rw [hn]
    exact hb5.set 0 _
  · rw [hn]
    exact row_ext hrow fun g cs hg => far (by decide) hg
  · exact hnest.other (fun _ _ hg => far (by decide) hg) (fun _ _ hg => far (by decide) hg)
  · rw [World.size_setCell]
    exact Nat.le_trans hH hgr.size
  · obtain ⟨h1, h2, e', h3, h4⟩ := hp.inner k g hg
    exact ⟨h1, h2, e', h3, hmap h4⟩
  · exact (row_grow ((Below.refl lo W1).trans (hd.mono hlo)) hr hgr (Nat.le_refl _) (Nat.le_trans hlo hd.size)).setCell (p := ⟨pb, 0, none⟩) hp.low.1 _
/-- the new parts are told in the outer map -/
theorem add_done {w6 w7 w8 : World} {pb : Nat} {l : List BitD} {im : Nat → Option Nat} {lo H N : Nat} {va : Option Addr} {vc mb G : Nat} {rs : List BitsD} {e : BitD} (hh : HalfAt w6 pb (l ++ [e]) im lo H N va vc mb rs l) (hl : ∀ k g, im k = some g → k < l.length)
    (b7 : Below w6.heap.size w6 w7) (hG : w6.heap.size ≤ G) (hm7 : MapIs w7 G (N + 1) (firstMap e.ats)) (hm8 : MapIs w8 mb (N + 1) (outerM fun j => if j = l.length then some G else im j)) (ht : w7.mapTurned w8 mb) :
    PileAt w8 pb (l ++ [e]) (fun j => if j = l.length then some G else im j) lo w8.heap.size (N + 1) va vc mb rs ∧ Below lo w6 w8 := by
  have ho7 := hh.outer.on b7
  have hlo : lo ≤ w6.heap.size := Nat.le_trans hh.nest.le hh.top
  have hs8 := ht.grown.size
  have turn : ∀ {g : Nat} {t : TypeId} {cs : List Value}, BlockIs w7 g t cs → BlockIs w8 g t cs := fun hg => hg.turn ho7 ht
  have hmbG : mb ≠ G := by have := hh.outer.lt; omega
  refine ⟨⟨turn (hh.blk.on b7 hh.blk.lt), row_ext (rows_below hh.row b7) fun g cs hg => turn hg, ((hh.nest.on b7).other (fun _ _ hg => turn hg) (fun _ _ hg => turn hg)).up (by have := hh.top; have := b7.size; omega), Nat.le_refl _, hm8, hh.low, fun k g hg => ?_, fun j k g hj hk => ?_⟩, ?_⟩
  · by_cases hk : k = l.length
    · subst hk
      rw [if_pos rfl] at hg
      cases hg
      exact ⟨by omega, fun e => hmbG e.symm, e, by simp, hm7.kept ht.grown (by simp; omega)⟩
    · rw [if_neg hk] at hg
      obtain ⟨h1, h2, e', h3, h4⟩ := hh.inner k g hg
      have hkl := hl k g hg
      exact ⟨h1, h2, e', by rw [List.getElem?_append_left hkl]; exact h3, ((h4.on b7).kept ht.grown (by simp; omega)).up (by omega)⟩
  · by_cases h1 : j = l.length
    · by_cases h2 : k = l.length
      · omega
      · rw [if_pos h1] at hj
        rw [if_neg h2] at hk
        cases hj
        obtain ⟨_, _, _, _, h4⟩ := hh.inner k G hk
        have := h4.lt
        omega
    · by_cases h2 : k = l.length
      · rw [if_neg h1] at hj
        rw [if_pos h2] at hk
        cases hk
        obtain ⟨_, _, _, _, h4⟩ := hh.inner j G hj
        have := h4.lt
        omega
      · rw [if_neg h1] at hj
        rw [if_neg h2] at hk
        exact hh.inj j k g hj hk
  · exact ((Below.refl lo w6).trans (b7.mono hlo)).grown ht.grown (Nat.le_trans hlo b7.size) (fun k e => by simp at e; have := hh.low.2; omega)
set_option maxRecDepth 1000000 in
set_option maxHeartbeats 8000000 in
theorem pileAdd_any (pb : Nat) (l : List BitD) (im : Nat → Option Nat) (lo hi N : Nat) (va : Option Addr) (vc mb : Nat) (rs : List BitsD) (e : BitD) (R : BitsD) (hl : rs.length ≤ 1048576) (hN : N ≤ 4194304) (hwf : IntsWf e.ats) (ha : e.ats.length ≤ 1048577) (haN : e.ats.length ≤ N + 1)
    (hnew : ∀ k g, im k = some g → k < l.length) (w : World) (hp : PileAt w pb l im lo hi N va vc mb rs) (ho : OwnRB w e R hi w.heap.size) :
    Calls Try.prog 47 #[.pointer (some ⟨pb, 0, none⟩), .agg #[.int .i64 R.src, .int .i64 R.ident, .slice R.tx.ad R.tx.len R.tx.cap, .slice R.ax.ad R.ax.len R.ax.cap, .int .i64 R.total, .int .i64 R.lim]] w fun e' w' => e' = .returned (.int .i64 (rs.length : Int)) ∧ ∃ va' vc' g, PileAt w' pb (l ++ [e]) (fun j => if j = l.length then some g else im j) lo w'.heap.size (N + 1) va' vc' mb (rs ++ [R]) ∧ Below lo w w' := by
  have hoH := ho
  obtain ⟨ta, tc, aa, ac, m, rfl, _, _, _, _⟩ := hoH
  have hlen := hp.nest.length
  have hlo : lo ≤ w.heap.size := Nat.le_trans hp.nest.le hp.top
  have hrb : ∀ g, (Value.slice va rs.length vc).ownBlock = some g → g < w.heap.size := fun g hg => (hp.row.lt g hg).2
  have bx := below_more (Below.refl w.heap.size w) (.cells #[.int .i64 e.src, .int .i64 e.ident, .slice ta e.texts.length tc, .slice aa e.ats.length ac, .int .i64 e.total, .int .i64 e.lim] 35)
  have hx : BlockIs (w.alloc (.cells #[.int .i64 e.src, .int .i64 e.ident, .slice ta e.texts.length tc, .slice aa e.ats.length ac, .int .i64 e.total, .int .i64 e.lim] 35)) w.heap.size 35 [.int .i64 e.src, .int .i64 e.ident, .slice ta e.texts.length tc, .slice aa e.ats.length ac, .int .i64 e.total, .int .i64 e.lim] := heap_alloc_new w _
  have hp0 := hp.on bx
  have ho0 := ho.on bx
  obtain ⟨W0, hW0⟩ : ∃ W, w.alloc (.cells #[.int .i64 e.src, .int .i64 e.ident, .slice ta e.texts.length tc, .slice aa e.ats.length ac, .int .i64 e.total, .int .i64 e.lim] 35) = W := ⟨_, rfl⟩
  rw [hW0] at bx hx hp0 ho0
  have hW0s : w.heap.size < W0.heap.size := hx.lt
  have by1 := below_more (Below.refl W0.heap.size W0) (.cells #[.int .i64 e.src, .int .i64 e.ident, .slice ta e.texts.length tc, .slice aa e.ats.length ac, .int .i64 e.total, .int .i64 e.lim] 35)
  have hy : BlockIs (W0.alloc (.cells #[.int .i64 e.src, .int .i64 e.ident, .slice ta e.texts.length tc, .slice aa e.ats.length ac, .int .i64 e.total, .int .i64 e.lim] 35)) W0.heap.size 35 (bitsCells [rawB e ta tc aa ac] ++ []) := heap_alloc_new W0 _
  have hp1 := hp0.on by1
  have ho1 := ho0.on by1
  have hx1 := hx.on by1 hx.lt
  have p0 := hp0.blk.cell (j := 0) rfl
  have q0 := hp1.blk.cell (j := 0) rfl
  have c0 := hx.cell (j := 0) rfl
  have c1 := hx.cell (j := 1) rfl
  have c2 := hx.cell (j := 2) rfl
  have c3 := hx.cell (j := 3) rfl
  have c4 := hx.cell (j := 4) rfl
  have c5 := hx.cell (j := 5) rfl
  obtain ⟨W1, hW1⟩ : ∃ W, W0.alloc (.cells #[.int .i64 e.src, .int .i64 e.ident, .slice ta e.texts.length tc, .slice aa e.ats.length ac, .int .i64 e.total, .int .i64 e.lim] 35) = W := ⟨_, rfl⟩
  rw [hW1] at by1 hy hp1 ho1 hx1 q0
  have hda := bitssAt_of hy
  have HP := hid hp1
  have HO := hid ho1
  have HX := hid hx1
  have HDA := hid hda
  have HBY := hid (below_via bx by1)
  have hbs : lo ≤ W1.heap.size := Nat.le_trans hlo HBY.out.size
  have hws : w.heap.size ≤ W1.heap.size := HBY.out.size
  have HLEN := hid hlen
  have HNEW := hid hnew
  have HWF := hid hwf
  have HRB := hid hrb
  have HR1 := hid HP.out.row
  have hn1 : (rs ++ [rawB e ta tc aa ac]).length = rs.length + 1 := by simp
  simp only [rawB]
  clear hp hp0 ho ho0 hx bx by1 hy hp1 ho1 hx1 hda hlen hnew hwf hrb
  go_enter Try.func47, Try.ntmps47
  go_wp2
  go_region_law (refine step_append_bitss rfl (.tmp 15) (.tmp 17) rfl rfl (base := lo) (L := rs) (M := [rawB e ta tc aa ac]) (N := rs.length + 1) rfl rfl rfl hn1 (by omega) hbs HR1.out.drew (HDA.out.on (below_drewN (Below.refl _ _) 1)) ?_; intro va1 vc1 w5 hrow5 hgr5; have hb5 := block_row (HP.out.blk.on (below_drewN (Below.refl _ W1) 1) HP.out.blk.lt) HR1.out.drew hgr5 (by decide); have p5 := hb5.cell (j := 0) rfl; have pf5 := hb5.thaw 0)
  all_goals
    have hgr6 : W1.drew.grownBy w5 (Value.slice va rs.length vc).ownBlock := hgr5
    obtain ⟨hh, bl6⟩ := half_of HP.out HO.out hws hrow5 hgr6
    have hbx : BlockIs w5 w.heap.size 35 [.int .i64 e.src, .int .i64 e.ident, .slice ta e.texts.length tc, .slice aa e.ats.length ac, .int .i64 e.total, .int .i64 e.lim] := by
      have h9 := HX.out
      unfold BlockIs at h9 ⊢
      rw [hgr6.block w.heap.size (show w.heap.size < W1.heap.size by have := HX.out.lt; omega) (fun e9 => by have := HRB.out _ e9.symm; omega)]
      exact h9
    have hbx6 := hbx.far (b := pb) (j := 0) (fun e9 => by have := HP.out.blk; subst e9; exact absurd (block_one this HX.out).1 (by decide)) (.slice va1 (rs.length + 1) vc1)
    obtain ⟨W6, hW6⟩ : ∃ W, w5.setCell ⟨pb, 0, none⟩ (.slice va1 (rs.length + 1) vc1) = W := ⟨_, rfl⟩
    rw [hW6] at hh bl6 hbx6 ⊢
    have y3 := hbx6.cell (j := 3) rfl
    have y1 := hh.blk.cell (j := 1) rfl
    have hd6 := below_drewN (Below.refl W6.heap.size W6) 1
    have hin : IntsAt W6.drew aa e.ats := by
      have h9 := (hh.nest.on hd6).holds
      have h10 := h9.get l.length (by simp) (by rw [← hh.nest.length]; simp)
      have hlr := HLEN.out
      have e1 : (l ++ [e])[l.length]'(by simp) = e := by simp
      have e2 : (rs ++ [rawB e ta tc aa ac])[l.length]'(by rw [← hh.nest.length]; simp) = rawB e ta tc aa ac := by simp [hlr]
      rw [e1, e2] at h10
      obtain ⟨ta', tc', aa', ac', he', _, hv⟩ := h10
      simp only [rawB, BitsD.mk.injEq, SlD.mk.injEq, true_and, and_true] at he'
      rw [he'.2.1]
      exact hv.ints
    have CC : Hid (Calls Try.prog 61 #[.slice aa e.ats.length ac] W6.drew fun e9 w7 => e9 = .returned (.map (some W6.heap.size)) ∧ w7.cell? ⟨pb, 1, none⟩ = some (.map (some mb)) ∧ ∃ w8, (Instr.mapUpdate 60 (.map (some mb)) (.int .i64 (rs.length : Int)) (.map (some W6.heap.size))).run Try.prog w7 = .ok () w8 ∧ Hid (PileAt w8 pb (l ++ [e]) (fun j => if j = l.length then some W6.heap.size else im j) lo w8.heap.size (N + 1) va1 vc1 mb (rs ++ [rawB e ta tc aa ac]) ∧ Below lo w w8)) := by
      refine Calls.mono (firstParts_any aa e.ats ac ha HWF.out W6.drew hin) ?_
      rintro e9 w7 ⟨rfl, hm7, b7⟩
      have b67 := below_via hd6 b7
      have hb7 := hh.blk.on b67 hh.blk.lt
      obtain ⟨w8, hup, hm8, ht8⟩ := (hh.outer.on b67).put (by unfold maxLen; omega) Try.underlying60 (outerM_wf rs.length (by omega)) (coded_map W6.heap.size)
      rw [← HLEN.out] at hm8
      obtain ⟨q1, q2⟩ := add_done hh HNEW.out b67 (Nat.le_refl _) (hm7.up haN) (hm8.ext fun x _ => outerM_put im l.length W6.heap.size x) ht8
      exact ⟨rfl, hb7.cell (j := 1) rfl, w8, hup, q1, (((Below.refl lo w).trans (HBY.out.mono hlo)).trans bl6).trans q2⟩
    clear hh bl6 hbx hbx6 hin hd6 hgr6 hgr5 hb5 p5 pf5 hrow5 hW6
    go_wp2
    go_region_with (go_at_call 61; refine Calls.mono CC.out ?_; rintro e9 w7 ⟨rfl, c7, w8, hup, HF⟩)
    all_goals
      go_wp2
      go_ret
      exact ⟨rfl, va1, vc1, W6.heap.size, HF.out.1, HF.out.2⟩
end Go.Proofs.Ythdklbmachplmaa
