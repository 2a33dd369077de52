/-
  The walk of impl.ReadSnap: what it answers, in memory of its own; a reader's panic is caught.
  The walk of impl.snapIn.
-/
import Derived.Test.YtoanhjjigbjecaaGreatDoorJoint46
import Derived.Test.YtoanhjjigbjecaaGreatDoorJoint47
import Derived.Test.YtoanhjjigbjecaaGreatDoorJoint1
import Derived.Test.YtoanhjjigbjecaaGreatDoorJoint40
namespace Go.Proofs.YtoanhjjigbjecaaGreatDoor
open Go.RowKit Go.Sort

/-- what readWhole tells of what was read -/
def snapQ (s : ByteArray) (n : Nat) (l : List Value) (w : World) : Prop := ∀ d t k, snapAt s = some (d, t, k) → ∃ va vc, l = [.int .i64 d.ix, .int .i64 d.tm, .slice va d.conf.length vc, .string d.body] ∧ w.ownsRow n 3 1 (.slice va d.conf.length vc) d.conf.length (intCells d.conf)
theorem snapQ_stays (s : ByteArray) (n : Nat) (l : List Value) : Stays 3 3 (snapQ s n l) := by
  intro x y hb hq d t k h
  obtain ⟨va, vc, e1, e2⟩ := hq d t k h
  exact ⟨va, vc, e1, row_ext e2 fun g cs hg => hb g 3 cs (Or.inl rfl) hg⟩
theorem wholeSnap_read (s : ByteArray) (hs : s.size ≤ 1048576) (w : World) (ht : Steps w) : Calls Tryz.prog 32 #[.string s, .func (.func 33) #[] #[]] w fun e w' => snapDid (readSnap s) w e w' := by
  refine (wholeSnap_any s w ((snapAt s).map fun p => p.2) (snapQ s w.heap.size) 3 3 (snapQ_stays s w.heap.size) (by rintro t (rfl | rfl | rfl) <;> decide) ?_ ?_).mono ?_
  · intro t k h
    cases hq : snapAt s with
    | none => rw [hq] at h; cases h
    | some p => obtain ⟨d, t', k'⟩ := p; rw [hq] at h; cases h; exact snapAt_fits hs hq
  · intro b w1 hb hB hr
    refine (snap_at b s hs w1 hr (steps_on ht hB)).mono ?_
    intro e w2 hd
    cases hq : snapAt s with
    | none => rw [hq] at hd; exact hd
    | some p =>
      obtain ⟨d, t, k⟩ := p
      rw [hq] at hd
      obtain ⟨va, vc, e1, e2, e3, e4⟩ := hd
      refine ⟨d.ix, d.tm, va, d.conf.length, vc, d.body, e1, e3, e4, ?_⟩
      intro d' t' k' h'
      rw [hq] at h'
      cases h'
      exact ⟨va, vc, rfl, row_down e2 hB.size⟩
  · intro e w' h
    rw [readSnap_at]
    rcases h with ⟨t, ho, x0, x1, a, n, c, x3, e1, hq, hB⟩ | ⟨hno, e1, hB⟩
    · cases hs2 : snapAt s with
      | none => rw [hs2] at ho; cases ho
      | some p =>
        obtain ⟨d, t', k'⟩ := p
        rw [hs2] at ho
        simp only [Option.map_some, Option.some.injEq, Prod.mk.injEq] at ho
        obtain ⟨rfl, rfl⟩ := ho
        obtain ⟨va, vc, q1, q2⟩ := hq _ _ _ hs2
        simp only [List.cons.injEq, Value.int.injEq, Value.slice.injEq, Value.string.injEq, true_and, and_true] at q1
        obtain ⟨rfl, rfl, ⟨rfl, rfl, rfl⟩, rfl⟩ := q1
        simp only [Option.bind_some, if_true]
        exact ⟨_, e1, q2, hB⟩
    · have hn : (snapAt s).bind (fun p => if p.2.2 = p.2.1.size then some p.1 else none) = none := by
        cases hs2 : snapAt s with
        | none => rfl
        | some p =>
          obtain ⟨d, t', k'⟩ := p
          simp only [Option.bind_some]
          refine if_neg fun q => hno t' ?_
          rw [hs2]
          rw [Option.map_some, q]
      rw [hn]
      exact ⟨e1, hB⟩

set_option maxRecDepth 1000000 in
set_option maxHeartbeats 4000000 in
theorem implReadSnap_any (s : ByteArray) (hs : s.size ≤ 1048576) (w : World) (ht : Steps w) : Calls Tryz.prog 8 #[.string s] w fun e w' => snapDid (readSnap s) w e w' := by
  have hX := below_more (Below.refl w.heap.size w) (.cells #[.int .i64 0, .int .i64 0, .slice none 0 0, .string ⟨#[]⟩] 29)
  have P0 : Hid (BlockIs (w.alloc (.cells #[.int .i64 0, .int .i64 0, .slice none 0 0, .string ⟨#[]⟩] 29)) w.heap.size 29 [.int .i64 0, .int .i64 0, .slice none 0 0, .string ⟨#[]⟩]) := heap_alloc_new w _
  have B0 := hid hX
  have T0 := hid (steps_on ht hX)
  have hl : w.heap.size < (w.alloc (.cells #[.int .i64 0, .int .i64 0, .slice none 0 0, .string ⟨#[]⟩] 29)).heap.size := P0.out.lt
  clear hX ht
  obtain ⟨w0, hw0⟩ : ∃ W, w.alloc (.cells #[.int .i64 0, .int .i64 0, .slice none 0 0, .string ⟨#[]⟩] 29) = W := ⟨_, rfl⟩
  rw [hw0] at P0 B0 T0 hl
  have cW := hid (wholeSnap_read s hs w0 T0.out)
  obtain ⟨o, ho'⟩ : ∃ o, readSnap s = o := ⟨_, rfl⟩
  rw [ho'] at cW ⊢
  clear ho'
  cases o with
  | none =>
    go_enter Tryz.func8, Tryz.ntmps8
    go_wp2_with fail
    refine cW.out.mono ?_
    rintro e w1 ⟨rfl, hb⟩
    have P1 := hid (P0.out.on hb P0.out.lt)
    have B1 := hid (below_via B0.out hb)
    clear hw0
    clear hb P0 B0
    have c0 := P1.out.cell (j := 0) rfl
    have f0 := P1.out.thaw 0
    have c1 := P1.out.cell (j := 1) rfl
    have f1 := P1.out.thaw 1
    have c2 := P1.out.cell (j := 2) rfl
    have f2 := P1.out.thaw 2
    have c3 := P1.out.cell (j := 3) rfl
    have f3 := P1.out.thaw 3
    go_wp2
    have PZ := ((((P1.out.set 0 (.int .i64 0)).set 1 (.int .i64 0)).set 2 (.slice none 0 0)).set 3 (.string ByteArray.empty))
    have BZ := ((((B1.out.setCell (p := ⟨w.heap.size, 0, none⟩) (Nat.le_refl _) (.int .i64 0)).setCell (p := ⟨w.heap.size, 1, none⟩) (Nat.le_refl _) (.int .i64 0)).setCell (p := ⟨w.heap.size, 2, none⟩) (Nat.le_refl _) (.slice none 0 0)).setCell (p := ⟨w.heap.size, 3, none⟩) (Nat.le_refl _) (.string ByteArray.empty))
    have d0 := PZ.cell (j := 0) rfl
    have d1 := PZ.cell (j := 1) rfl
    have d2 := PZ.cell (j := 2) rfl
    have d3 := PZ.cell (j := 3) rfl
    refine bodyPost_ret (v := .tuple #[.agg #[.int .i64 0, .int .i64 0, .slice none 0 0, .string ByteArray.empty], .bool false]) (by simp [results, Tryz.results8, go_sem, d0, d1, d2, d3]) rfl ?_
    exact ⟨rfl, BZ⟩
  | some d =>
    go_enter Tryz.func8, Tryz.ntmps8
    go_wp2_with fail
    refine cW.out.mono ?_
    rintro e w1 ⟨v, rfl, ho, hb⟩
    obtain ⟨va, vc, rfl⟩ := row_shape ho
    have P1 := hid (P0.out.on hb P0.out.lt)
    have B1 := hid (below_via B0.out hb)
    clear hw0
    have O1 := hid (row_down ho (show w.heap.size ≤ _ by omega))
    clear ho
    skip
    clear hb P0 B0
    have c0 := P1.out.cell (j := 0) rfl
    have f0 := P1.out.thaw 0
    have c1 := P1.out.cell (j := 1) rfl
    have f1 := P1.out.thaw 1
    have c2 := P1.out.cell (j := 2) rfl
    have f2 := P1.out.thaw 2
    have c3 := P1.out.cell (j := 3) rfl
    have f3 := P1.out.thaw 3
    go_wp2
    have PZ := ((((P1.out.set 0 (.int .i64 d.ix)).set 1 (.int .i64 d.tm)).set 2 (.slice va d.conf.length vc)).set 3 (.string d.body))
    have OZ := (own_put (own_put (own_put (own_put O1.out P1.out (by decide) (j := 0) (u := .int .i64 d.ix)) (P1.out.set 0 (.int .i64 d.ix)) (by decide) (j := 1) (u := .int .i64 d.tm)) ((P1.out.set 0 (.int .i64 d.ix)).set 1 (.int .i64 d.tm)) (by decide) (j := 2) (u := .slice va d.conf.length vc)) (((P1.out.set 0 (.int .i64 d.ix)).set 1 (.int .i64 d.tm)).set 2 (.slice va d.conf.length vc)) (by decide) (j := 3) (u := .string d.body))
    have BZ := ((((B1.out.setCell (p := ⟨w.heap.size, 0, none⟩) (Nat.le_refl _) (.int .i64 d.ix)).setCell (p := ⟨w.heap.size, 1, none⟩) (Nat.le_refl _) (.int .i64 d.tm)).setCell (p := ⟨w.heap.size, 2, none⟩) (Nat.le_refl _) (.slice va d.conf.length vc)).setCell (p := ⟨w.heap.size, 3, none⟩) (Nat.le_refl _) (.string d.body))
    have d0 := PZ.cell (j := 0) rfl
    have d1 := PZ.cell (j := 1) rfl
    have d2 := PZ.cell (j := 2) rfl
    have d3 := PZ.cell (j := 3) rfl
    refine bodyPost_ret (v := .tuple #[.agg #[.int .i64 d.ix, .int .i64 d.tm, .slice va d.conf.length vc, .string d.body], .bool true]) (by simp [results, Tryz.results8, go_sem, d0, d1, d2, d3]) rfl ?_
    exact ⟨_, rfl, OZ, BZ⟩
end Go.Proofs.YtoanhjjigbjecaaGreatDoor

namespace Go.Proofs.YtoanhjjigbjecaaGreatDoor
open Go.RowKit

set_option maxRecDepth 1000000 in
set_option maxHeartbeats 4000000 in
theorem snapIn_any (f : FileD) (hs : f.text.size ≤ 1048576) (w : World) (ht : Steps w) :
    Calls Tryz.prog 40 #[.agg #[.string f.name, .string f.text, .int .i64 f.kept]] w fun e w' => SnapSome (fileSnap f) w e w' := by
  have HT := hid ht
  have h2 := two_blocks w (.cells #[.string f.name, .string f.text, .int .i64 f.kept] 61) (.cells #[.int .i64 0, .int .i64 0, .slice none 0 0, .string ⟨#[]⟩] 29)
  have F0 : Hid (BlockIs _ w.heap.size 61 [.string f.name, .string f.text, .int .i64 f.kept]) := h2.2.2.1
  have P0 : Hid (BlockIs _ (w.heap.size + 1) 29 [.int .i64 0, .int .i64 0, .slice none 0 0, .string ⟨#[]⟩]) := h2.2.2.2
  have B0 := hid h2.1
  clear h2 ht
  obtain ⟨W, hW⟩ : ∃ W, (w.alloc (.cells #[.string f.name, .string f.text, .int .i64 f.kept] 61)).alloc (.cells #[.int .i64 0, .int .i64 0, .slice none 0 0, .string ⟨#[]⟩] 29) = W := ⟨_, rfl⟩
  rw [hW] at F0 P0 B0
  have c0 := F0.out.cell (j := 0) rfl
  go_enter Tryz.func40, Tryz.ntmps40
  go_wp2_with fail
  refine (indexIn_any f.name _).mono ?_
  rintro e w1 ⟨⟨x, rfl, hx⟩, b1⟩
  have F1 := hid (F0.out.on b1 F0.out.lt)
  have P1 := hid (P0.out.on b1 P0.out.lt)
  have B1 := hid (below_via B0.out b1)
  clear b1 F0 P0 B0 hW c0
  have p0 := P1.out.cell (j := 0) rfl
  have p1 := P1.out.cell (j := 1) rfl
  have p2 := P1.out.cell (j := 2) rfl
  have p3 := P1.out.cell (j := 3) rfl
  have e0 := P1.out.thaw 0
  have e1 := P1.out.thaw 1
  have e2 := P1.out.thaw 2
  have e3 := P1.out.thaw 3
  cases hn : nameNum 115 1000000 f.name with
  | none =>
    have HF := hid (fileSnap_name hn)
    have BL := hid ((((B1.out.setCell (p := ⟨w.heap.size + 1, 0, none⟩) (Nat.le_succ _) (.int .i64 0)).setCell (p := ⟨w.heap.size + 1, 1, none⟩) (Nat.le_succ _) (.int .i64 0)).setCell (p := ⟨w.heap.size + 1, 2, none⟩) (Nat.le_succ _) (.slice none 0 0)).setCell (p := ⟨w.heap.size + 1, 3, none⟩) (Nat.le_succ _) (.string ⟨#[]⟩))
    rw [show (none : Option Nat).isSome = false from rfl]
    clear hn hx
    go_wp2
    refine bodyPost_ret (v := .tuple #[.agg #[.int .i64 0, .int .i64 0, .slice none 0 0, .string ⟨#[]⟩], .bool false]) (by simp [results, Tryz.results40, go_sem, p0, p1, p2, p3]) rfl ?_
    rw [HF.out]
    exact ⟨0, 0, none, [], 0, ⟨#[]⟩, rfl, own_nil _ _, BL.out, fun d q => by cases q⟩
  | some n =>
    have hxn := hx n hn
    subst hxn
    rw [show (some n : Option Nat).isSome = true from rfl]
    have g1 := F1.out.cell (j := 1) rfl
    clear hx p0 p1 p2 p3 e0 e1 e2 e3
    go_wp2_with fail
    refine ((implReadSnap_any f.text hs _ (steps_on HT.out B1.out)).mono (fun e w' h => snapDid_parts h)).mono ?_
    rintro e w2 ⟨a2, c2, rfl, o2, b2⟩
    have P2 := hid (P1.out.on b2 P1.out.lt)
    have O2 := hid (row_down o2 B1.out.size)
    have B2 := hid (below_via B1.out b2)
    have hPl := P2.out.lt
    clear o2 b2 P1 B1 F1 g1
    have HF := hid (fileSnap_pick hn)
    obtain ⟨o, ho⟩ : ∃ o, readSnap f.text = o := ⟨_, rfl⟩
    rw [ho] at HF
    rw [ho] at O2 ⊢
    clear ho hn
    have hx3 : BlockIs (w2.alloc (.cells #[.int .i64 (snapIx o), .int .i64 (snapTm o), .slice a2 (snapZs o).length c2, .string (snapBd o)] 29)) w2.heap.size 29 [.int .i64 (snapIx o), .int .i64 (snapTm o), .slice a2 (snapZs o).length c2, .string (snapBd o)] := heap_alloc_new w2 _
    have bx := below_more (Below.refl w2.heap.size w2) (.cells #[.int .i64 (snapIx o), .int .i64 (snapTm o), .slice a2 (snapZs o).length c2, .string (snapBd o)] 29)
    have X3 := hid hx3
    have P3 := hid (P2.out.on bx P2.out.lt)
    have O3 := hid (kept_conf O2.out bx)
    have B3 := hid (below_via B2.out bx)
    clear hx3 bx P2 O2 B2
    obtain ⟨ix, hix⟩ : ∃ x, snapIx o = x := ⟨_, rfl⟩
    obtain ⟨tm, htm⟩ : ∃ x, snapTm o = x := ⟨_, rfl⟩
    obtain ⟨zs, hzs⟩ : ∃ x, snapZs o = x := ⟨_, rfl⟩
    obtain ⟨bd, hbd⟩ : ∃ x, snapBd o = x := ⟨_, rfl⟩
    rw [hix, htm, hzs, hbd] at X3 P3 O3 B3 ⊢
    have HP : Hid (∀ d, o = some d → ix = d.ix ∧ tm = d.tm ∧ zs = d.conf ∧ bd = d.body) := fun d q => by subst q; exact ⟨hix.symm, htm.symm, hzs.symm, hbd.symm⟩
    clear hix htm hzs hbd
    obtain ⟨g, hg⟩ : ∃ g, w2.heap.size = g := ⟨_, rfl⟩
    rw [hg] at X3 hPl
    have hgl : w.heap.size + 1 ≠ g := by omega
    obtain ⟨W3, hW3⟩ : ∃ W, w2.alloc (.cells #[.int .i64 ix, .int .i64 tm, .slice a2 zs.length c2, .string bd] 29) = W := ⟨_, rfl⟩
    rw [hW3] at X3 P3 O3 B3
    have x0 := X3.out.cell (j := 0) rfl
    have x1 := X3.out.cell (j := 1) rfl
    have x2 := X3.out.cell (j := 2) rfl
    have x3 := X3.out.cell (j := 3) rfl
    have p0 := P3.out.cell (j := 0) rfl
    have p1 := P3.out.cell (j := 1) rfl
    have p2 := P3.out.cell (j := 2) rfl
    have p3 := P3.out.cell (j := 3) rfl
    have e0 := P3.out.thaw 0
    have e1 := P3.out.thaw 1
    have e2 := P3.out.thaw 2
    have e3 := P3.out.thaw 3
    have DN := hid (below_drewN B3.out 1)
    have OD : Hid (W3.drew.ownsRow w.heap.size 3 1 (.slice a2 zs.length c2) zs.length (intCells zs)) := O3.out
    have PD : Hid (BlockIs W3.drew (w.heap.size + 1) 29 [.int .i64 0, .int .i64 0, .slice none 0 0, .string ⟨#[]⟩]) := P3.out
    have BL := hid ((((DN.out.setCell (p := ⟨w.heap.size + 1, 0, none⟩) (Nat.le_succ _) (.int .i64 ix)).setCell (p := ⟨w.heap.size + 1, 1, none⟩) (Nat.le_succ _) (.int .i64 tm)).setCell (p := ⟨w.heap.size + 1, 2, none⟩) (Nat.le_succ _) (.slice a2 zs.length c2)).setCell (p := ⟨w.heap.size + 1, 3, none⟩) (Nat.le_succ _) (.string bd))
    have OL := hid (own_put (own_put (own_put (own_put OD.out PD.out (by decide) (j := 0) (u := .int .i64 ix)) (PD.out.set 0 (.int .i64 ix)) (by decide) (j := 1) (u := .int .i64 tm)) ((PD.out.set 0 (.int .i64 ix)).set 1 (.int .i64 tm)) (by decide) (j := 2) (u := .slice a2 zs.length c2)) (((PD.out.set 0 (.int .i64 ix)).set 1 (.int .i64 tm)).set 2 (.slice a2 zs.length c2)) (by decide) (j := 3) (u := .string bd))
    clear X3 P3 O3 B3 DN OD PD HT
    cases o with
    | none =>
      have HF2 : Hid (fileSnap f = none) := HF.out
      rw [show (none : Option SnapD).isSome = false from rfl]
      clear HF HP
      go_wp2
      go_region
      all_goals
        go_wp2
        refine bodyPost_ret (v := .tuple #[.agg #[.int .i64 ix, .int .i64 tm, .slice a2 zs.length c2, .string bd], .bool false]) (by simp [results, Tryz.results40, go_sem, p0, p1, p2, p3]) rfl ?_
        rw [HF2.out]
        exact ⟨ix, tm, a2, zs, c2, bd, rfl, OL.out, BL.out, fun d q => by cases q⟩
    | some s =>
      rw [show (some s : Option SnapD).isSome = true from rfl]
      have hixs := (HP.out s rfl).1
      by_cases heq : ix = (n : Int)
      · have HF2 : Hid (fileSnap f = some s) := HF.out.trans (pick_yes (by omega))
        have heqd : (ix == (n : Int)) = true := by simpa using heq
        clear HF hixs heq
        go_wp2
        go_region
        all_goals
          go_wp2
          refine bodyPost_ret (v := .tuple #[.agg #[.int .i64 ix, .int .i64 tm, .slice a2 zs.length c2, .string bd], .bool true]) (by simp [results, Tryz.results40, go_sem, p0, p1, p2, p3]) rfl ?_
          rw [HF2.out]
          exact ⟨ix, tm, a2, zs, c2, bd, rfl, OL.out, BL.out, HP.out⟩
      · have HF2 : Hid (fileSnap f = none) := HF.out.trans (pick_no (by omega))
        have heqd : (ix == (n : Int)) = false := by simpa using heq
        clear HF hixs
        go_wp2
        go_region
        all_goals
          go_wp2
          refine bodyPost_ret (v := .tuple #[.agg #[.int .i64 ix, .int .i64 tm, .slice a2 zs.length c2, .string bd], .bool false]) (by simp [results, Tryz.results40, go_sem, p0, p1, p2, p3]) rfl ?_
          rw [HF2.out]
          exact ⟨ix, tm, a2, zs, c2, bd, rfl, OL.out, BL.out, fun d q => by cases q⟩
end Go.Proofs.YtoanhjjigbjecaaGreatDoor
