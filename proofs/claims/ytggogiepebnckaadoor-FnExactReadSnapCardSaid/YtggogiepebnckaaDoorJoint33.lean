/-
  The walk of impl.ReadSnap: what it answers, in memory of its own; a reader's panic is caught.
-/
import Derived.Test.YtggogiepebnckaaDoorJoint31
import Derived.Test.YtggogiepebnckaaDoorJoint32
namespace Go.Proofs.YtggogiepebnckaaDoor
open Go.RowKit Go.Sort

/-- what readWhole tells of what was read -/
def snapQ (s : ByteArray) (n : Nat) (l : List Value) (w : World) : Prop := ∀ d t k, snapAt s = some (d, t, k) → ∃ va vc, l = [.int .i64 d.ix, .int .i64 d.tm, .slice va d.conf.length vc, .string d.body] ∧ w.ownsRow n 3 1 (.slice va d.conf.length vc) d.conf.length (intCells d.conf)
theorem snapQ_stays (s : ByteArray) (n : Nat) (l : List Value) : Stays 3 3 (snapQ s n l) := by
  intro x y hb hq d t k h
  obtain ⟨va, vc, e1, e2⟩ := hq d t k h
  exact ⟨va, vc, e1, row_ext e2 fun g cs hg => hb g 3 cs (Or.inl rfl) hg⟩
theorem wholeSnap_read (s : ByteArray) (hs : s.size ≤ 1048576) (w : World) (ht : Steps w) : Calls Tryd.prog 32 #[.string s, .func (.func 33) #[] #[]] w fun e w' => snapDid (readSnap s) w e w' := by
  refine (wholeSnap_any s w ((snapAt s).map fun p => p.2) (snapQ s w.heap.size) 3 3 (snapQ_stays s w.heap.size) (by rintro t (rfl | rfl | rfl) <;> decide) ?_ ?_).mono ?_
  · intro t k h
    cases hq : snapAt s with
    | none => rw [hq] at h; cases h
    | some p => obtain ⟨d, t', k'⟩ := p; rw [hq] at h; cases h; exact snapAt_fits hs hq
  · intro b w1 hb hB hr
    refine (snap_at b s hs w1 hr (steps_on ht hB)).mono ?_
    intro e w2 hd
    cases hq : snapAt s with
    | none => rw [hq] at hd; exact hd
    | some p =>
      obtain ⟨d, t, k⟩ := p
      rw [hq] at hd
      obtain ⟨va, vc, e1, e2, e3, e4⟩ := hd
      refine ⟨d.ix, d.tm, va, d.conf.length, vc, d.body, e1, e3, e4, ?_⟩
      intro d' t' k' h'
      rw [hq] at h'
      cases h'
      exact ⟨va, vc, rfl, row_down e2 hB.size⟩
  · intro e w' h
    rw [readSnap_at]
    rcases h with ⟨t, ho, x0, x1, a, n, c, x3, e1, hq, hB⟩ | ⟨hno, e1, hB⟩
    · cases hs2 : snapAt s with
      | none => rw [hs2] at ho; cases ho
      | some p =>
        obtain ⟨d, t', k'⟩ := p
        rw [hs2] at ho
        simp only [Option.map_some, Option.some.injEq, Prod.mk.injEq] at ho
        obtain ⟨rfl, rfl⟩ := ho
        obtain ⟨va, vc, q1, q2⟩ := hq _ _ _ hs2
        simp only [List.cons.injEq, Value.int.injEq, Value.slice.injEq, Value.string.injEq, true_and, and_true] at q1
        obtain ⟨rfl, rfl, ⟨rfl, rfl, rfl⟩, rfl⟩ := q1
        simp only [Option.bind_some, if_true]
        exact ⟨_, e1, q2, hB⟩
    · have hn : (snapAt s).bind (fun p => if p.2.2 = p.2.1.size then some p.1 else none) = none := by
        cases hs2 : snapAt s with
        | none => rfl
        | some p =>
          obtain ⟨d, t', k'⟩ := p
          simp only [Option.bind_some]
          refine if_neg fun q => hno t' ?_
          rw [hs2]
          rw [Option.map_some, q]
      rw [hn]
      exact ⟨e1, hB⟩

set_option maxRecDepth 1000000 in
set_option maxHeartbeats 4000000 in
theorem implReadSnap_any (s : ByteArray) (hs : s.size ≤ 1048576) (w : World) (ht : Steps w) : Calls Tryd.prog 8 #[.string s] w fun e w' => snapDid (readSnap s) w e w' := by
  have hX := below_more (Below.refl w.heap.size w) (.cells #[.int .i64 0, .int .i64 0, .slice none 0 0, .string ⟨#[]⟩] 24)
  have P0 : Hid (BlockIs (w.alloc (.cells #[.int .i64 0, .int .i64 0, .slice none 0 0, .string ⟨#[]⟩] 24)) w.heap.size 24 [.int .i64 0, .int .i64 0, .slice none 0 0, .string ⟨#[]⟩]) := heap_alloc_new w _
  have B0 := hid hX
  have T0 := hid (steps_on ht hX)
  have hl : w.heap.size < (w.alloc (.cells #[.int .i64 0, .int .i64 0, .slice none 0 0, .string ⟨#[]⟩] 24)).heap.size := P0.out.lt
  clear hX ht
  obtain ⟨w0, hw0⟩ : ∃ W, w.alloc (.cells #[.int .i64 0, .int .i64 0, .slice none 0 0, .string ⟨#[]⟩] 24) = W := ⟨_, rfl⟩
  rw [hw0] at P0 B0 T0 hl
  have cW := hid (wholeSnap_read s hs w0 T0.out)
  obtain ⟨o, ho'⟩ : ∃ o, readSnap s = o := ⟨_, rfl⟩
  rw [ho'] at cW ⊢
  clear ho'
  cases o with
  | none =>
    go_enter Tryd.func8, Tryd.ntmps8
    go_wp2_with fail
    refine cW.out.mono ?_
    rintro e w1 ⟨rfl, hb⟩
    have P1 := hid (P0.out.on hb P0.out.lt)
    have B1 := hid (below_via B0.out hb)
    clear hw0
    clear hb P0 B0
    have c0 := P1.out.cell (j := 0) rfl
    have f0 := P1.out.thaw 0
    have c1 := P1.out.cell (j := 1) rfl
    have f1 := P1.out.thaw 1
    have c2 := P1.out.cell (j := 2) rfl
    have f2 := P1.out.thaw 2
    have c3 := P1.out.cell (j := 3) rfl
    have f3 := P1.out.thaw 3
    go_wp2
    have PZ := ((((P1.out.set 0 (.int .i64 0)).set 1 (.int .i64 0)).set 2 (.slice none 0 0)).set 3 (.string ByteArray.empty))
    have BZ := ((((B1.out.setCell (p := ⟨w.heap.size, 0, none⟩) (Nat.le_refl _) (.int .i64 0)).setCell (p := ⟨w.heap.size, 1, none⟩) (Nat.le_refl _) (.int .i64 0)).setCell (p := ⟨w.heap.size, 2, none⟩) (Nat.le_refl _) (.slice none 0 0)).setCell (p := ⟨w.heap.size, 3, none⟩) (Nat.le_refl _) (.string ByteArray.empty))
    have d0 := PZ.cell (j := 0) rfl
    have d1 := PZ.cell (j := 1) rfl
    have d2 := PZ.cell (j := 2) rfl
    have d3 := PZ.cell (j := 3) rfl
    refine bodyPost_ret (v := .tuple #[.agg #[.int .i64 0, .int .i64 0, .slice none 0 0, .string ByteArray.empty], .bool false]) (by simp [results, Tryd.results8, go_sem, d0, d1, d2, d3]) rfl ?_
    exact ⟨rfl, BZ⟩
  | some d =>
    go_enter Tryd.func8, Tryd.ntmps8
    go_wp2_with fail
    refine cW.out.mono ?_
    rintro e w1 ⟨v, rfl, ho, hb⟩
    obtain ⟨va, vc, rfl⟩ := row_shape ho
    have P1 := hid (P0.out.on hb P0.out.lt)
    have B1 := hid (below_via B0.out hb)
    clear hw0
    have O1 := hid (row_down ho (show w.heap.size ≤ _ by omega))
    clear ho
    skip
    clear hb P0 B0
    have c0 := P1.out.cell (j := 0) rfl
    have f0 := P1.out.thaw 0
    have c1 := P1.out.cell (j := 1) rfl
    have f1 := P1.out.thaw 1
    have c2 := P1.out.cell (j := 2) rfl
    have f2 := P1.out.thaw 2
    have c3 := P1.out.cell (j := 3) rfl
    have f3 := P1.out.thaw 3
    go_wp2
    have PZ := ((((P1.out.set 0 (.int .i64 d.ix)).set 1 (.int .i64 d.tm)).set 2 (.slice va d.conf.length vc)).set 3 (.string d.body))
    have OZ := (own_put (own_put (own_put (own_put O1.out P1.out (by decide) (j := 0) (u := .int .i64 d.ix)) (P1.out.set 0 (.int .i64 d.ix)) (by decide) (j := 1) (u := .int .i64 d.tm)) ((P1.out.set 0 (.int .i64 d.ix)).set 1 (.int .i64 d.tm)) (by decide) (j := 2) (u := .slice va d.conf.length vc)) (((P1.out.set 0 (.int .i64 d.ix)).set 1 (.int .i64 d.tm)).set 2 (.slice va d.conf.length vc)) (by decide) (j := 3) (u := .string d.body))
    have BZ := ((((B1.out.setCell (p := ⟨w.heap.size, 0, none⟩) (Nat.le_refl _) (.int .i64 d.ix)).setCell (p := ⟨w.heap.size, 1, none⟩) (Nat.le_refl _) (.int .i64 d.tm)).setCell (p := ⟨w.heap.size, 2, none⟩) (Nat.le_refl _) (.slice va d.conf.length vc)).setCell (p := ⟨w.heap.size, 3, none⟩) (Nat.le_refl _) (.string d.body))
    have d0 := PZ.cell (j := 0) rfl
    have d1 := PZ.cell (j := 1) rfl
    have d2 := PZ.cell (j := 2) rfl
    have d3 := PZ.cell (j := 3) rfl
    refine bodyPost_ret (v := .tuple #[.agg #[.int .i64 d.ix, .int .i64 d.tm, .slice va d.conf.length vc, .string d.body], .bool true]) (by simp [results, Tryd.results8, go_sem, d0, d1, d2, d3]) rfl ?_
    exact ⟨_, rfl, OZ, BZ⟩
end Go.Proofs.YtggogiepebnckaaDoor
