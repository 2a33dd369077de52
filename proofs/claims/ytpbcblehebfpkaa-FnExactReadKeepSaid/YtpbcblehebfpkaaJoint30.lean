/-
  The walk of impl.ReadKeep.
-/
import Derived.Test.YtpbcblehebfpkaaJoint28
import Derived.Test.YtpbcblehebfpkaaJoint29
import Derived.Test.YtpbcblehebfpkaaJoint21
namespace Go.Proofs.Ytpbcblehebfpkaa
open Go.RowKit Go.Sort

def keepQ (s : ByteArray) (n : Nat) (l : List Value) (w : World) : Prop := ∀ ls li k, keepAt s = some ((ls, li), k) → ∃ va vc vb vd, l = [.slice va ls.length vc, .slice vb li.length vd] ∧ KRows w n (.slice va ls.length vc) (.slice vb li.length vd) ls li
theorem keepQ_stays (s : ByteArray) (n : Nat) (l : List Value) : Stays 43 46 (keepQ s n l) := by
  intro x y hb hq ls li k h
  obtain ⟨va, vc, vb, vd, e1, e2⟩ := hq ls li k h
  exact ⟨va, vc, vb, vd, e1, row_ext e2.1 fun g cs hg => hb g _ cs (Or.inl rfl) hg, row_ext e2.2 fun g cs hg => hb g _ cs (Or.inr rfl) hg⟩
theorem wholeKeep_read (s : ByteArray) (hs : s.size ≤ 1048576) (w : World) : Calls Try.prog 17 #[.string s, .func (.func 18) #[] #[]] w fun e w' => rkDid (readKeep s) w e w' := by
  refine (wholeKeep_any s w ((keepAt s).map fun p => (s, p.2)) (keepQ s w.heap.size) 43 46 (keepQ_stays s w.heap.size) (by rintro t (rfl | rfl | rfl) <;> decide) ?_ ?_).mono ?_
  · intro t k h
    cases hq : keepAt s with
    | none => rw [hq] at h; cases h
    | some p => obtain ⟨⟨ls, li⟩, k'⟩ := p; rw [hq] at h; cases h; exact ⟨hs, (keepAt_fits hq).1⟩
  · intro b w1 hb hB hr
    refine (keep_at b s hs w1 hr).mono ?_
    intro e w2 hd
    cases hq : keepAt s with
    | none => rw [hq] at hd; exact hd
    | some p =>
      obtain ⟨⟨ls, li⟩, k⟩ := p
      rw [hq] at hd
      obtain ⟨va, vc, vb, vd, e1, e2, e3, e4⟩ := hd
      refine ⟨va, ls.length, vc, vb, li.length, vd, e1, e3, e4, ?_⟩
      intro ls' li' k' h'
      rw [hq] at h'
      cases h'
      exact ⟨va, vc, vb, vd, rfl, KRows.down e2 hB.size⟩
  · intro e w' h
    rcases h with ⟨t, ho, x0, y0, z0, x1, y1, z1, e1, hq, hB⟩ | ⟨hno, e1, hB⟩
    · cases hs2 : keepAt s with
      | none => rw [hs2] at ho; cases ho
      | some p =>
        obtain ⟨⟨ls, li⟩, k'⟩ := p
        rw [hs2] at ho
        simp only [Option.map_some, Option.some.injEq, Prod.mk.injEq] at ho
        obtain ⟨rfl, rfl⟩ := ho
        obtain ⟨va, vc, vb, vd, q1, q2⟩ := hq _ _ _ hs2
        simp only [List.cons.injEq, Value.slice.injEq, and_true] at q1
        obtain ⟨⟨rfl, rfl, rfl⟩, rfl, rfl, rfl⟩ := q1
        have hc : readKeep s = some (ls, li) := by unfold readKeep; rw [hs2]; exact if_pos rfl
        rw [hc]
        exact ⟨_, _, _, _, e1, q2, hB⟩
    · have hn : readKeep s = none := by
        unfold readKeep
        cases hs2 : keepAt s with
        | none => rfl
        | some p =>
          obtain ⟨d, k'⟩ := p
          simp only [Option.bind_some]
          refine if_neg fun q => hno s ?_
          rw [hs2]
          rw [Option.map_some, q]
      rw [hn, e1]
      exact rk_none hB

set_option maxRecDepth 1000000 in
set_option maxHeartbeats 4000000 in
theorem implReadKeep_any (s : ByteArray) (hs : s.size ≤ 1048576) (w : World) : Calls Try.prog 6 #[.string s] w fun e w' => rkDid (readKeep s) w e w' := by
  have hX := below_more (Below.refl w.heap.size w) (.cells #[.slice none 0 0, .slice none 0 0] 25)
  have P0 : Hid (BlockIs (w.alloc (.cells #[.slice none 0 0, .slice none 0 0] 25)) w.heap.size 25 [.slice none 0 0, .slice none 0 0]) := heap_alloc_new w _
  have B0 := hid hX
  have hl : w.heap.size < (w.alloc (.cells #[.slice none 0 0, .slice none 0 0] 25)).heap.size := P0.out.lt
  clear hX
  obtain ⟨w0, hw0⟩ : ∃ W, w.alloc (.cells #[.slice none 0 0, .slice none 0 0] 25) = W := ⟨_, rfl⟩
  rw [hw0] at P0 B0 hl
  have cW := hid (wholeKeep_read s hs w0)
  obtain ⟨o, ho'⟩ : ∃ o, readKeep s = o := ⟨_, rfl⟩
  rw [ho'] at cW ⊢
  clear ho'
  go_enter Try.func6, Try.ntmps6
  go_wp2_with fail
  refine cW.out.mono ?_
  rintro e w1 ⟨va, vc, vb, vd, rfl, hk, hb⟩
  clear hw0
  have P1 := hid (P0.out.on hb P0.out.lt)
  have B1 := hid (below_via B0.out hb)
  have K1 := hid (KRows.down hk (show w.heap.size ≤ _ by omega))
  clear hb hk P0 B0 cW
  have hd9 : Hid (∀ W, KRows W w.heap.size (.slice va (rkS o).length vc) (.slice vb (rkI o).length vd) (rkS o) (rkI o) → Below w.heap.size w W → rkDid o w (.returned (.tuple #[.agg #[.slice va (rkS o).length vc, .slice vb (rkI o).length vd], .bool o.isSome])) W) := fun W h1 h2 => ⟨va, vc, vb, vd, rfl, h1, h2⟩
  obtain ⟨n, hn⟩ : ∃ n, (rkS o).length = n := ⟨_, rfl⟩
  obtain ⟨m, hm⟩ : ∃ n, (rkI o).length = n := ⟨_, rfl⟩
  obtain ⟨ok, hok⟩ : ∃ x, o.isSome = x := ⟨_, rfl⟩
  rw [hn, hm] at K1
  rw [hn, hm, hok] at hd9 ⊢
  clear hn hm hok
  have c0 := P1.out.cell (j := 0) rfl
  have f0 := P1.out.thaw 0
  have c1 := P1.out.cell (j := 1) rfl
  have f1 := P1.out.thaw 1
  go_wp2
  have PZ := (P1.out.set 0 (.slice va n vc)).set 1 (.slice vb m vd)
  have d0 := PZ.cell (j := 0) rfl
  have d1 := PZ.cell (j := 1) rfl
  refine bodyPost_ret (v := .tuple #[.agg #[.slice va n vc, .slice vb m vd], .bool ok]) (by simp [results, Try.results6, go_sem, d0, d1]) rfl ?_
  exact hd9.out _ ((KRows.far K1.out P1.out (by decide) (by decide) _).far (P1.out.set 0 _) (by decide) (by decide) _) ((B1.out.setCell (p := ⟨w.heap.size, 0, none⟩) (Nat.le_refl _) _).setCell (p := ⟨w.heap.size, 1, none⟩) (Nat.le_refl _) _)
end Go.Proofs.Ytpbcblehebfpkaa
