/-
  The walk of impl.ReadCommand.
-/
import Derived.Test.YtihgkocfgjihhaaDoorJoint44
import Derived.Test.YtihgkocfgjihhaaDoorJoint40
namespace Go.Proofs.YtihgkocfgjihhaaDoor
open Go.RowKit Go.Sort

def cmdQ (s : ByteArray) (l : List Value) (_ : World) : Prop := ∀ d k, cmdAt s = some (d, k) → l = commandEnc d
theorem wholeCmd_read (s : ByteArray) (hs : s.size ≤ 1048576) (w : World) : Calls Tryd.prog 40 #[.string s, .func (.func 41) #[] #[]] w fun e w' => e = .returned (readCmdAns s) ∧ Below w.heap.size w w' := by
  refine (wholeCmd_any s w ((cmdAt s).map fun p => (s, p.2)) (cmdQ s) 3 3 (fun l x y _ h => h) (by rintro t (rfl | rfl | rfl) <;> decide) ?_ ?_).mono ?_
  · intro t k h
    cases hq : cmdAt s with
    | none => rw [hq] at h; cases h
    | some p => obtain ⟨d, k'⟩ := p; rw [hq] at h; cases h; exact ⟨hs, cmdAt_fits hq⟩
  · intro b w1 hb hB hr
    refine (command_at b s hs w1 hr).mono ?_
    intro e w2 hd
    cases hq : cmdAt s with
    | none => rw [hq] at hd; exact hd
    | some p =>
      obtain ⟨d, k⟩ := p
      rw [hq] at hd
      obtain ⟨e1, e3, e4⟩ := hd
      refine ⟨d.op, d.token, d.seq, d.key, d.val, d.ver, e1, e3, e4, ?_⟩
      intro d' k' h'
      rw [hq] at h'
      cases h'
      rfl
  · intro e w' h
    rcases h with ⟨t, ho, x0, x1, x2, x3, x4, x5, e1, hq, hB⟩ | ⟨hno, e1, hB⟩
    · cases hs2 : cmdAt s with
      | none => rw [hs2] at ho; cases ho
      | some p =>
        obtain ⟨d, k'⟩ := p
        rw [hs2] at ho
        simp only [Option.map_some, Option.some.injEq, Prod.mk.injEq] at ho
        obtain ⟨rfl, rfl⟩ := ho
        have q1 := hq _ _ hs2
        have hc : readCmd s = some d := by unfold readCmd; rw [hs2]; exact if_pos rfl
        simp only [commandEnc, List.cons.injEq, Value.int.injEq, Value.string.injEq, true_and, and_true] at q1
        obtain ⟨rfl, rfl, rfl, rfl, rfl, rfl⟩ := q1
        refine ⟨?_, hB⟩
        rw [e1, readCmdAns, readCmdD, hc]
        rfl
    · have hn : readCmd s = none := by
        unfold readCmd
        cases hs2 : cmdAt s with
        | none => rfl
        | some p =>
          obtain ⟨d, k'⟩ := p
          simp only [Option.bind_some]
          refine if_neg fun q => hno s ?_
          rw [hs2]
          rw [Option.map_some, q]
      refine ⟨?_, hB⟩
      rw [e1, readCmdAns, readCmdD, hn]
      rfl

set_option maxRecDepth 1000000 in
set_option maxHeartbeats 4000000 in
theorem implReadCommand_any (s : ByteArray) (hs : s.size ≤ 1048576) (w : World) : Calls Tryd.prog 14 #[.string s] w fun e w' => e = .returned (readCmdAns s) ∧ Below w.heap.size w w' := by
  have hX := below_more (Below.refl w.heap.size w) (.cells #[.int .i64 0, .int .i64 0, .int .i64 0, .string ⟨#[]⟩, .string ⟨#[]⟩, .int .i64 0] 37)
  have P0 : Hid (BlockIs (w.alloc (.cells #[.int .i64 0, .int .i64 0, .int .i64 0, .string ⟨#[]⟩, .string ⟨#[]⟩, .int .i64 0] 37)) w.heap.size 37 [.int .i64 0, .int .i64 0, .int .i64 0, .string ⟨#[]⟩, .string ⟨#[]⟩, .int .i64 0]) := heap_alloc_new w _
  have B0 := hid hX
  have hl : w.heap.size < (w.alloc (.cells #[.int .i64 0, .int .i64 0, .int .i64 0, .string ⟨#[]⟩, .string ⟨#[]⟩, .int .i64 0] 37)).heap.size := P0.out.lt
  clear hX
  obtain ⟨w0, hw0⟩ : ∃ W, w.alloc (.cells #[.int .i64 0, .int .i64 0, .int .i64 0, .string ⟨#[]⟩, .string ⟨#[]⟩, .int .i64 0] 37) = W := ⟨_, rfl⟩
  rw [hw0] at P0 B0 hl
  have cW := hid (wholeCmd_read s hs w0)
  unfold readCmdAns at cW ⊢
  obtain ⟨d, hd⟩ : ∃ d, readCmdD s = d := ⟨_, rfl⟩
  obtain ⟨ok, hok⟩ : ∃ d, (readCmd s).isSome = d := ⟨_, rfl⟩
  rw [hd, hok] at cW ⊢
  clear hd hok
  obtain ⟨x0, x1, x2, x3, x4, x5⟩ := d
  dsimp only at cW ⊢
  go_enter Tryd.func14, Tryd.ntmps14
  go_wp2_with fail
  refine cW.out.mono ?_
  rintro e w1 ⟨rfl, hb⟩
  clear hw0
  have P1 := hid (P0.out.on hb P0.out.lt)
  have B1 := hid (below_via B0.out hb)
  clear hb P0 B0 cW
  have c0 := P1.out.cell (j := 0) rfl
  have f0 := P1.out.thaw 0
  have c1 := P1.out.cell (j := 1) rfl
  have f1 := P1.out.thaw 1
  have c2 := P1.out.cell (j := 2) rfl
  have f2 := P1.out.thaw 2
  have c3 := P1.out.cell (j := 3) rfl
  have f3 := P1.out.thaw 3
  have c4 := P1.out.cell (j := 4) rfl
  have f4 := P1.out.thaw 4
  have c5 := P1.out.cell (j := 5) rfl
  have f5 := P1.out.thaw 5
  go_wp2
  have PZ := ((((((P1.out.set 0 (.int .i64 x0)).set 1 (.int .i64 x1)).set 2 (.int .i64 x2)).set 3 (.string x3)).set 4 (.string x4)).set 5 (.int .i64 x5))
  have BZ := ((((((B1.out.setCell (p := ⟨w.heap.size, 0, none⟩) (Nat.le_refl _) (.int .i64 x0)).setCell (p := ⟨w.heap.size, 1, none⟩) (Nat.le_refl _) (.int .i64 x1)).setCell (p := ⟨w.heap.size, 2, none⟩) (Nat.le_refl _) (.int .i64 x2)).setCell (p := ⟨w.heap.size, 3, none⟩) (Nat.le_refl _) (.string x3)).setCell (p := ⟨w.heap.size, 4, none⟩) (Nat.le_refl _) (.string x4)).setCell (p := ⟨w.heap.size, 5, none⟩) (Nat.le_refl _) (.int .i64 x5))
  have d0 := PZ.cell (j := 0) rfl
  have d1 := PZ.cell (j := 1) rfl
  have d2 := PZ.cell (j := 2) rfl
  have d3 := PZ.cell (j := 3) rfl
  have d4 := PZ.cell (j := 4) rfl
  have d5 := PZ.cell (j := 5) rfl
  refine bodyPost_ret (v := .tuple #[.agg #[.int .i64 x0, .int .i64 x1, .int .i64 x2, .string x3, .string x4, .int .i64 x5], .bool ok]) (by simp [results, Tryd.results14, go_sem, d0, d1, d2, d3, d4, d5]) rfl ?_
  exact ⟨rfl, BZ⟩
end Go.Proofs.YtihgkocfgjihhaaDoor
