/-
  Rows of Late of the call's own: they grow.
-/
import Derived.Test.YthbdkfdcbglpoaaPutLate
import Derived.Test.YthbdkfdcbglpoaaOwnAt
import Derived.Test.YthbdkfdcbglpoaaPlainRows
import Derived.OwnWalk
import Derived.Laws.AppendOwn
namespace Go.Proofs.Ythbdkfdcbglpoaa
open Go.RowKit

theorem lateR_one (a : LateD) : ∀ u ∈ lateEnc a, u.oneCell' = true := by
  intro u hu
  simp only [lateEnc, List.mem_cons, List.not_mem_nil, or_false] at hu
  rcases hu with rfl | rfl <;> rfl
theorem lateR_all (l : List LateD) : ∀ u ∈ lateCells l, u.oneCell' = true := by
  intro u hu
  obtain ⟨a, _, h⟩ := List.mem_flatMap.1 hu
  exact lateR_one a u h
theorem lateR_snoc (l : List LateD) (a : LateD) : lateCells (l ++ [a]) = lateCells l ++ lateEnc a := by simp [lateCells]
theorem lateR_append (l m : List LateD) : lateCells (l ++ m) = lateCells l ++ lateCells m := by simp [lateCells]
/-- the cells of a list that lies at an address -/
theorem lates_cells {w : World} {b off : Nat} {l : List LateD} (h : ∀ j (hj : j < l.length), w.cell? ⟨b, off + j * 2, none⟩ = some (.int .i64 l[j].num) ∧ w.cell? ⟨b, off + j * 2 + 1, none⟩ = some (.string l[j].text)) :
    ∀ j u, (lateCells l)[j]? = some u → w.cell? ((⟨b, off, none⟩ : Addr).add j) = some u := by
  intro j u hu
  have hlt : j < (lateCells l).length := (List.getElem?_eq_some_iff.1 hu).1
  rw [lateCells_length] at hlt
  have hj : j / 2 < l.length := by omega
  have hr := row_at lateEnc 2 (fun _ => rfl) l [] (j / 2) (j % 2) hj (Nat.mod_lt _ (by omega))
  rw [List.append_nil, show j / 2 * 2 + j % 2 = j by omega] at hr
  have hu' : (lateEnc l[j / 2])[j % 2]? = some u := by rw [← hr]; exact hu
  have hadd : (⟨b, off, none⟩ : Addr).add j = ⟨b, off + j, none⟩ := Addr.add_lit _ _ _
  rw [hadd]
  obtain ⟨h0, h1⟩ := h (j / 2) hj
  have h3 : j % 2 = 0 ∨ j % 2 = 1 := by omega
  rcases h3 with e | e
  · rw [e] at hu'
    rw [show off + j = off + j / 2 * 2 by omega, h0]
    exact hu'
  · rw [e] at hu'
    rw [show off + j = off + j / 2 * 2 + 1 by omega, h1]
    exact hu'
theorem lateR_below {w w2 : World} {base n : Nat} {v : Value} {xs : List Value} (h : w.ownsRow base 60 2 v n xs) (hb : Below w.heap.size w w2) : w2.ownsRow base 60 2 v n xs := by
  refine h.kept (grown_of_below hb none) ?_
  cases v.ownBlock with
  | none => exact Or.inl rfl
  | some g => exact Or.inr (by simp)
theorem lateR_block {w : World} {base n j : Nat} {v : Value} {xs : List Value} (h : w.ownsRow base 60 2 v n xs) (hv : v.ownBlock = some j) : base ≤ j ∧ ∃ cs, BlockIs w j 60 cs := by
  rcases h.2 with ⟨rfl, _⟩ | ⟨g, cap, cur, rfl, hb, hh, _⟩
  · simp [Value.ownBlock] at hv
  · have : g = j := by simpa [Value.ownBlock] using hv
    subst this
    exact ⟨hb, cur.toList, by unfold BlockIs; rw [hh]⟩
/-- a block of another type stands where a row grows -/
theorem lateR_other {w w1 : World} {base n g : Nat} {t : TypeId} {v : Value} {xs cs : List Value} (h : BlockIs w g t cs) (hr : w.ownsRow base 60 2 v n xs) (hg : w.grownBy w1 v.ownBlock) (ht : t ≠ 60) : BlockIs w1 g t cs := by
  have hlt := h.lt
  unfold BlockIs at h ⊢
  rw [hg.block g hlt ?_]
  · exact h
  · intro e
    obtain ⟨_, cs2, h2⟩ := lateR_block hr e.symm
    unfold BlockIs at h2
    rw [h] at h2
    simp only [Option.some.injEq, Obj.cells.injEq] at h2
    exact ht h2.2.1
theorem lateR_down {w w1 w2 : World} {m base n : Nat} {v : Value} {xs : List Value} (h : Below m w w1) (hr : w1.ownsRow base 60 2 v n xs) (hg : w1.grownBy w2 v.ownBlock) (hb : m ≤ base) (hm : m ≤ w1.heap.size) : Below m w w2 :=
  h.grown hg hm (fun k e => by have := (lateR_block hr e).1; omega)
theorem lateR_nil (w : World) (m : Nat) (hm : m ≤ w.heap.size) : World.ownsRow (w.alloc (.cells #[] 60)) m 60 2 (.slice (some ⟨w.heap.size, 0, none⟩) 0 0) 0 (lateCells []) :=
  row_down (World.ownsRow_made w (size := 2) (e := 60) #[] 0 (Nat.le_refl _) (Nat.zero_le _) rfl) hm
/-- one that is laid by itself -/
theorem lateR_new (w : World) (a : LateD) : ∀ j u, (lateEnc a)[j]? = some u → (w.alloc (.cells #[.int .i64 a.num, .string a.text] 60)).cell? ((⟨w.heap.size, 0, none⟩ : Addr).add j) = some u := by
  intro j u hu
  rw [Addr.add_lit, Nat.zero_add]
  exact (show BlockIs _ _ 60 (lateEnc a) from heap_alloc_new w _).cell hu
/-- a list behind a row of the call's own -/
theorem append_lates {W : World} {v : Value} {base c : Nat} {L M : List LateD} {ao : Option Addr} (hn : L.length + M.length ≤ 2097153) (hbase : base ≤ W.heap.size) (hr : W.ownsRow base 60 2 v L.length (lateCells L)) (hM : LatesAt W ao M) :
    ∃ v' W', (Builtin.append_ #[22, 22] 22 #[v, .slice ao M.length c]).run Try.prog W = .ok v' W' ∧ W'.ownsRow base 60 2 v' (L ++ M).length (lateCells (L ++ M)) ∧ W.grownBy W' v.ownBlock := by
  obtain ⟨i0, hi, hz0, hz1, hz2⟩ := info_parts toLate_info
  rw [List.length_append, lateR_append]
  cases ao with
  | none =>
    have hM0 : M = [] := by
      by_cases hne : M = []
      · exact hne
      · obtain ⟨b, off, e, _⟩ := hM hne
        cases e
    subst hM0
    refine ⟨v, W, ?_, by simpa [lateCells] using hr, World.grownBy.refl _ _⟩
    obtain ⟨va, vc, rfl⟩ := row_shape hr
    have hlc : L.length ≤ vc := by
      rcases hr.2 with ⟨hq, hz⟩ | ⟨_, cp, _, hq, _, _, hle, _⟩
      · omega
      · simp only [Value.slice.injEq] at hq
        omega
    cases va <;> simp [Builtin.append_, run_underlying Try.underlying22, sizeOf, typeInfo, hi, Builtin.lenOf, Builtin.firstCells, storeCells, hlc]
  | some ad =>
    have hnews : ∀ j u, (lateCells M)[j]? = some u → W.cell? (ad.add j) = some u := by
      by_cases hne : M = []
      · subst hne
        intro j u hu
        simp [lateCells] at hu
      · obtain ⟨b, off, e, hc⟩ := hM hne
        cases e
        exact lates_cells hc
    obtain ⟨v', W', h1, h2, h3, _⟩ := run_append_own (P := Try.prog) W base 22 22 60 i0 _ 2 24 Try.underlying22 hi hz0 hz1 hz2 rfl (by decide) v L.length _ hr ad M.length c (lateCells M) (lateCells_length M) hnews (lateR_all M) (by unfold maxLen; omega) (by omega) hbase
    exact ⟨v', W', h1, h2, h3⟩
theorem wpList_append_lates {w : World} {ops : Array Oper} {rest : List Oper} {o : Oper} {a : Act} {Q : Exit → Act → World → Prop} (hgd : o.guard = none) (s x : Operand)
    (ho : o.op = .call { callee := .builtin .append, args := #[s, x], argTypes := #[22, 22] }) (hty : o.type = 22) {v : Value} {base c m N : Nat} {L M : List LateD} {ao : Option Addr} (hs : a.eval s = v) (hx : a.eval x = .slice ao m c)
    (hm : M.length = m) (hN : (L ++ M).length = N) (hn : N ≤ 2097153) (hbase : base ≤ w.heap.size) (hr : w.ownsRow base 60 2 v L.length (lateCells L)) (hM : LatesAt w ao M)
    (h : ∀ va vc w1, w1.ownsRow base 60 2 (.slice va N vc) N (lateCells (L ++ M)) → w.grownBy w1 v.ownBlock → wpList Try.prog ops Q rest (a.put o.dst (.slice va N vc)) w1) : wpList Try.prog ops Q (o :: rest) a w := by
  subst hm hN
  obtain ⟨v', W', hrun, h2, h3⟩ := append_lates (c := c) (by rw [← List.length_append]; exact hn) hbase hr hM
  obtain ⟨va, vc, rfl⟩ := row_shape h2
  refine wpList_plain hgd fun K hK => ?_
  unfold Oper.wp
  simp [execOp, ho, hty, resolve, invoke, builtin, hs, hx, hrun, Result.andThen]
  have h4 := h va vc W' h2 h3
  rw [List.length_append] at h4
  exact hK _ _ h4
/-- they lie there -/
theorem lateR_at {w : World} {base : Nat} {va : Option Addr} {vc : Nat} {l : List LateD} (h : w.ownsRow base 60 2 (.slice va l.length vc) l.length (lateCells l)) : LatesAt w va l := by
  rcases h.2 with ⟨hv, h0⟩ | ⟨g, cp, cur, hv, _, hh, _, _, _, ht⟩
  · exact fun hne => absurd (List.length_eq_zero_iff.1 h0) hne
  · simp only [Value.slice.injEq] at hv
    obtain ⟨rfl, _, rfl⟩ := hv
    have hcur : cur.toList = lateCells l ++ cur.toList.drop (l.length * 2) := by rw [← ht, List.take_append_drop]
    exact latesAt_of (r := cur.toList.drop (l.length * 2)) (by unfold BlockIs; rw [hh, ← hcur])
end Go.Proofs.Ythbdkfdcbglpoaa
