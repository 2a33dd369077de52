/-
  Rows of Bits of the call's own: they grow.
-/
import Derived.Test.YtpknpodmoeaggabPutBits
import Derived.Test.YtpknpodmoeaggabOwnAt
import Derived.Test.YtpknpodmoeaggabPlainRows
import Derived.OwnWalk
import Derived.Laws.AppendOwn
namespace Go.Proofs.Ytpknpodmoeaggab
open Go.RowKit

theorem bitsR_one (a : BitsD) : ∀ u ∈ bitsEnc a, u.oneCell' = true := by
  intro u hu
  simp only [bitsEnc, List.mem_cons, List.not_mem_nil, or_false] at hu
  rcases hu with rfl | rfl | rfl | rfl | rfl | rfl <;> rfl
theorem bitsR_all (l : List BitsD) : ∀ u ∈ bitsCells l, u.oneCell' = true := by
  intro u hu
  obtain ⟨a, _, h⟩ := List.mem_flatMap.1 hu
  exact bitsR_one a u h
theorem bitsR_snoc (l : List BitsD) (a : BitsD) : bitsCells (l ++ [a]) = bitsCells l ++ bitsEnc a := by simp [bitsCells]
theorem bitsR_append (l m : List BitsD) : bitsCells (l ++ m) = bitsCells l ++ bitsCells m := by simp [bitsCells]
/-- the cells of a list that lies at an address -/
theorem bitss_cells {w : World} {b off : Nat} {l : List BitsD} (h : ∀ j (hj : j < l.length), w.cell? ⟨b, off + j * 6, none⟩ = some (.int .i64 l[j].src) ∧ w.cell? ⟨b, off + j * 6 + 1, none⟩ = some (.int .i64 l[j].ident) ∧ w.cell? ⟨b, off + j * 6 + 2, none⟩ = some (.slice l[j].tx.ad l[j].tx.len l[j].tx.cap) ∧ w.cell? ⟨b, off + j * 6 + 3, none⟩ = some (.slice l[j].ax.ad l[j].ax.len l[j].ax.cap) ∧ w.cell? ⟨b, off + j * 6 + 4, none⟩ = some (.int .i64 l[j].total) ∧ w.cell? ⟨b, off + j * 6 + 5, none⟩ = some (.int .i64 l[j].lim)) :
    ∀ j u, (bitsCells l)[j]? = some u → w.cell? ((⟨b, off, none⟩ : Addr).add j) = some u := by
  intro j u hu
  have hlt : j < (bitsCells l).length := (List.getElem?_eq_some_iff.1 hu).1
  rw [bitsCells_length] at hlt
  have hj : j / 6 < l.length := by omega
  have hr := row_at bitsEnc 6 (fun _ => rfl) l [] (j / 6) (j % 6) hj (Nat.mod_lt _ (by omega))
  rw [List.append_nil, show j / 6 * 6 + j % 6 = j by omega] at hr
  have hu' : (bitsEnc l[j / 6])[j % 6]? = some u := by rw [← hr]; exact hu
  have hadd : (⟨b, off, none⟩ : Addr).add j = ⟨b, off + j, none⟩ := Addr.add_lit _ _ _
  rw [hadd]
  obtain ⟨h0, h1, h2, h3, h4, h5⟩ := h (j / 6) hj
  have h3 : j % 6 = 0 ∨ j % 6 = 1 ∨ j % 6 = 2 ∨ j % 6 = 3 ∨ j % 6 = 4 ∨ j % 6 = 5 := by omega
  rcases h3 with e | e | e | e | e | e
  · rw [e] at hu'
    rw [show off + j = off + j / 6 * 6 by omega, h0]
    exact hu'
  · rw [e] at hu'
    rw [show off + j = off + j / 6 * 6 + 1 by omega, h1]
    exact hu'
  · rw [e] at hu'
    rw [show off + j = off + j / 6 * 6 + 2 by omega, h2]
    exact hu'
  · rw [e] at hu'
    rw [show off + j = off + j / 6 * 6 + 3 by omega, h3]
    exact hu'
  · rw [e] at hu'
    rw [show off + j = off + j / 6 * 6 + 4 by omega, h4]
    exact hu'
  · rw [e] at hu'
    rw [show off + j = off + j / 6 * 6 + 5 by omega, h5]
    exact hu'
theorem bitsR_below {w w2 : World} {base n : Nat} {v : Value} {xs : List Value} (h : w.ownsRow base 60 6 v n xs) (hb : Below w.heap.size w w2) : w2.ownsRow base 60 6 v n xs := by
  refine h.kept (grown_of_below hb none) ?_
  cases v.ownBlock with
  | none => exact Or.inl rfl
  | some g => exact Or.inr (by simp)
theorem bitsR_block {w : World} {base n j : Nat} {v : Value} {xs : List Value} (h : w.ownsRow base 60 6 v n xs) (hv : v.ownBlock = some j) : base ≤ j ∧ ∃ cs, BlockIs w j 60 cs := by
  rcases h.2 with ⟨rfl, _⟩ | ⟨g, cap, cur, rfl, hb, hh, _⟩
  · simp [Value.ownBlock] at hv
  · have : g = j := by simpa [Value.ownBlock] using hv
    subst this
    exact ⟨hb, cur.toList, by unfold BlockIs; rw [hh]⟩
/-- a block of another type stands where a row grows -/
theorem bitsR_other {w w1 : World} {base n g : Nat} {t : TypeId} {v : Value} {xs cs : List Value} (h : BlockIs w g t cs) (hr : w.ownsRow base 60 6 v n xs) (hg : w.grownBy w1 v.ownBlock) (ht : t ≠ 60) : BlockIs w1 g t cs := by
  have hlt := h.lt
  unfold BlockIs at h ⊢
  rw [hg.block g hlt ?_]
  · exact h
  · intro e
    obtain ⟨_, cs2, h2⟩ := bitsR_block hr e.symm
    unfold BlockIs at h2
    rw [h] at h2
    simp only [Option.some.injEq, Obj.cells.injEq] at h2
    exact ht h2.2.1
theorem bitsR_down {w w1 w2 : World} {m base n : Nat} {v : Value} {xs : List Value} (h : Below m w w1) (hr : w1.ownsRow base 60 6 v n xs) (hg : w1.grownBy w2 v.ownBlock) (hb : m ≤ base) (hm : m ≤ w1.heap.size) : Below m w w2 :=
  h.grown hg hm (fun k e => by have := (bitsR_block hr e).1; omega)
theorem bitsR_nil (w : World) (m : Nat) (hm : m ≤ w.heap.size) : World.ownsRow (w.alloc (.cells #[] 60)) m 60 6 (.slice (some ⟨w.heap.size, 0, none⟩) 0 0) 0 (bitsCells []) :=
  row_down (World.ownsRow_made w (size := 6) (e := 60) #[] 0 (Nat.le_refl _) (Nat.zero_le _) rfl) hm
/-- one that is laid by itself -/
theorem bitsR_new (w : World) (a : BitsD) : ∀ j u, (bitsEnc a)[j]? = some u → (w.alloc (.cells #[.int .i64 a.src, .int .i64 a.ident, .slice a.tx.ad a.tx.len a.tx.cap, .slice a.ax.ad a.ax.len a.ax.cap, .int .i64 a.total, .int .i64 a.lim] 60)).cell? ((⟨w.heap.size, 0, none⟩ : Addr).add j) = some u := by
  intro j u hu
  rw [Addr.add_lit, Nat.zero_add]
  exact (show BlockIs _ _ 60 (bitsEnc a) from heap_alloc_new w _).cell hu
/-- a list behind a row of the call's own -/
theorem append_bitss {W : World} {v : Value} {base c : Nat} {L M : List BitsD} {ao : Option Addr} (hn : L.length + M.length ≤ 2097153) (hbase : base ≤ W.heap.size) (hr : W.ownsRow base 60 6 v L.length (bitsCells L)) (hM : BitssAt W ao M) :
    ∃ v' W', (Builtin.append_ #[39, 39] 39 #[v, .slice ao M.length c]).run Try.prog W = .ok v' W' ∧ W'.ownsRow base 60 6 v' (L ++ M).length (bitsCells (L ++ M)) ∧ W.grownBy W' v.ownBlock := by
  obtain ⟨i0, hi, hz0, hz1, hz2⟩ := info_parts toBits_info
  rw [List.length_append, bitsR_append]
  cases ao with
  | none =>
    have hM0 : M = [] := by
      by_cases hne : M = []
      · exact hne
      · obtain ⟨b, off, e, _⟩ := hM hne
        cases e
    subst hM0
    refine ⟨v, W, ?_, by simpa [bitsCells] using hr, World.grownBy.refl _ _⟩
    obtain ⟨va, vc, rfl⟩ := row_shape hr
    have hlc : L.length ≤ vc := by
      rcases hr.2 with ⟨hq, hz⟩ | ⟨_, cp, _, hq, _, _, hle, _⟩
      · omega
      · simp only [Value.slice.injEq] at hq
        omega
    cases va <;> simp [Builtin.append_, run_underlying Try.underlying39, sizeOf, typeInfo, hi, Builtin.lenOf, Builtin.firstCells, storeCells, hlc]
  | some ad =>
    have hnews : ∀ j u, (bitsCells M)[j]? = some u → W.cell? (ad.add j) = some u := by
      by_cases hne : M = []
      · subst hne
        intro j u hu
        simp [bitsCells] at hu
      · obtain ⟨b, off, e, hc⟩ := hM hne
        cases e
        exact bitss_cells hc
    obtain ⟨v', W', h1, h2, h3, _⟩ := run_append_own (P := Try.prog) W base 39 39 60 i0 _ 6 80 Try.underlying39 hi hz0 hz1 hz2 rfl (by decide) v L.length _ hr ad M.length c (bitsCells M) (bitsCells_length M) hnews (bitsR_all M) (by unfold maxLen; omega) (by omega) hbase
    exact ⟨v', W', h1, h2, h3⟩
theorem wpList_append_bitss {w : World} {ops : Array Oper} {rest : List Oper} {o : Oper} {a : Act} {Q : Exit → Act → World → Prop} (hgd : o.guard = none) (s x : Operand)
    (ho : o.op = .call { callee := .builtin .append, args := #[s, x], argTypes := #[39, 39] }) (hty : o.type = 39) {v : Value} {base c m N : Nat} {L M : List BitsD} {ao : Option Addr} (hs : a.eval s = v) (hx : a.eval x = .slice ao m c)
    (hm : M.length = m) (hN : (L ++ M).length = N) (hn : N ≤ 2097153) (hbase : base ≤ w.heap.size) (hr : w.ownsRow base 60 6 v L.length (bitsCells L)) (hM : BitssAt w ao M)
    (h : ∀ va vc w1, w1.ownsRow base 60 6 (.slice va N vc) N (bitsCells (L ++ M)) → w.grownBy w1 v.ownBlock → wpList Try.prog ops Q rest (a.put o.dst (.slice va N vc)) w1) : wpList Try.prog ops Q (o :: rest) a w := by
  subst hm hN
  obtain ⟨v', W', hrun, h2, h3⟩ := append_bitss (c := c) (by rw [← List.length_append]; exact hn) hbase hr hM
  obtain ⟨va, vc, rfl⟩ := row_shape h2
  refine wpList_plain hgd fun K hK => ?_
  unfold Oper.wp
  simp [execOp, ho, hty, resolve, invoke, builtin, hs, hx, hrun, Result.andThen]
  have h4 := h va vc W' h2 h3
  rw [List.length_append] at h4
  exact hK _ _ h4
/-- they lie there -/
theorem bitsR_at {w : World} {base : Nat} {va : Option Addr} {vc : Nat} {l : List BitsD} (h : w.ownsRow base 60 6 (.slice va l.length vc) l.length (bitsCells l)) : BitssAt w va l := by
  rcases h.2 with ⟨hv, h0⟩ | ⟨g, cp, cur, hv, _, hh, _, _, _, ht⟩
  · exact fun hne => absurd (List.length_eq_zero_iff.1 h0) hne
  · simp only [Value.slice.injEq] at hv
    obtain ⟨rfl, _, rfl⟩ := hv
    have hcur : cur.toList = bitsCells l ++ cur.toList.drop (l.length * 6) := by rw [← ht, List.take_append_drop]
    exact bitssAt_of (r := cur.toList.drop (l.length * 6)) (by unfold BlockIs; rw [hh, ← hcur])
end Go.Proofs.Ytpknpodmoeaggab
