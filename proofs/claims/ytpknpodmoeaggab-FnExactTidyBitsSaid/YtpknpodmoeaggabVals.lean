/-
  Rows of values of one cell each (texts, numbers): they lie at an address; rows of the call's own, which grow.
-/
import Derived.Test.YtpknpodmoeaggabOwnAt
import Derived.Test.YtpknpodmoeaggabPlainRows
import Derived.Test.YtpknpodmoeaggabPlainInts
import Derived.Test.YtpknpodmoeaggabRows
import Derived.OwnWalk
import Derived.Laws.AppendOwn
namespace Go.Proofs.Ytpknpodmoeaggab
open Go.RowKit

/-- values lie at an address, one behind the other -/
def ValsAt (w : World) (ao : Option Addr) (cs : List Value) : Prop := cs ≠ [] → ∃ b off, ao = some ⟨b, off, none⟩ ∧ ∀ j (hj : j < cs.length), w.cell? ⟨b, off + j, none⟩ = some cs[j]
theorem ValsAt.on {w w' : World} {ao : Option Addr} {cs : List Value} (h : ValsAt w ao cs) (hb : Below w.heap.size w w') : ValsAt w' ao cs := by
  intro h0
  obtain ⟨b, off, e1, e2⟩ := h h0
  exact ⟨b, off, e1, fun j hj => (hb.cell (p := ⟨b, off + j, none⟩) (World.block_lt_of_cell? w _ (e2 j hj))).trans (e2 j hj)⟩
theorem valsAt_of {w : World} {g : Nat} {t : TypeId} {cs r : List Value} (h : BlockIs w g t (cs ++ r)) : ValsAt w (some ⟨g, 0, none⟩) cs := by
  intro _
  refine ⟨g, 0, rfl, fun j hj => ?_⟩
  rw [Nat.zero_add]
  refine h.cell ?_
  rw [List.getElem?_append_left hj, List.getElem?_eq_getElem hj]
theorem OwnAt.vals {w : World} {t : TypeId} {cs : List Value} {n : Nat} {va : Option Addr} {lo hi : Nat} (h : OwnAt w t cs n va lo hi) (hn : cs.length = n) : ValsAt w va cs := by
  rcases h with h | ⟨g, r, rfl, _, _, h⟩
  · intro h0
    exact absurd (List.length_eq_zero_iff.1 (hn.trans h)) h0
  · exact valsAt_of h
theorem ValsAt.ints {w : World} {ao : Option Addr} {zs : List Int} (h : ValsAt w ao (intCells zs)) : IntsAt w ao zs := by
  intro h0
  obtain ⟨b, off, e1, e2⟩ := h (by intro e; apply h0; simpa [intCells] using e)
  exact ⟨b, off, e1, fun j hj => by simpa [intCells] using e2 j (by simpa [intCells] using hj)⟩
theorem vals_of_ints {w : World} {ao : Option Addr} {zs : List Int} (h : IntsAt w ao zs) : ValsAt w ao (intCells zs) := by
  intro h0
  obtain ⟨b, off, e1, e2⟩ := h (by intro e; apply h0; simp [intCells, e])
  exact ⟨b, off, e1, fun j hj => by simpa [intCells] using e2 j (by simpa [intCells] using hj)⟩
theorem st_one (l : List ByteArray) : ∀ u ∈ st l, u.oneCell' = true := by
  intro u hu
  obtain ⟨a, _, rfl⟩ := List.mem_map.1 hu
  rfl
theorem int_one (l : List Int) : ∀ u ∈ intCells l, u.oneCell' = true := by
  intro u hu
  obtain ⟨a, _, rfl⟩ := List.mem_map.1 hu
  rfl
theorem intCells_length (l : List Int) : (intCells l).length = l.length := by simp [intCells]
theorem intCells_append (l r : List Int) : intCells (l ++ r) = intCells l ++ intCells r := by simp [intCells]
set_option maxRecDepth 1000000 in
theorem vals_info9 : (Try.prog.info? 9).map (fun i => (i.zero, i.size, i.bytes)) = some (some (.string ⟨#[]⟩), 1, 16) := by kernel_rfl
set_option maxRecDepth 1000000 in
theorem vals_info3 : (Try.prog.info? 3).map (fun i => (i.zero, i.size, i.bytes)) = some (some (.int .i64 0), 1, 8) := by kernel_rfl
theorem rows_below {w w2 : World} {base size n : Nat} {t : TypeId} {v : Value} {xs : List Value} (h : w.ownsRow base t size v n xs) (hb : Below w.heap.size w w2) : w2.ownsRow base t size v n xs := by
  refine h.kept (grown_of_below hb none) ?_
  cases v.ownBlock with
  | none => exact Or.inl rfl
  | some g => exact Or.inr (by simp)
theorem own_of_row {w : World} {base size n : Nat} {t : TypeId} {va : Option Addr} {vc : Nat} {cs : List Value} (h : w.ownsRow base t size (.slice va n vc) n cs) : OwnAt w t cs n va base w.heap.size := by
  rcases h.2 with ⟨hv, h0⟩ | ⟨g, cp, cur, hv, hb, hh, hle, _, _, ht⟩
  · exact Or.inl h0
  · simp only [Value.slice.injEq] at hv
    obtain ⟨rfl, _, rfl⟩ := hv
    have hcur : cur.toList = cs ++ cur.toList.drop (n * size) := by rw [← ht, List.take_append_drop]
    have hk : BlockIs w g t (cs ++ cur.toList.drop (n * size)) := by unfold BlockIs; rw [hh, ← hcur]
    exact Or.inr ⟨g, _, rfl, hb, hk.lt, hk⟩
theorem row_cap {w : World} {base size n : Nat} {t : TypeId} {va : Option Addr} {vc : Nat} {cs : List Value} (h : w.ownsRow base t size (.slice va n vc) n cs) : n ≤ vc ∧ vc ≤ maxLen := by
  rcases h.2 with ⟨hv, h0⟩ | ⟨g, cp, cur, hv, hb, hh, hle, hm, _, ht⟩
  · simp only [Value.slice.injEq] at hv
    obtain ⟨_, rfl, rfl⟩ := hv
    exact ⟨Nat.le_refl _, Nat.zero_le _⟩
  · simp only [Value.slice.injEq] at hv
    obtain ⟨_, _, rfl⟩ := hv
    exact ⟨hle, hm⟩
theorem row_grow {m : Nat} {w w1 w2 : World} {base size n : Nat} {t : TypeId} {v : Value} {xs : List Value} (h : Below m w w1) (hr : w1.ownsRow base t size v n xs) (hg : w1.grownBy w2 v.ownBlock) (hb : m ≤ base) (hm : m ≤ w1.heap.size) : Below m w w2 :=
  h.grown hg hm (fun k e => by have := (hr.lt k e).1; omega)
/-- values behind a row of the call's own -/
theorem append_vals {S t : TypeId} {z : Value} {bs : Nat} (hu : Try.prog.underlying S = some (.slice t)) (hi : (Try.prog.info? t).map (fun i => (i.zero, i.size, i.bytes)) = some (some z, 1, bs)) (hz : z.cells.size = 1) (hbs : bs ≤ 16)
    {W : World} {v : Value} {base c : Nat} {xs ys : List Value} {ao : Option Addr} (hone : ∀ u ∈ ys, u.oneCell' = true) (hn : xs.length + ys.length ≤ 4194304) (hbase : base ≤ W.heap.size) (hr : W.ownsRow base t 1 v xs.length xs) (hM : ValsAt W ao ys) :
    ∃ v' W', (Builtin.append_ #[S, S] S #[v, .slice ao ys.length c]).run Try.prog W = .ok v' W' ∧ W'.ownsRow base t 1 v' (xs.length + ys.length) (xs ++ ys) ∧ W.grownBy W' v.ownBlock := by
  obtain ⟨i0, hi, hz0, hz1, hz2⟩ := info_parts hi
  cases ao with
  | none =>
    have hM0 : ys = [] := by
      by_cases hne : ys = []
      · exact hne
      · obtain ⟨b, off, e, _⟩ := hM hne
        cases e
    subst hM0
    refine ⟨v, W, ?_, by simpa using hr, World.grownBy.refl _ _⟩
    obtain ⟨va, vc, rfl⟩ := row_shape hr
    have hlc := (row_cap hr).1
    cases va <;> simp [Builtin.append_, run_underlying hu, sizeOf, typeInfo, hi, Builtin.lenOf, Builtin.firstCells, storeCells, hlc]
  | some ad =>
    have hnews : ∀ j u, ys[j]? = some u → W.cell? (ad.add j) = some u := by
      intro j u hj
      have hlt : j < ys.length := (List.getElem?_eq_some_iff.1 hj).1
      obtain ⟨b, off, e, hc⟩ := hM (by intro e; rw [e] at hlt; simp at hlt)
      cases e
      rw [Addr.add_lit, hc j hlt, ← hj, List.getElem?_eq_getElem hlt]
    have hmul : (xs.length + ys.length) * bs ≤ 140737488355328 := Nat.le_trans (Nat.mul_le_mul hn hbs) (by decide)
    obtain ⟨v', W', h1, h2, h3, _⟩ := run_append_own (P := Try.prog) W base S S t i0 z 1 bs hu hi hz0 hz1 hz2 hz (by decide) v xs.length xs hr ad ys.length c ys (by omega) hnews hone (by unfold maxLen; omega) hmul hbase
    exact ⟨v', W', h1, h2, h3⟩
theorem wpList_append_vals {S t : TypeId} {z : Value} {bs : Nat} (hu : Try.prog.underlying S = some (.slice t)) (hi : (Try.prog.info? t).map (fun i => (i.zero, i.size, i.bytes)) = some (some z, 1, bs)) (hz : z.cells.size = 1) (hbs : bs ≤ 16)
    {w : World} {ops : Array Oper} {rest : List Oper} {o : Oper} {a : Act} {Q : Exit → Act → World → Prop} (hgd : o.guard = none) (s x : Operand)
    (ho : o.op = .call { callee := .builtin .append, args := #[s, x], argTypes := #[S, S] }) (hty : o.type = S) {v : Value} {base c m n N : Nat} {xs ys : List Value} {ao : Option Addr} (hs : a.eval s = v) (hx : a.eval x = .slice ao m c)
    (hm : ys.length = m) (hn : xs.length = n) (hN : n + m = N) (hone : ∀ u ∈ ys, u.oneCell' = true) (hl : N ≤ 4194304) (hbase : base ≤ w.heap.size) (hr : w.ownsRow base t 1 v n xs) (hM : ValsAt w ao ys)
    (h : ∀ va vc w1, w1.ownsRow base t 1 (.slice va N vc) N (xs ++ ys) → w.grownBy w1 v.ownBlock → wpList Try.prog ops Q rest (a.put o.dst (.slice va N vc)) w1) : wpList Try.prog ops Q (o :: rest) a w := by
  subst hm hn hN
  obtain ⟨v', W', hrun, h2, h3⟩ := append_vals (c := c) hu hi hz hbs hone hl hbase hr hM
  obtain ⟨va, vc, rfl⟩ := row_shape h2
  refine wpList_plain hgd fun K hK => ?_
  unfold Oper.wp
  simp [execOp, ho, hty, resolve, invoke, builtin, hs, hx, hrun, Result.andThen]
  exact hK _ _ (h va vc W' h2 h3)
theorem vals_nil (w : World) (t : TypeId) (m : Nat) (hm : m ≤ w.heap.size) : World.ownsRow (w.alloc (.cells #[] t)) m t 1 (.slice (some ⟨w.heap.size, 0, none⟩) 0 0) 0 [] :=
  row_down (World.ownsRow_made w (size := 1) (e := t) #[] 0 (Nat.le_refl _) (Nat.zero_le _) rfl) hm
end Go.Proofs.Ytpknpodmoeaggab
