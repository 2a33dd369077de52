/-
  A wheel in memory: slots go over by copy, a wheel is read and written whole.
-/
import Derived.Test.YtbajffpkfjkolaaPlainWheel
import Derived.Test.YtbajffpkfjkolaaRows
import Derived.Laws.CopyOwn
import Derived.Laws.Tables
import Derived.Deep.MidRow
namespace Go.Proofs.Ytbajffpkfjkolaa
open Go.RowKit

/-- elements of several cells each go over by copy, into the beginning of a row -/
theorem run_copy_part {P : Program} (w : World) (dT sT ty elem : TypeId) (g dLen dCap : Nat) (a : Addr) (sLen sCap size : Nat) (cur : Array Value) (t : TypeId) (cs : List Value)
    (hu : P.underlying dT = some (.slice elem)) (hs : (P.info? elem).map (·.size) = some size) (hg : w.heap[g]? = some (.cells cur t (0, 0))) (hn : cs.length = Nat.min sLen dLen * size)
    (hsrc : ∀ j v, cs[j]? = some v → w.cell? (a.add j) = some v) (hfit : cs.length ≤ cur.size) (h1 : ∀ v ∈ cs, v.oneCell' = true) :
    (Builtin.copy_ #[dT, sT] ty #[.slice (some ⟨g, 0, none⟩) dLen dCap, .slice (some a) sLen sCap]).run P w = .ok (goInt (Nat.min sLen dLen)) (w.setRow g (cs ++ cur.toList.drop cs.length).toArray) := by
  have hl := run_loadCells_list (P := P) w a cs hsrc
  have hst := run_storeCells_at P g 0 t cs 0 cur w hg (by omega) h1
  rw [Nat.zero_add, Nat.zero_add, List.take_zero, List.nil_append] at hst
  cases hq : P.info? elem with
  | none => simp [hq] at hs
  | some i =>
    have hi : i.size = size := by simpa [hq] using hs
    simp [Builtin.copy_, run_underlying hu, Builtin.lenOf, Builtin.firstCells, sizeOf, typeInfo, hq, hi, ← hn, hl, hst]

/-- a cell of slots that lie in memory -/
theorem slots_cells {w : World} {b off : Nat} {l : List SlotD} (h : ∀ j (hj : j < l.length), w.cell? ⟨b, off + j * 2, none⟩ = some (.int .i64 l[j].own) ∧ w.cell? ⟨b, off + j * 2 + 1, none⟩ = some (.string l[j].text)) :
    ∀ j u, (slotCells l)[j]? = some u → w.cell? ((⟨b, off, none⟩ : Addr).add j) = some u := by
  intro j u hu
  have hlt : j < (slotCells l).length := (List.getElem?_eq_some_iff.1 hu).1
  rw [slotCells_length] at hlt
  have hj : j / 2 < l.length := by omega
  have hr := row_at slotEnc 2 (fun _ => rfl) l [] (j / 2) (j % 2) hj (Nat.mod_lt _ (by omega))
  rw [List.append_nil, show j / 2 * 2 + j % 2 = j by omega] at hr
  have hu' : (slotEnc l[j / 2])[j % 2]? = some u := by rw [← hr]; exact hu
  have hadd : (⟨b, off, none⟩ : Addr).add j = ⟨b, off + j, none⟩ := Addr.add_lit _ _ _
  rw [hadd]
  obtain ⟨h0, h1⟩ := h (j / 2) hj
  have h3 : j % 2 = 0 ∨ j % 2 = 1 := by omega
  rcases h3 with e | e
  · rw [e] at hu'
    simp only [slotEnc, List.getElem?_cons_zero, Option.some.injEq] at hu'
    rw [← hu', show off + j = off + j / 2 * 2 by omega]
    exact h0
  · rw [e] at hu'
    simp only [slotEnc, List.getElem?_cons_succ, List.getElem?_cons_zero, Option.some.injEq] at hu'
    rw [← hu', show off + j = off + j / 2 * 2 + 1 by omega]
    exact h1

/-- a wheel without slots yet -/
def wheel0 (n h t : Nat) : List Value := slotCells (List.replicate 8 slot0) ++ [.int .i64 n, .int .i64 h, .int .i64 t]
theorem wheel0_fill {l : List SlotD} (h8 : l.length ≤ 8) (h t : Nat) : slotCells l ++ (wheel0 l.length h t).drop (slotCells l).length = wheelC l h t := by
  rw [wheel0, wheelC, slotCells_length, List.drop_append_of_le_length (by rw [slotCells_length]; simp; omega), ← List.append_assoc]
  congr 1
  have e : List.replicate 8 slot0 = List.replicate l.length slot0 ++ List.replicate (8 - l.length) slot0 := by rw [List.replicate_append_replicate]; congr 1; omega
  have e2 : slotCells (List.replicate 8 slot0) = slotCells (List.replicate l.length slot0) ++ slotCells (List.replicate (8 - l.length) slot0) := by rw [e, slotCells, List.flatMap_append]; rfl
  rw [e2, List.drop_append, List.drop_of_length_le (by rw [slotCells_length]; simp), slotCells_length, List.length_replicate, Nat.sub_self, List.drop_zero, List.nil_append, padS, slotCells, slotCells, slotCells, List.flatMap_append]

theorem wheel0_one (n h t : Nat) : ∀ v ∈ wheel0 n h t, v.oneCell' = true := by
  intro v hv
  rcases List.mem_append.1 hv with hv | hv
  · exact slotCells_one _ v hv
  · simp at hv
    rcases hv with rfl | rfl | rfl <;> rfl
set_option maxRecDepth 1000000 in
theorem slot_size : (Try.prog.info? 42).map (·.size) = some 2 := by kernel_rfl
set_option maxRecDepth 1000000 in
theorem wheel_size : (Try.prog.info? 45).map (·.size) = some 19 := by kernel_rfl

/-- the slots of a ring go over into a wheel's array -/
theorem copy_wheel {W : World} {b : Nat} {ao : Option Addr} {l : List SlotD} {cap h t : Nat} (hp : (1 ≤ l.length ∧ l.length ≤ 8) ∧ h < l.length ∧ t < l.length) (hb : BlockIs W b 45 (wheel0 l.length h t)) (ha : SlotsAt W ao l) :
    ∃ W2, (Builtin.copy_ #[24, 24] 3 #[.slice (some ⟨b, 0, none⟩) 8 8, .slice ao l.length cap]).run Try.prog W = .ok (goInt l.length) W2 ∧ WheelIs W2 b l h t ∧ W2.heap.size = W.heap.size ∧ ∀ B w0, Below B w0 W → B ≤ b → Below B w0 W2 := by
  obtain ⟨⟨p1, p2⟩, p3, p4⟩ := hp
  obtain ⟨x, off, rfl, hc⟩ := ha (by intro e; rw [e] at p1; simp at p1)
  have hm : Nat.min l.length 8 = l.length := Nat.min_eq_left p2
  have hr := run_copy_part W 24 24 3 42 b 8 8 ⟨x, off, none⟩ l.length cap 2 _ 45 (slotCells l) Try.underlying24 slot_size hb (by rw [slotCells_length, hm]) (slots_cells hc) (by rw [slotCells_length]; show _ ≤ 19; omega) (slotCells_one l)
  rw [hm] at hr
  refine ⟨_, hr, ⟨?_, ⟨p1, p2⟩, p3, p4⟩, by simp [World.setRow], fun B w0 hB hl => below_setRow hB hl _⟩
  rw [show (wheel0 l.length h t).toArray.toList = wheel0 l.length h t from rfl, wheel0_fill p2]
  exact setRow_heap W b _ _ _ _ hb

/-- a wheel is read whole -/
theorem load_wheel {W : World} {b : Nat} {l : List SlotD} {h t : Nat} (hw : WheelIs W b l h t) : (Instr.loadAt 45 (.pointer (some ⟨b, 0, none⟩))).run Try.prog W = .ok (.agg (wheelC l h t).toArray) W := by
  refine run_loadAt_mid W b 0 45 (wheelC l h t) _ (fun j v hv => ?_) Try.underlying45 rfl (by rw [wheel_size, wheelC_length hw.2.1.2])
  rw [Nat.zero_add]
  exact hw.1.cell hv
/-- a wheel is written whole -/
theorem store_wheel {W : World} {b : Nat} {cs : List Value} (hb : BlockIs W b 45 cs) (hn : cs.length = 19) {A : Array Value} (hA : A.size = 19) (h1 : A.all (·.oneCell') = true) : (Instr.storeAt 45 (.pointer (some ⟨b, 0, none⟩)) (.agg A)).run Try.prog W = .ok () (W.setRow b A) := by
  simp only [Instr.storeAt, Instr.sureAddr, Sem.run_bind, Sem.run_pure, Result.andThen_ok, run_storeVar_row W b 45 45 cs.toArray A hb (by rw [wheel_size, hA]) (by simp [hn, hA]) h1]
theorem store_block {W : World} {b : Nat} {cs : List Value} {t : TypeId} (hb : BlockIs W b t cs) (A : Array Value) : BlockIs (W.setRow b A) b t A.toList := setRow_heap W b _ _ _ _ hb
theorem block_setRow {W : World} {b g : Nat} {cs : List Value} {t : TypeId} (hb : BlockIs W g t cs) (hg : b ≠ g) (A : Array Value) : BlockIs (W.setRow b A) g t cs := by
  unfold BlockIs
  rw [setRow_other W b g A (by omega)]
  exact hb
/-- a wheel is written whole, as the walk meets it -/
theorem wpList_store_wheel {ops : Array Oper} {rest : List Oper} {op : Oper} {a : Act} {w : World} {Q : Exit → Act → World → Prop} (hgd : op.guard = none) (x y : Operand) (ho : op.op = .store 45 x y)
    (b : Nat) (A : Array Value) (hx : a.eval x = .pointer (some ⟨b, 0, none⟩)) (hy : a.eval y = .agg A) (cs : List Value) (hb : BlockIs w b 45 cs) (hn : cs.length = 19) (hA : A.size = 19) (h1 : A.all (·.oneCell') = true)
    (h : wpList Try.prog ops Q rest (a.put op.dst undef) (w.setRow b A)) : wpList Try.prog ops Q (op :: rest) a w :=
  wpList_plain hgd fun _ hK => by
    unfold Oper.wp execOp
    simp only [ho, hx, hy, store_wheel hb hn hA h1, Sem.run_bind, Sem.run_pure, Result.andThen_ok]
    exact hK _ _ h
set_option maxRecDepth 1000000 in
theorem wheel_built (n h t : Nat) : Try.prog.built 45 [(1, .int .i64 n), (2, .int .i64 h), (3, .int .i64 t)] = some (wheel0 n h t).toArray := by kernel_rfl
/-- a wheel is built, as the walk meets it -/
theorem wpList_build_wheel {ops : Array Oper} {rest : List Oper} {o : Oper} {a : Act} {w : World} {Q : Exit → Act → World → Prop} (hg : o.guard = none) (x y z : Operand) (ho : o.op = .build 45 #[(1, x), (2, y), (3, z)])
    (n h t : Nat) (hx : a.eval x = .int .i64 n) (hy : a.eval y = .int .i64 h) (hz : a.eval z = .int .i64 t)
    (hh : wpList Try.prog ops Q rest (a.put o.dst (.agg (wheel0 n h t).toArray)) w) : wpList Try.prog ops Q (o :: rest) a w :=
  wpList_plain hg fun _ hK => by
    unfold Oper.wp execOp
    simp only [ho, hx, hy, hz, List.map_toArray, List.map_cons, List.map_nil, run_build w 45 #[(1, .int .i64 n), (2, .int .i64 h), (3, .int .i64 t)] (wheel0 n h t).toArray (wheel_built n h t), Sem.run_bind, Sem.run_pure, Result.andThen_ok]
    exact hK _ _ hh
set_option maxRecDepth 1000000 in
theorem wheel_built0 : Try.prog.built 45 [] = some (wheel0 0 0 0).toArray := by kernel_rfl
theorem wpList_build_wheel0 {ops : Array Oper} {rest : List Oper} {o : Oper} {a : Act} {w : World} {Q : Exit → Act → World → Prop} (hg : o.guard = none) (ho : o.op = .build 45 #[])
    (hh : wpList Try.prog ops Q rest (a.put o.dst (.agg (wheel0 0 0 0).toArray)) w) : wpList Try.prog ops Q (o :: rest) a w :=
  wpList_plain hg fun _ hK => by
    unfold Oper.wp execOp
    simp only [ho, List.map_toArray, List.map_nil, run_build w 45 #[] (wheel0 0 0 0).toArray wheel_built0, Sem.run_bind, Sem.run_pure, Result.andThen_ok]
    exact hK _ _ hh
theorem wheel_over (w : World) (c c' : Array Value) (t : TypeId) : (w.alloc (.cells c t)).setRow w.heap.size c' = w.alloc (.cells c' t) := by
  simp only [World.setRow, World.alloc]
  congr 1
  apply Array.ext_getElem?
  intro i
  rw [Array.getElem?_modify]
  by_cases h : w.heap.size = i
  · subst h
    simp
  · have h' : ¬ i = w.heap.size := fun e => h e.symm
    simp [h, h', Array.getElem?_push]
end Go.Proofs.Ytbajffpkfjkolaa
