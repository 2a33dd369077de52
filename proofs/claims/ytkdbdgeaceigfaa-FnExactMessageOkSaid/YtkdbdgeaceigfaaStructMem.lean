/-
  A struct in memory, of any number of cells: read and written whole.
-/
import Derived.Test.YtkdbdgeaceigfaaRows
import Derived.Test.YtkdbdgeaceigfaaBlock
import Derived.Laws.CopyOwn
import Derived.Laws.Tables
import Derived.Deep.MidRow
namespace Go.Proofs.Ytkdbdgeaceigfaa
open Go.RowKit

/-- a struct is read whole -/
theorem load_whole {n : Nat} {T : TypeId} {fs : Array Field} (hu : Try.prog.underlying T = some (.struct fs)) (hs : (Try.prog.info? T).map (·.size) = some n) {W : World} {b : Nat} {t : TypeId} {cs : List Value} {r : List Value} (hb : BlockIs W b t (cs ++ r)) (hn : cs.length = n) : (Instr.loadAt T (.pointer (some ⟨b, 0, none⟩))).run Try.prog W = .ok (.agg cs.toArray) W := by
  refine run_loadAt_mid W b 0 T cs _ (fun j v hv => ?_) hu rfl (by rw [hs, hn])
  rw [Nat.zero_add]
  exact hb.cell (by rw [List.getElem?_append_left (List.getElem?_eq_some_iff.1 hv).1]; exact hv)
theorem wpList_load_whole {n : Nat} {T : TypeId} {fs : Array Field} (hu : Try.prog.underlying T = some (.struct fs)) (hs : (Try.prog.info? T).map (·.size) = some n) {ops : Array Oper} {rest : List Oper} {op : Oper} {a : Act} {w : World} {Q : Exit → Act → World → Prop} {b : Nat} {t : TypeId} {cs : List Value} (hb : BlockIs w b t cs) (hn : cs.length = n) (hgd : op.guard = none) (x : Operand) (ho : op.op = .load T x)
    (hx : a.eval x = .pointer (some ⟨b, 0, none⟩)) (h : wpList Try.prog ops Q rest (a.put op.dst (.agg cs.toArray)) w) : wpList Try.prog ops Q (op :: rest) a w :=
  wpList_plain hgd fun _ hK => by
    unfold Oper.wp execOp
    simp only [ho, hx, load_whole hu hs (r := []) (by rw [List.append_nil]; exact hb) hn, Sem.run_bind, Sem.run_pure, Result.andThen_ok]
    exact hK _ _ h
/-- a struct is written whole -/
theorem store_whole {n : Nat} {T : TypeId} (hs : (Try.prog.info? T).map (·.size) = some n) {W : World} {b : Nat} {cs : List Value} (hb : BlockIs W b T cs) (hn : cs.length = n) {A : Array Value} (hA : A.size = n) (h1 : A.all (·.oneCell') = true) : (Instr.storeAt T (.pointer (some ⟨b, 0, none⟩)) (.agg A)).run Try.prog W = .ok () (W.setRow b A) := by
  simp only [Instr.storeAt, Instr.sureAddr, Sem.run_bind, Sem.run_pure, Result.andThen_ok, run_storeVar_row W b T T cs.toArray A hb (by rw [hs, hA]) (by simp [hn, hA]) h1]
theorem whole_block {W : World} {b : Nat} {cs : List Value} {t : TypeId} (hb : BlockIs W b t cs) (A : Array Value) : BlockIs (W.setRow b A) b t A.toList := setRow_heap W b _ _ _ _ hb
theorem whole_other {W : World} {b g : Nat} {cs : List Value} {t : TypeId} (hb : BlockIs W g t cs) (hg : b ≠ g) (A : Array Value) : BlockIs (W.setRow b A) g t cs := by
  unfold BlockIs
  rw [setRow_other W b g A (by omega)]
  exact hb
theorem wpList_store_whole {n : Nat} {T : TypeId} (hs : (Try.prog.info? T).map (·.size) = some n) {ops : Array Oper} {rest : List Oper} {op : Oper} {a : Act} {w : World} {Q : Exit → Act → World → Prop} {b : Nat} {cs : List Value} (hb : BlockIs w b T cs) (hn : cs.length = n) (hgd : op.guard = none) (x y : Operand) (ho : op.op = .store T x y)
    (A : Array Value) (hx : a.eval x = .pointer (some ⟨b, 0, none⟩)) (hy : a.eval y = .agg A) (hA : A.size = n) (h1 : A.all (·.oneCell') = true)
    (h : wpList Try.prog ops Q rest (a.put op.dst undef) (w.setRow b A)) : wpList Try.prog ops Q (op :: rest) a w :=
  wpList_plain hgd fun _ hK => by
    unfold Oper.wp execOp
    simp only [ho, hx, hy, store_whole hs hb hn hA h1, Sem.run_bind, Sem.run_pure, Result.andThen_ok]
    exact hK _ _ h
end Go.Proofs.Ytkdbdgeaceigfaa
