/-
  A stream in memory: read and written whole.
-/
import Derived.Test.YthkkhmmcgjcedaaPlainStr
import Derived.Test.YthkkhmmcgjcedaaRows
import Derived.Laws.CopyOwn
import Derived.Laws.Tables
import Derived.Deep.MidRow
namespace Go.Proofs.Ythkkhmmcgjcedaa
open Go.RowKit

set_option maxRecDepth 1000000 in
theorem str_size : (Try.prog.info? 42).map (·.size) = some 13 := by kernel_rfl
/-- a stream is read whole -/
theorem load_str {W : World} {b : Nat} {t : TypeId} {cs : List Value} {r : List Value} (hb : BlockIs W b t (cs ++ r)) (hn : cs.length = 13) : (Instr.loadAt 42 (.pointer (some ⟨b, 0, none⟩))).run Try.prog W = .ok (.agg cs.toArray) W := by
  refine run_loadAt_mid W b 0 42 cs _ (fun j v hv => ?_) Try.underlying42 rfl (by rw [str_size, hn])
  rw [Nat.zero_add]
  exact hb.cell (by rw [List.getElem?_append_left (List.getElem?_eq_some_iff.1 hv).1]; exact hv)
theorem wpList_load_str {ops : Array Oper} {rest : List Oper} {op : Oper} {a : Act} {w : World} {Q : Exit → Act → World → Prop} {b : Nat} {t : TypeId} {cs : List Value} (hb : BlockIs w b t cs) (hn : cs.length = 13) (hgd : op.guard = none) (x : Operand) (ho : op.op = .load 42 x)
    (hx : a.eval x = .pointer (some ⟨b, 0, none⟩)) (h : wpList Try.prog ops Q rest (a.put op.dst (.agg cs.toArray)) w) : wpList Try.prog ops Q (op :: rest) a w :=
  wpList_plain hgd fun _ hK => by
    unfold Oper.wp execOp
    simp only [ho, hx, load_str (r := []) (by rw [List.append_nil]; exact hb) hn, Sem.run_bind, Sem.run_pure, Result.andThen_ok]
    exact hK _ _ h
/-- a stream is written whole -/
theorem store_str {W : World} {b : Nat} {cs : List Value} (hb : BlockIs W b 42 cs) (hn : cs.length = 13) {A : Array Value} (hA : A.size = 13) (h1 : A.all (·.oneCell') = true) : (Instr.storeAt 42 (.pointer (some ⟨b, 0, none⟩)) (.agg A)).run Try.prog W = .ok () (W.setRow b A) := by
  simp only [Instr.storeAt, Instr.sureAddr, Sem.run_bind, Sem.run_pure, Result.andThen_ok, run_storeVar_row W b 42 42 cs.toArray A hb (by rw [str_size, hA]) (by simp [hn, hA]) h1]
theorem store_block {W : World} {b : Nat} {cs : List Value} {t : TypeId} (hb : BlockIs W b t cs) (A : Array Value) : BlockIs (W.setRow b A) b t A.toList := setRow_heap W b _ _ _ _ hb
theorem block_setRow {W : World} {b g : Nat} {cs : List Value} {t : TypeId} (hb : BlockIs W g t cs) (hg : b ≠ g) (A : Array Value) : BlockIs (W.setRow b A) g t cs := by
  unfold BlockIs
  rw [setRow_other W b g A (by omega)]
  exact hb
theorem wpList_store_str {ops : Array Oper} {rest : List Oper} {op : Oper} {a : Act} {w : World} {Q : Exit → Act → World → Prop} {b : Nat} {cs : List Value} (hb : BlockIs w b 42 cs) (hn : cs.length = 13) (hgd : op.guard = none) (x y : Operand) (ho : op.op = .store 42 x y)
    (A : Array Value) (hx : a.eval x = .pointer (some ⟨b, 0, none⟩)) (hy : a.eval y = .agg A) (hA : A.size = 13) (h1 : A.all (·.oneCell') = true)
    (h : wpList Try.prog ops Q rest (a.put op.dst undef) (w.setRow b A)) : wpList Try.prog ops Q (op :: rest) a w :=
  wpList_plain hgd fun _ hK => by
    unfold Oper.wp execOp
    simp only [ho, hx, hy, store_str hb hn hA h1, Sem.run_bind, Sem.run_pure, Result.andThen_ok]
    exact hK _ _ h
/-- a box that is written whole is as if it had been laid so -/
theorem str_over (w : World) (c c' : Array Value) (t : TypeId) : (w.alloc (.cells c t)).setRow w.heap.size c' = w.alloc (.cells c' t) := by
  simp only [World.setRow, World.alloc]
  congr 1
  apply Array.ext_getElem?
  intro i
  rw [Array.getElem?_modify]
  by_cases h : w.heap.size = i
  · subst h
    simp
  · have h' : ¬ i = w.heap.size := fun e => h e.symm
    simp [h, h', Array.getElem?_push]
theorem strCells_all (d : StrD) (ao : Option Addr) (cap : Nat) : (strCells d ao cap).toArray.all (·.oneCell') = true := by simp [strCells, Value.oneCell']
/-- the cells of no stream yet -/
def strZero : List Value := [.int .i64 0, .int .i64 0, .int .i64 0, .int .i64 0, .string ⟨#[]⟩, .int .i64 0, .int .i64 0, .bool false, .string ⟨#[]⟩, .slice none 0 0, .bool false, .int .i64 0, .int .i64 0]
end Go.Proofs.Ythkkhmmcgjcedaa
