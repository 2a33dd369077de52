/-
  What a pile's parts have; the walk of impl.textAt.
-/
import Derived.Test.YtklaneakdcnbaaaJoint18
import Derived.WalkSmall
namespace Go.Proofs.Ytklaneakdcnbaaa
open Go.RowKit Go.Maps

/-- the text of a part -/
def textB (e : BitD) (i : Nat) : ByteArray := e.texts.getD i ⟨#[]⟩
/-- the parts from here on -/
def runB (e : BitD) : Nat → ByteArray → Option ByteArray
  | 0, s => if (s.size : Int) < e.total then none else some s
  | f + 1, s => if (s.size : Int) < e.total then (match firstAt e.ats (s.size : Int) with | none => none | some i => if (textB e i).size = 0 then none else runB e f (s ++ textB e i)) else some s
def bodyB (e : BitD) : Option ByteArray := (runB e e.total.toNat ⟨#[]⟩).bind fun s => if e.total ≠ 0 ∧ (s.size : Int) = e.total then some s else none
theorem runB_end (e : BitD) (f : Nat) {s : ByteArray} (h : ¬ (s.size : Int) < e.total) : runB e f s = some s := by
  cases f <;> simp [runB, h]
theorem runB_no {e : BitD} {f : Nat} {s : ByteArray} (h : (s.size : Int) < e.total) (hn : firstAt e.ats (s.size : Int) = none) : runB e f s = none := by
  cases f <;> simp [runB, h, hn]
theorem runB_empty {e : BitD} {f i : Nat} {s : ByteArray} (h : (s.size : Int) < e.total) (hn : firstAt e.ats (s.size : Int) = some i) (ht : (textB e i).size = 0) : runB e f s = none := by
  cases f <;> simp [runB, h, hn, ht]
theorem runB_step {e : BitD} {f i : Nat} {s : ByteArray} (h : (s.size : Int) < e.total) (hn : firstAt e.ats (s.size : Int) = some i) (ht : (textB e i).size ≠ 0) : runB e (f + 1) s = runB e f (s ++ textB e i) := by
  simp [runB, h, hn, ht]
theorem textB_size {e : BitD} (hs : SmallB e) (i : Nat) : (textB e i).size ≤ 1048576 := by
  unfold textB
  rw [List.getD_eq_getElem?_getD]
  cases h : e.texts[i]? with
  | none => exact Nat.zero_le _
  | some t => exact hs.2.2 t (List.mem_of_getElem? h)
set_option maxRecDepth 1000000 in
theorem textAt_any (e : BitD) (ta : Option Addr) (tc : Nat) (av : Value) (i : Nat) (w : World) (ht : ValsAt w ta (st e.texts)) :
    Calls Try.prog 55 #[.agg #[.int .i64 e.src, .int .i64 e.ident, .slice ta e.texts.length tc, av, .int .i64 e.total, .int .i64 e.lim], .int .i64 (i : Int)] w fun e' w' => e' = .returned (.string (textB e i)) ∧ Below w.heap.size w w' := by
  have bx := below_more (Below.refl w.heap.size w) (.cells #[.int .i64 e.src, .int .i64 e.ident, .slice ta e.texts.length tc, av, .int .i64 e.total, .int .i64 e.lim] 41)
  have hx : BlockIs (w.alloc (.cells #[.int .i64 e.src, .int .i64 e.ident, .slice ta e.texts.length tc, av, .int .i64 e.total, .int .i64 e.lim] 41)) w.heap.size 41 [.int .i64 e.src, .int .i64 e.ident, .slice ta e.texts.length tc, av, .int .i64 e.total, .int .i64 e.lim] := heap_alloc_new w _
  have HT := hid (ht.on bx)
  obtain ⟨W0, hW0⟩ : ∃ W, w.alloc (.cells #[.int .i64 e.src, .int .i64 e.ident, .slice ta e.texts.length tc, av, .int .i64 e.total, .int .i64 e.lim] 41) = W := ⟨_, rfl⟩
  rw [hW0] at bx hx HT
  have c2 := hx.cell (j := 2) rfl
  have B0 := hid bx
  clear bx hx ht
  by_cases h : i < e.texts.length
  · have hlt : ¬ (e.texts.length : Int) ≤ (i : Int) := by omega
    have hlt2 : (i : Int) < (e.texts.length : Int) := by omega
    obtain ⟨b, off, hta, hc⟩ := HT.out (by intro q; rw [← List.length_eq_zero_iff, st_length] at q; omega)
    have x0 := hc i (by rw [st_length]; omega)
    have hgt : (st e.texts)[i]'(by rw [st_length]; omega) = .string e.texts[i] := by simp [st]
    rw [hgt] at x0
    have HR : Hid (textB e i = e.texts[i]) := (show _ = _ by simp [textB, h])
    obtain ⟨S, hS⟩ : ∃ S, e.texts[i] = S := ⟨_, rfl⟩
    rw [hS] at x0 HR
    subst hta
    clear hc hgt hS HT
    go_enter Try.func55, Try.ntmps55
    go_wp2
    go_ret
    exact ⟨by rw [HR.out]; rfl, B0.out⟩
  · have hlt : (e.texts.length : Int) ≤ (i : Int) := by omega
    have HR : Hid (textB e i = ⟨#[]⟩) := (show _ = _ by simp [textB, List.getElem?_eq_none (Nat.le_of_not_lt h)])
    clear HT
    go_enter Try.func55, Try.ntmps55
    go_wp2
    go_ret
    exact ⟨by rw [HR.out]; rfl, B0.out⟩
end Go.Proofs.Ytklaneakdcnbaaa
