/-
  Plain facts on the bytes of a number in sevens and on rows of bytes in memory; nothing of the program stands here.
  Plain facts on rows that a call owns; nothing of the program stands here.
  A block of memory of the call's own: its cells as a list; rows of elements of so many cells each.
  Rows of the call's own that grow: what stands behind an append.
  Numbers in memory, one behind the other.
  A number within bounds; nothing of the program stands here.
  Plain facts on confs: when one is right, and their texts; nothing of the program stands here.
  Plain facts on the texts of confs; rows of numbers in memory; nothing of the program stands here.
  Plain facts on reading a number in sevens; nothing of the program stands here.
  Plain facts: a number in sevens is read back; nothing of the program stands here.
  Entries as plain data: when one is right, and its text; nothing of the program stands here.
  Plain facts on confs: a number held against the one ahead of it; how many of a conf are in a list; nothing of the program stands here.
  A right conf comes back from its text; what a drawn right entry is.
  Rows of the call's own between two sizes of memory; blocks laid one behind the other.
  Entries as data, in memory, one behind the other.
  Entries in a row of the call's own.
  Entries in memory: cell by cell, and those behind a place.
  An entry's cells and size, as the program tells them.
  Entries that are appended to an empty list of the call's own.
  Logs as plain data: when one is right, its last term, the term of an index, what is put and what is left behind, what two share; nothing of the program stands here.
  Messages as plain data: when one is right; nothing of the program stands here.
  A struct in memory, of any number of cells: read and written whole.
  A message in memory: its cells, read and written whole.
  Plain facts on the text of an entry; nothing of the program stands here.
  What a message is as a text; nothing of the program stands here.
  Plain facts on reading an entry's text; nothing of the program stands here.
  Plain facts on reading a short text; nothing of the program stands here.
  Parts of a text, read one behind the other; nothing of the program stands here.
  Parts of a text read by one that may have gone wrong; nothing of the program stands here.
  Command as data; rows of them in memory, one behind the other.
  A command that is right; nothing of the program stands here.
  What a command is as a text; nothing of the program stands here.
  A command read back from its text: part by part, or whole and held against what would be written; nothing of the program stands here.
  A message read part by part from a text; nothing of the program stands here.
  A text from a place on: what stands there is read; nothing of the program stands here.
  Plain facts on check sums of 32 bits; nothing of the program stands here.
  Plain facts on sealed texts: what is sealed is unsealed; with one byte turned it is not.
  Snapshots as data, and their texts; nothing of the program stands here.
  What is read of a text as a snapshot; nothing of the program stands here.
  A message read back from its bytes: part by part, or whole and held against what would be written: both ways are one; nothing of the program stands here.
  What Decode answers, in memory of its own.
  When a text is empty; nothing of the program stands here.
  Memory stands while orders are drawn.
  Blocks that stand where others are written or new ones come; nothing of the program stands here.
  What a function with deferred calls leaves doesn't hang on slots that are no results; nothing of the program stands here.
-/
import Derived.WalkKit
import Derived.Maps.AppendAt
import Derived.RowKit
import Derived.WalkSmall
import Derived.Laws.AppendOwn
import Derived.BigQuiet
import Derived.Deep.LoopGhost
import Derived.Test.YtohmfmajgehadaaGreatDoorRows
import Derived.OwnWalk
import Derived.Laws.CopyOwn
import Derived.Laws.Tables
import Derived.Deep.MidRow
import Derived.Sort.Statements
import Derived.Deep.Draws
import Derived.Defers
import Derived.Recover
namespace Go.Proofs.YtohmfmajgehadaaGreatDoor
open Go.RowKit

/-- the bytes of n, seven bits a byte, the least first (with so many steps at the most) -/
def vbF : Nat → Nat → List UInt8
  | 0, n => [UInt8.ofNat n]
  | f + 1, n => if n ≤ 127 then [UInt8.ofNat n] else UInt8.ofNat (n % 128 + 128) :: vbF f (n / 128)
/-- the bytes of n, seven bits a byte, the least first -/
def vb (n : Nat) : List UInt8 := vbF n n

theorem vbF_eq : ∀ (f g n : Nat), n ≤ f → n ≤ g → vbF f n = vbF g n
  | 0, 0, _, _, _ => rfl
  | 0, g + 1, n, h, _ => by
    obtain rfl : n = 0 := by omega
    rw [vbF, vbF, if_pos (by omega)]
  | f + 1, 0, n, _, h => by
    obtain rfl : n = 0 := by omega
    rw [vbF, vbF, if_pos (by omega)]
  | f + 1, g + 1, n, h1, h2 => by
    rw [vbF, vbF]
    by_cases h : n ≤ 127
    · rw [if_pos h, if_pos h]
    · rw [if_neg h, if_neg h, vbF_eq f g (n / 128) (by omega) (by omega)]
theorem vb_small {n : Nat} (h : n ≤ 127) : vb n = [UInt8.ofNat n] := by
  rw [vb, vbF_eq n (n + 1) n (Nat.le_refl _) (by omega), vbF, if_pos h]
theorem vb_big {n : Nat} (h : 127 < n) : vb n = UInt8.ofNat (n % 128 + 128) :: vb (n / 128) := by
  rw [vb, vbF_eq n (n + 1) n (Nat.le_refl _) (by omega), vbF, if_neg (by omega), vb, vbF_eq n (n / 128) (n / 128) (by omega) (Nat.le_refl _)]

theorem vb_pos (n : Nat) : 0 < (vb n).length := by
  by_cases h : n ≤ 127
  · rw [vb_small h]; simp
  · rw [vb_big (by omega)]; simp

theorem vb_le (n : Nat) : (vb n).length ≤ n + 1 := by
  induction n using Nat.strongRecOn with
  | _ n ih =>
    by_cases h : n ≤ 127
    · rw [vb_small h]; simp
    · rw [vb_big (by omega)]
      have := ih (n / 128) (by omega)
      simp only [List.length_cons]
      omega

/-- bytes as the cells of a row -/
def cs (l : List UInt8) : List Value := l.map fun b => Value.int .u8 (b.toNat : Int)

theorem cs_append (l r : List UInt8) : cs (l ++ r) = cs l ++ cs r := by simp [cs]
theorem cs_length (l : List UInt8) : (cs l).length = l.length := by simp [cs]
theorem cs_one {x : Int} (h0 : 0 ≤ x) (h1 : x ≤ 255) : [Value.int .u8 x] = cs [UInt8.ofNat x.toNat] := by
  simp [cs]
  omega

/-- a row that the call owns, turned into a text -/
theorem text_of_row {P : Program} {w : World} {base : Nat} {v : Value} {l : List UInt8} {src dst e : TypeId} (hs : P.underlying src = some (.slice e)) (he : P.underlying e = some (.int .u8)) (hd : P.underlying dst = some .string)
    (h : w.ownsRow base e 1 v l.length (cs l)) : (convert src dst v).run P w = .ok (.string ⟨l.toArray⟩) w := by
  obtain ⟨h1, h2⟩ := h
  rcases h2 with ⟨hv, hn⟩ | ⟨g, cap, cur, hv, hg, hh, hle, hm, hsz, hx⟩
  · have hl : l = [] := by cases l with | nil => rfl | cons a r => simp at hn
    subst hl hv
    exact run_convert_bytes_nil w src e hs he 0 0 dst hd
  · subst hv
    refine run_convert_bytes_back w src dst e ⟨g, 0, none⟩ cap l hs he hd fun j hj => ?_
    have hu : (cs l)[j]? = some (.int .u8 (l[j].toNat : Int)) := by simp [cs, hj]
    exact World.ownsRow.cells (w := w) (base := base) (e := e) (size := 1) ⟨h1, Or.inr ⟨g, cap, cur, rfl, hg, hh, hle, hm, hsz, hx⟩⟩ rfl j _ hu

/-- a piece of a text, its bounds as whole numbers -/
theorem slice_nat {P : Program} {t : TypeId} (h : P.underlying t = some .string) (s : ByteArray) (a b : Nat) (x y : Int) (hx : x = a) (hy : y = b) (hab : a ≤ b) (hb : b ≤ s.size) (w : World) :
    (Instr.slice t (.string s) (some (.int .i64 x)) (some (.int .i64 y)) none).run P w = .ok (.string (s.extract a b)) w := by
  subst hx hy
  rw [run_slice_string w t s .i64 .i64 a b h (by omega) (by omega) (by omega)]
  simp

theorem extract_eq (s : ByteArray) (a b : Nat) : (s.extract a b).data.toList = (s.data.toList.drop a).take (b - a) := by
  simp [ByteArray.extract, ByteArray.copySlice]

theorem var_step {n m : Nat} {acc : List UInt8} {w wr w1 : World} {v v' : Value} (hm : 127 < m) (hacc : acc ++ vb m = vb n) (hown : wr.ownsRow w.heap.size 5 1 v acc.length (cs acc))
    (hown' : w1.ownsRow w.heap.size 5 1 v' (acc.length + 1) (cs acc ++ [.int .u8 ((m : Int) % 128 + 128)])) (hgrow : (wr.alloc (.cells #[.int .u8 ((m : Int) % 128 + 128)] 5)).grownBy w1 v.ownBlock) (hb : Below w.heap.size w wr) :
    (acc ++ [UInt8.ofNat (m % 128 + 128)]) ++ vb (m / 128) = vb n ∧ w1.ownsRow w.heap.size 5 1 v' (acc ++ [UInt8.ofNat (m % 128 + 128)]).length (cs (acc ++ [UInt8.ofNat (m % 128 + 128)])) ∧ Below w.heap.size w w1 := by
  refine ⟨by rw [← hacc, vb_big hm]; simp, ?_, (hb.alloc hb.size _).grown hgrow (by have := hb.size; simp; omega) (fun k hk => (hown.lt k hk).1)⟩
  have e : [Value.int .u8 ((m : Int) % 128 + 128)] = cs [UInt8.ofNat (m % 128 + 128)] := by
    rw [cs_one (by omega) (by omega)]
    have : ((m : Int) % 128 + 128).toNat = m % 128 + 128 := by omega
    rw [this]
  rw [e, ← cs_append] at hown'
  simpa using hown'

theorem var_end {n m : Nat} {acc : List UInt8} {w wr w1 : World} {v v' : Value} (hm : m ≤ 127) (hacc : acc ++ vb m = vb n) (hown : wr.ownsRow w.heap.size 5 1 v acc.length (cs acc))
    (hown' : w1.ownsRow w.heap.size 5 1 v' (acc.length + 1) (cs acc ++ [.int .u8 (m : Int)])) (hgrow : (wr.alloc (.cells #[.int .u8 (m : Int)] 5)).grownBy w1 v.ownBlock) (hb : Below w.heap.size w wr) :
    w1.ownsRow w.heap.size 5 1 v' (vb n).length (cs (vb n)) ∧ Below w.heap.size w w1 := by
  refine ⟨?_, (hb.alloc hb.size _).grown hgrow (by have := hb.size; simp; omega) (fun k hk => (hown.lt k hk).1)⟩
  have e : [Value.int .u8 (m : Int)] = cs [UInt8.ofNat m] := by
    rw [cs_one (by omega) (by omega)]
    simp
  rw [e, ← cs_append, ← vb_small hm, hacc] at hown'
  have hl : acc.length + 1 = (vb n).length := by rw [← hacc, vb_small hm]; simp
  rw [hl] at hown'
  exact hown'

end Go.Proofs.YtohmfmajgehadaaGreatDoor

namespace Go.Proofs.YtohmfmajgehadaaGreatDoor
open Go.RowKit

theorem grown_of_below {w w' : World} (h : Below w.heap.size w w') (row : Option Nat) : w.grownBy w' row := ⟨h.os, h.tape, h.output, h.size, fun k hk _ => h.block k hk⟩

theorem add_at (g j : Nat) : (⟨g, 0, none⟩ : Addr).add j = ⟨g, j, none⟩ := by
  simp only [Addr.add]
  split
  · simp_all
  · simp

/-- where an owned row lies -/
theorem row_lie {w : World} {base : Nat} {e : TypeId} {v : Value} {n : Nat} {xs : List Value} (h : w.ownsRow base e 1 v n xs) :
    xs.length = n ∧ ∃ ao cap, v = .slice ao n cap ∧ (0 < n → ∃ g, ao = some ⟨g, 0, none⟩ ∧ base ≤ g ∧ g < w.heap.size ∧ n ≤ cap ∧ v.ownBlock = some g ∧ (∀ (j : Nat) u, xs[j]? = some u → w.cell? ⟨g, j, none⟩ = some u) ∧ ∀ j, w.frozen? ⟨g, j, none⟩ = false) := by
  have h' := h
  obtain ⟨h1, h2⟩ := h
  refine ⟨by omega, ?_⟩
  rcases h2 with ⟨hv, hn⟩ | ⟨g, cap, cur, hv, hgb, hh, hle, hmx, hsz, hx⟩
  · exact ⟨none, 0, by rw [hv, hn], fun h0 => by omega⟩
  · refine ⟨_, cap, hv, fun _ => ⟨g, rfl, hgb, (h'.lt g (by rw [hv]; rfl)).2, hle, by rw [hv]; rfl, fun j u hu => ?_, fun j => ?_⟩⟩
    · have := h'.cells (g := g) (by rw [hv]; rfl) j _ hu
      rw [add_at] at this
      exact this
    · simp [World.frozen?, hh]

/-- an owned row, one of its cells written -/
theorem ownsRow_set {w : World} {base : Nat} {e : TypeId} {v : Value} {n : Nat} {xs : List Value} (h : w.ownsRow base e 1 v n xs) {g : Nat} (hg : v.ownBlock = some g) (k : Nat) (u : Value) :
    (w.setCell ⟨g, k, none⟩ u).ownsRow base e 1 v n (xs.set k u) := by
  obtain ⟨h1, h2⟩ := h
  rcases h2 with ⟨hv, hn⟩ | ⟨g', cap, cur, hv, hgb, hh, hle, hmx, hsz, hx⟩
  · rw [hv] at hg; cases hg
  · rw [hv] at hg
    simp only [Value.ownBlock, Option.some.injEq] at hg
    subst hg
    refine ⟨by simpa using h1, Or.inr ⟨g', cap, cur.setIfInBounds k u, hv, hgb, ?_, hle, hmx, by simpa using hsz, ?_⟩⟩
    · simp only [World.setCell]
      rw [Array.getElem?_modify, if_pos rfl, hh]
      rfl
    · rw [Array.toList_setIfInBounds, ← hx, List.take_set]

/-- a place of an owned row may be written -/
theorem at_row {w : World} {base : Nat} {e : TypeId} {g n c : Nat} {xs : List Value} (h : w.ownsRow base e 1 (.slice (some ⟨g, 0, none⟩) n c) n xs) (k : Nat) (hk : k < n) : ∃ u, w.cell? ⟨g, k, none⟩ = some u ∧ w.frozen? ⟨g, k, none⟩ = false := by
  obtain ⟨hl, ao, cap, hv, hf⟩ := row_lie h
  obtain ⟨g', e1, _, _, _, _, hc, hz⟩ := hf (by omega)
  simp only [Value.slice.injEq] at hv
  obtain ⟨rfl, _, _⟩ := hv
  simp only [Option.some.injEq, Addr.mk.injEq, and_true] at e1
  subst e1
  have hk' : k < xs.length := by omega
  exact ⟨xs[k], hc k _ (List.getElem?_eq_getElem hk'), hz k⟩

theorem grownBy_set (w : World) (g k : Nat) (u : Value) : w.grownBy (w.setCell ⟨g, k, none⟩ u) (some g) :=
  ⟨rfl, rfl, rfl, by simp [World.setCell], fun j _ hj => Below.heap_setCell _ _ _ _ (fun e => hj (by simp [e]))⟩

/-- the one cell of a new block -/
theorem one_new (w : World) (x : Value) (t : TypeId) : ∀ (j : Nat) u, [x][j]? = some u → (w.alloc (.cells #[x] t)).cell? ((⟨w.heap.size, 0, none⟩ : Addr).add j) = some u := by
  intro j u hj
  match j, hj with
  | 0, hj => simp at hj; subst hj; simp [Addr.add]

/-- texts as the cells of a row -/
def st (l : List ByteArray) : List Value := l.map Value.string
theorem st_append (l r : List ByteArray) : st (l ++ r) = st l ++ st r := by simp [st]
theorem st_length (l : List ByteArray) : (st l).length = l.length := by simp [st]
theorem st_at (l : List ByteArray) (k : Nat) (h : k < l.length) : (st l)[k]? = some (.string l[k]) := by simp [st, h]
end Go.Proofs.YtohmfmajgehadaaGreatDoor

namespace Go.Proofs.YtohmfmajgehadaaGreatDoor
open Go.RowKit

/-- hidden from the walk -/
theorem hid {p : Prop} (h : p) : Hid p := h
theorem below_more {w w' : World} (h : Below w.heap.size w w') (o : Obj) : Below w.heap.size w (w'.alloc o) := h.alloc h.size o
theorem below_via {w w1 w2 : World} (h : Below w.heap.size w w1) (h2 : Below w1.heap.size w1 w2) : Below w.heap.size w w2 := h.trans (h2.mono h.size)

/-- block g holds just these cells, of elements of type t -/
def BlockIs (w : World) (g : Nat) (t : TypeId) (cs : List Value) : Prop := w.heap[g]? = some (.cells cs.toArray t (0, 0))

theorem BlockIs.lt {w : World} {g : Nat} {t : TypeId} {cs : List Value} (h : BlockIs w g t cs) : g < w.heap.size := by
  rcases Nat.lt_or_ge g w.heap.size with q | q
  · exact q
  · rw [BlockIs, Array.getElem?_eq_none q] at h; cases h
theorem BlockIs.cell {w : World} {g : Nat} {t : TypeId} {cs : List Value} (h : BlockIs w g t cs) {j : Nat} {v : Value} (hj : cs[j]? = some v) : w.cell? ⟨g, j, none⟩ = some v := by
  unfold BlockIs at h
  simp [World.cell?, h, hj]
theorem BlockIs.thaw {w : World} {g : Nat} {t : TypeId} {cs : List Value} (h : BlockIs w g t cs) (j : Nat) : w.frozen? ⟨g, j, none⟩ = false := by
  unfold BlockIs at h
  simp [World.frozen?, h]
theorem BlockIs.set {w : World} {g : Nat} {t : TypeId} {cs : List Value} (h : BlockIs w g t cs) (j : Nat) (v : Value) : BlockIs (w.setCell ⟨g, j, none⟩ v) g t (cs.set j v) := by
  unfold BlockIs at h ⊢
  simp only [World.setCell]
  rw [Array.getElem?_modify, if_pos rfl, h]
  simp [Array.setIfInBounds]
  exact fun hj => (List.set_eq_of_length_le hj).symm
theorem BlockIs.far {w : World} {g : Nat} {t : TypeId} {cs : List Value} (h : BlockIs w g t cs) {b j : Nat} (hb : b ≠ g) (v : Value) : BlockIs (w.setCell ⟨b, j, none⟩ v) g t cs := by
  unfold BlockIs at h ⊢
  simp only [World.setCell]
  rw [Array.getElem?_modify, if_neg hb]
  exact h
theorem BlockIs.on {w w' : World} {g : Nat} {t : TypeId} {cs : List Value} (h : BlockIs w g t cs) {B : Nat} (hb : Below B w w') (hg : g < B) : BlockIs w' g t cs := by
  unfold BlockIs
  rw [hb.block g hg]
  exact h
theorem BlockIs.made {w' : World} {g base : Nat} {t : TypeId} {n size : Nat} {xs : List Value} (h : w'.ownsRow base t size (.slice (some ⟨g, 0, none⟩) n n) n xs) : BlockIs w' g t xs := by
  obtain ⟨hx, (⟨h1, _⟩ | ⟨g', cap, cur, h1, _, hg, _, _, hs, ht⟩)⟩ := h
  · cases h1
  · cases h1
    unfold BlockIs
    rw [hg]
    have : cur.toList = xs := by rw [← ht, List.take_of_length_le (by simp [hs])]
    rw [← this]

/-- a cell of a row of elements of m cells each -/
theorem row_at {α : Type} (enc : α → List Value) (m : Nat) (hm : ∀ a, (enc a).length = m) (l : List α) (r : List Value) (j c : Nat) (hj : j < l.length) (hc : c < m) : (l.flatMap enc ++ r)[j * m + c]? = (enc l[j])[c]? := by
  induction l generalizing j with
  | nil => simp at hj
  | cons a l ih =>
    cases j with
    | zero =>
      simp only [List.flatMap_cons, Nat.zero_mul, Nat.zero_add, List.getElem_cons_zero, List.append_assoc]
      rw [List.getElem?_append_left (by rw [hm]; exact hc)]
    | succ j =>
      simp only [List.flatMap_cons, List.getElem_cons_succ, List.append_assoc]
      rw [List.getElem?_append_right (by rw [hm, Nat.succ_mul]; omega), hm, show (j + 1) * m + c - m = j * m + c by rw [Nat.succ_mul]; omega]
      exact ih j (by simpa using hj)
theorem row_length {α : Type} (enc : α → List Value) (m : Nat) (hm : ∀ a, (enc a).length = m) (l : List α) : (l.flatMap enc).length = l.length * m := by
  induction l with
  | nil => simp
  | cons a l ih => simp only [List.flatMap_cons, List.length_append, hm, ih, List.length_cons, Nat.succ_mul]; omega
/-- three cells of a list, written -/
theorem set_three (p : List Value) (a b c x y z : Value) (r : List Value) : (((p ++ x :: y :: z :: r).set p.length a).set (p.length + 1) b).set (p.length + 2) c = p ++ a :: b :: c :: r := by
  rw [List.set_append_right _ _ (Nat.le_refl _), List.set_append_right _ _ (by omega), List.set_append_right _ _ (by omega)]
  simp
end Go.Proofs.YtohmfmajgehadaaGreatDoor

namespace Go.Proofs.YtohmfmajgehadaaGreatDoor
open Go.RowKit

theorem row_shape {w : World} {base size n : Nat} {t : TypeId} {v : Value} {xs : List Value} (h : w.ownsRow base t size v n xs) : ∃ a c, v = .slice a n c := by
  obtain ⟨_, (⟨rfl, rfl⟩ | ⟨g, cap, _, rfl, _⟩)⟩ := h
  · exact ⟨_, _, rfl⟩
  · exact ⟨_, _, rfl⟩
theorem row_down {w : World} {base base' size n : Nat} {t : TypeId} {v : Value} {xs : List Value} (h : w.ownsRow base t size v n xs) (hb : base' ≤ base) : w.ownsRow base' t size v n xs :=
  ⟨h.1, h.2.imp id fun ⟨g, cap, cur, a, b, r⟩ => ⟨g, cap, cur, a, Nat.le_trans hb b, r⟩⟩
/-- behind an append to a row of the call's own: all that was there ahead of the row stands -/
theorem behind_append {w wr w1 : World} {v : Value} {base n : Nat} {t : TypeId} {size : Nat} {xs : List Value} {o : Obj} (hB : w.heap.size ≤ base) (BR : Below w.heap.size w wr) (OR : wr.ownsRow base t size v n xs) (hz : base ≤ wr.heap.size) (hg : (wr.alloc o).drew.grownBy w1 v.ownBlock) :
    Below w.heap.size w w1 ∧ base ≤ w1.heap.size ∧ ∀ j tj cs, j < base → BlockIs wr j tj cs → BlockIs w1 j tj cs := by
  have hown : ∀ j, v.ownBlock = some j → base ≤ j := fun j hj => (OR.lt j hj).1
  have hd : Below wr.heap.size wr (wr.alloc o).drew := below_drewN (below_more (Below.refl _ wr) o) 1
  have h1 : Below base wr w1 := ((hd.mono hz).grown hg (Nat.le_trans hz hd.size) hown)
  refine ⟨BR.trans (h1.mono hB), Nat.le_trans hz h1.size, fun j tj cs hj hb => hb.on h1 hj⟩
end Go.Proofs.YtohmfmajgehadaaGreatDoor

namespace Go.Proofs.YtohmfmajgehadaaGreatDoor
open Go.RowKit

/-- numbers lie at an address, one behind the other -/
def IntsAt (w : World) (ao : Option Addr) (zs : List Int) : Prop := zs ≠ [] → ∃ b off, ao = some ⟨b, off, none⟩ ∧ ∀ j (hj : j < zs.length), w.cell? ⟨b, off + j, none⟩ = some (.int .i64 zs[j])
theorem IntsAt.on {w w' : World} {ao : Option Addr} {zs : List Int} (h : IntsAt w ao zs) (hb : Below w.heap.size w w') : IntsAt w' ao zs := by
  intro h0
  obtain ⟨b, off, e1, e2⟩ := h h0
  exact ⟨b, off, e1, fun j hj => (hb.cell (p := ⟨b, off + j, none⟩) (World.block_lt_of_cell? w _ (e2 j hj))).trans (e2 j hj)⟩
/-- numbers in their cells -/
def intCells (zs : List Int) : List Value := zs.map (Value.int .i64)
theorem intsAt_of {w : World} {g : Nat} {t : TypeId} {zs : List Int} {r : List Value} (h : BlockIs w g t (intCells zs ++ r)) : IntsAt w (some ⟨g, 0, none⟩) zs := by
  intro _
  refine ⟨g, 0, rfl, fun j hj => ?_⟩
  rw [Nat.zero_add]
  refine h.cell ?_
  rw [List.getElem?_append_left (by simpa [intCells] using hj)]
  simp [intCells, hj]
/-- a cell of a list, written -/
theorem set_one (p : List Value) (a x : Value) (r : List Value) : (p ++ x :: r).set p.length a = p ++ a :: r := by
  rw [List.set_append_right _ _ (Nat.le_refl _)]
  simp
end Go.Proofs.YtohmfmajgehadaaGreatDoor

namespace Go.Proofs.YtohmfmajgehadaaGreatDoor
open Go.RowKit

/-- a number within bounds -/
def within (x a b : Int) : Bool := decide (a ≤ x) && decide (x ≤ b)
theorem within_yes {x a b : Int} (h1 : a ≤ x) (h2 : x ≤ b) : within x a b = true := by simp [within, h1, h2]
theorem within_no {x a b : Int} (h : x < a ∨ b < x) : within x a b = false := by
  simp only [within, Bool.and_eq_false_imp, decide_eq_true_eq, decide_eq_false_iff_not]
  omega
theorem within_iff {x a b : Int} : within x a b = true ↔ a ≤ x ∧ x ≤ b := by simp [within]
end Go.Proofs.YtohmfmajgehadaaGreatDoor

namespace Go.Proofs.YtohmfmajgehadaaGreatDoor
open Go.RowKit

/-- a number stands behind the one ahead of it -/
def behindI (zs : List Int) (k : Nat) (x : Int) : Bool := match k with
  | 0 => true
  | j + 1 => match zs[j]? with
    | none => true
    | some y => decide (y < x)
/-- the first k numbers are in their bounds, and ascend -/
def riseTo (zs : List Int) : Nat → Bool
  | 0 => true
  | k + 1 => riseTo zs k && match zs[k]? with
    | none => true
    | some x => within x 1 4 && behindI zs k x
def confOk (zs : List Int) : Bool := within zs.length 1 4 && riseTo zs zs.length

theorem riseTo_step {zs : List Int} {k : Nat} (hk : k < zs.length) : riseTo zs (k + 1) = (riseTo zs k && (within zs[k] 1 4 && behindI zs k zs[k])) := by
  rw [riseTo, List.getElem?_eq_getElem hk]
theorem behindI_step {zs : List Int} {j : Nat} (hj : j + 1 < zs.length) : behindI zs (j + 1) zs[j + 1] = decide (zs[j] < zs[j + 1]) := by
  rw [behindI, List.getElem?_eq_getElem (show j < zs.length by omega)]
theorem riseTo_down {zs : List Int} {n k : Nat} (h : riseTo zs n = true) (hk : k ≤ n) : riseTo zs k = true := by
  induction n with
  | zero => obtain rfl : k = 0 := by omega
            rfl
  | succ n ih =>
    rcases Nat.lt_or_ge k (n + 1) with q | q
    · rw [riseTo, Bool.and_eq_true] at h
      exact ih h.1 (by omega)
    · obtain rfl : k = n + 1 := by omega
      exact h
theorem not_rise {zs : List Int} {k : Nat} (hk : k < zs.length) (h : (within zs[k] 1 4 && behindI zs k zs[k]) = false) : riseTo zs zs.length = false := by
  cases hd : riseTo zs zs.length with
  | false => rfl
  | true =>
    have := riseTo_down hd (show k + 1 ≤ zs.length by omega)
    rw [riseTo_step hk, h] at this
    simp at this
theorem rise_at {zs : List Int} (h : riseTo zs zs.length = true) {k : Nat} (hk : k < zs.length) : 1 ≤ zs[k] ∧ zs[k] ≤ 4 := by
  have := riseTo_down h (show k + 1 ≤ zs.length by omega)
  rw [riseTo_step hk, Bool.and_eq_true, Bool.and_eq_true] at this
  exact within_iff.1 this.2.1
theorem confOk_len {zs : List Int} (h : confOk zs = true) : 1 ≤ zs.length ∧ zs.length ≤ 4 := by
  rw [confOk, Bool.and_eq_true] at h
  have := within_iff.1 h.1
  omega
theorem confOk_big {zs : List Int} (h : zs.length < 1 ∨ 4 < zs.length) : confOk zs = false := by
  rw [confOk, within_no (by omega)]
  rfl
theorem confOk_of {zs : List Int} (h : 1 ≤ zs.length) (h4 : zs.length ≤ 4) : confOk zs = riseTo zs zs.length := by
  rw [confOk, within_yes (by omega) (by omega), Bool.true_and]
theorem confOk_at {zs : List Int} (h : confOk zs = true) {k : Nat} (hk : k < zs.length) : 1 ≤ zs[k] ∧ zs[k] ≤ 4 := by
  have hl := confOk_len h
  rw [confOk_of hl.1 hl.2] at h
  exact rise_at h hk

/-- the bytes of a conf, and the numbers of bytes -/
def confBytes (zs : List Int) : List UInt8 := zs.map fun x => UInt8.ofNat x.toNat
def intsOf (l : List UInt8) : List Int := l.map fun b => (b.toNat : Int)
theorem confBytes_length (zs : List Int) : (confBytes zs).length = zs.length := by simp [confBytes]
theorem intsOf_length (l : List UInt8) : (intsOf l).length = l.length := by simp [intsOf]
theorem confBytes_take (zs : List Int) (k : Nat) (hk : k < zs.length) : confBytes (zs.take (k + 1)) = confBytes (zs.take k) ++ [UInt8.ofNat zs[k].toNat] := by
  simp only [confBytes]
  rw [List.take_succ_eq_append_getElem hk, List.map_append]
  rfl
theorem intsOf_take (l : List UInt8) (k : Nat) (hk : k < l.length) : intsOf (l.take (k + 1)) = intsOf (l.take k) ++ [(l[k].toNat : Int)] := by
  simp only [intsOf]
  rw [List.take_succ_eq_append_getElem hk, List.map_append]
  rfl
/-- what is read of a text -/
def readConf (s : ByteArray) : List Int × Bool := if confOk (intsOf s.data.toList) = true then (intsOf s.data.toList, true) else ([], false)
def confText (zs : List Int) : ByteArray × Bool := if confOk zs = true then (⟨(confBytes zs).toArray⟩, true) else (ByteArray.empty, false)
end Go.Proofs.YtohmfmajgehadaaGreatDoor

namespace Go.Proofs.YtohmfmajgehadaaGreatDoor
open Go.RowKit

theorem confText_yes {zs : List Int} (h : confOk zs = true) : confText zs = (⟨(confBytes zs).toArray⟩, true) := by rw [confText, if_pos h]
theorem confText_no {zs : List Int} (h : confOk zs = false) : confText zs = (ByteArray.empty, false) := by rw [confText, if_neg (by simp [h])]
theorem readConf_yes {s : ByteArray} (h : confOk (intsOf s.data.toList) = true) : readConf s = (intsOf s.data.toList, true) := by rw [readConf, if_pos h]
theorem readConf_no {s : ByteArray} (h : confOk (intsOf s.data.toList) = false) : readConf s = ([], false) := by rw [readConf, if_neg (by simp [h])]

theorem conf_byte {x : Int} (h1 : 1 ≤ x) (h4 : x ≤ 4) : IntKind.u8.wrap x = x := by
  rw [IntKind.wrap_u8]
  omega
/-- what both answer -/
def readConfAns (s : ByteArray) (w : World) (e : Ending) (w' : World) : Prop :=
  ∃ v, e = .returned (.tuple #[v, .bool (readConf s).2]) ∧ w'.ownsRow w.heap.size 3 1 v (readConf s).1.length (intCells (readConf s).1) ∧ Below w.heap.size w w'

theorem ints_row {w : World} {base : Nat} {ao : Option Addr} {n c : Nat} {zs : List Int} (hn : zs.length = n) (h : w.ownsRow base 3 1 (.slice ao n c) n (intCells zs)) : IntsAt w ao zs := by
  intro hne
  obtain ⟨_, va, vc, hv, hf⟩ := row_lie h
  simp only [Value.slice.injEq] at hv
  obtain ⟨rfl, _, _⟩ := hv
  have hp : 0 < zs.length := List.length_pos_iff.2 hne
  obtain ⟨g, e1, _, _, _, _, hc, _⟩ := hf (by omega)
  refine ⟨g, 0, e1, fun j hj => ?_⟩
  rw [Nat.zero_add]
  exact hc j _ (by simp [intCells, hj])

theorem readConf_none {s : ByteArray} {w w' : World} {v : Value} (h : confOk (intsOf s.data.toList) = false) (ho : w'.ownsRow w.heap.size 3 1 v 0 []) (hb : Below w.heap.size w w') : readConfAns s w (.returned (.tuple #[v, .bool false])) w' := by
  refine ⟨v, by rw [readConf_no h], ?_, hb⟩
  rw [readConf_no h]
  exact ho

theorem readConf_some {s : ByteArray} {w w' : World} {v : Value} (h : confOk (intsOf s.data.toList) = true) (ho : w'.ownsRow w.heap.size 3 1 v s.size (intCells (intsOf s.data.toList))) (hb : Below w.heap.size w w') : readConfAns s w (.returned (.tuple #[v, .bool true])) w' := by
  refine ⟨v, by rw [readConf_yes h], ?_, hb⟩
  rw [readConf_yes h]
  have : (intsOf s.data.toList).length = s.size := by rw [intsOf_length]; simp
  rw [this]
  exact ho

theorem kept_conf {w w2 : World} {base : Nat} {e : TypeId} {v : Value} {n : Nat} {xs : List Value} (h : w.ownsRow base e 1 v n xs) (hb : Below w.heap.size w w2) : w2.ownsRow base e 1 v n xs := by
  refine h.kept (grown_of_below hb none) ?_
  cases v.ownBlock with
  | none => exact Or.inl rfl
  | some g => exact Or.inr (by simp)
end Go.Proofs.YtohmfmajgehadaaGreatDoor

namespace Go.Proofs.YtohmfmajgehadaaGreatDoor
open Go.RowKit

/-- what the low seven bits of the bytes make, the least first -/
def val : List UInt8 → Nat
  | [] => 0
  | b :: r => b.toNat % 128 + 128 * val r

theorem val_snoc (p : List UInt8) (b : UInt8) : val (p ++ [b]) = val p + b.toNat % 128 * 128 ^ p.length := by
  induction p with
  | nil => simp [val]
  | cons x p ih =>
    simp only [List.cons_append, val, ih, List.length_cons, Nat.pow_succ, Nat.mul_add]
    rw [show b.toNat % 128 * (128 ^ p.length * 128) = 128 * (b.toNat % 128 * 128 ^ p.length) from by rw [Nat.mul_comm (128 ^ p.length) 128, Nat.mul_left_comm]]
    omega

theorem val_lt (p : List UInt8) : val p < 128 ^ p.length := by
  induction p with
  | nil => simp [val]
  | cons x p ih =>
    simp only [val, List.length_cons, Nat.pow_succ]
    omega

theorem val_zero_last (p : List UInt8) (b : UInt8) (hb : b.toNat < 128) (h : val (p ++ [b]) = 0) : b = 0 := by
  rw [val_snoc] at h
  have h1 : b.toNat % 128 * 128 ^ p.length = 0 := by omega
  have h2 : 0 < 128 ^ p.length := Nat.pow_pos (by omega)
  rcases Nat.mul_eq_zero.1 h1 with h | h
  · apply UInt8.toNat_inj.1
    rw [Nat.mod_eq_of_lt hb] at h
    simpa using h
  · omega

/-- bytes that go on, then one that ends: they are just what would be written, unless the last is a needless nought -/
theorem vb_val (p : List UInt8) (b : UInt8) (hp : ∀ x ∈ p, 128 ≤ x.toNat) (hb : b.toNat < 128) : (vb (val (p ++ [b])) = p ++ [b]) ↔ ¬ (b = 0 ∧ p ≠ []) := by
  induction p with
  | nil =>
    have : vb (val [b]) = [b] := by
      have e : val [b] = b.toNat := by simp [val]; omega
      rw [e, vb_small (by omega)]; simp
    simp [this]
  | cons x p ih =>
    have hx := hp x (by simp)
    have hx2 := x.toNat_lt
    have ih' := ih fun y hy => hp y (by simp [hy])
    simp only [List.cons_append, val]
    by_cases hv : val (p ++ [b]) = 0
    · have hb0 := val_zero_last p b hb hv
      rw [hv, vb_small (by omega)]
      constructor
      · intro h
        have := congrArg List.length h
        simp at this
      · intro h
        exact absurd ⟨hb0, by simp⟩ h
    · rw [vb_big (by omega)]
      have e1 : (x.toNat % 128 + 128 * val (p ++ [b])) % 128 + 128 = x.toNat := by omega
      have e2 : (x.toNat % 128 + 128 * val (p ++ [b])) / 128 = val (p ++ [b]) := by omega
      rw [e1, e2]
      simp only [UInt8.ofNat_toNat, List.cons.injEq, true_and]
      rw [ih']
      constructor
      · rintro h ⟨h1, _⟩
        apply h
        refine ⟨h1, ?_⟩
        rintro rfl
        apply hv
        simp [val, h1]
      · rintro h ⟨h1, _⟩
        exact h ⟨h1, by simp⟩

/-- reading on: p has been read, l is what is left -/
def rvFrom (p : List UInt8) : List UInt8 → Option (Nat × Nat)
  | [] => none
  | b :: r => if 5 ≤ p.length then none else if b.toNat < 128 then (if 1000000000 < val (p ++ [b]) ∨ (b = 0 ∧ p ≠ []) then none else some (val (p ++ [b]), p.length + 1)) else rvFrom (p ++ [b]) r

def rv (l : List UInt8) : Option (Nat × Nat) := rvFrom [] l

theorem rvFrom_full (p l : List UInt8) (h : 5 ≤ p.length) : rvFrom p l = none := by cases l <;> simp [rvFrom, h]
theorem rvFrom_on (p r : List UInt8) (b : UInt8) (h : p.length < 5) (hb : 128 ≤ b.toNat) : rvFrom p (b :: r) = rvFrom (p ++ [b]) r := by
  rw [rvFrom, if_neg (by omega), if_neg (by omega)]
theorem rvFrom_no (p r : List UInt8) (b : UInt8) (h : p.length < 5) (hb : b.toNat < 128) (hv : 1000000000 < val (p ++ [b]) ∨ (b = 0 ∧ p ≠ [])) : rvFrom p (b :: r) = none := by
  rw [rvFrom, if_neg (by omega), if_pos hb, if_pos hv]
theorem rvFrom_yes (p r : List UInt8) (b : UInt8) (h : p.length < 5) (hb : b.toNat < 128) (hv : ¬ (1000000000 < val (p ++ [b]) ∨ (b = 0 ∧ p ≠ []))) : rvFrom p (b :: r) = some (val (p ++ [b]), p.length + 1) := by
  rw [rvFrom, if_neg (by omega), if_pos hb, if_neg hv]

theorem rvFrom_some {p l : List UInt8} {n c : Nat} (h : rvFrom p l = some (n, c)) : n ≤ 1000000000 ∧ p.length < c ∧ c ≤ p.length + l.length := by
  induction l generalizing p with
  | nil => simp [rvFrom] at h
  | cons b r ih =>
    rw [rvFrom] at h
    split at h
    · cases h
    · split at h
      · split at h
        · cases h
        · simp only [Option.some.injEq, Prod.mk.injEq] at h
          obtain ⟨rfl, rfl⟩ := h
          simp only [List.length_cons]
          omega
      · have := ih h
        simp only [List.length_append, List.length_cons, List.length_nil] at this ⊢
        omega

/-- what both readers answer -/
def rvAns (a : Nat) : Option (Nat × Nat) → Value
  | none => .tuple #[.int .i64 0, .int .i64 0, .bool false]
  | some (n, c) => .tuple #[.int .i64 n, .int .i64 ((a + c : Nat) : Int), .bool true]

/-- the round's state: k bytes of the text from a on have been read, all of them go on -/
structure RvAt (s : ByteArray) (a k : Nat) (p : List UInt8) : Prop where
  lo : a ≤ k
  hi : k ≤ s.size
  five : k ≤ a + 5
  len : p.length = k - a
  on : ∀ x ∈ p, 128 ≤ x.toNat
  left : p = (s.data.toList.drop a).take (k - a)
  rv : rv (s.data.toList.drop a) = rvFrom p (s.data.toList.drop k)

theorem RvAt.start (s : ByteArray) (a : Nat) (h : a ≤ s.size) : RvAt s a a [] :=
  ⟨Nat.le_refl _, h, by omega, by simp, by simp, by simp, rfl⟩

theorem drop_cons (s : ByteArray) (k : Nat) (h : k < s.size) : s.data.toList.drop k = s[k] :: s.data.toList.drop (k + 1) := by
  rw [List.drop_eq_getElem_cons (by simpa using h)]; rfl

theorem RvAt.take {s : ByteArray} {a k : Nat} {p : List UInt8} (h : RvAt s a k p) (hk : k < s.size) : p ++ [s[k]] = (s.data.toList.drop a).take (k + 1 - a) := by
  have h1 := h.lo
  have e : k + 1 - a = (k - a) + 1 := by omega
  rw [e, List.take_succ_eq_append_getElem (by simp only [List.length_drop, Array.length_toList]; have : s.data.size = s.size := rfl; omega), ← h.left]
  congr 2
  simp only [List.getElem_drop, Array.getElem_toList, show a + (k - a) = k by omega]
  rfl

theorem RvAt.step {s : ByteArray} {a k : Nat} {p : List UInt8} (h : RvAt s a k p) (hk : k < s.size) (h5 : k < a + 5) (hb : 128 ≤ s[k].toNat) : RvAt s a (k + 1) (p ++ [s[k]]) := by
  have h1 := h.lo
  have h2 := h.len
  refine ⟨by omega, by omega, by omega, by simp; omega, ?_, h.take hk, ?_⟩
  · intro x hx
    rcases List.mem_append.1 hx with hx | hx
    · exact h.on x hx
    · simp at hx; subst hx; exact hb
  · rw [h.rv, drop_cons s k hk, rvFrom_on _ _ _ (by omega) hb]

theorem RvAt.none_end {s : ByteArray} {a k : Nat} {p : List UInt8} (h : RvAt s a k p) (he : s.size ≤ k ∨ a + 5 ≤ k) : Go.Proofs.YtohmfmajgehadaaGreatDoor.rv (s.data.toList.drop a) = none := by
  rw [h.rv]
  rcases he with he | he
  · have : s.data.toList.drop k = [] := List.drop_eq_nil_of_le (by simpa using he)
    rw [this]; rfl
  · exact rvFrom_full _ _ (by have := h.len; omega)

theorem RvAt.no {s : ByteArray} {a k : Nat} {p : List UInt8} (h : RvAt s a k p) (hk : k < s.size) (h5 : k < a + 5) (hb : s[k].toNat < 128) (hv : 1000000000 < val (p ++ [s[k]]) ∨ (s[k] = 0 ∧ a < k)) :
    Go.Proofs.YtohmfmajgehadaaGreatDoor.rv (s.data.toList.drop a) = none := by
  have h1 := h.lo
  have h2 := h.len
  rw [h.rv, drop_cons s k hk]
  refine rvFrom_no _ _ _ (by omega) hb ?_
  rcases hv with hv | ⟨hv, hk'⟩
  · exact Or.inl hv
  · exact Or.inr ⟨hv, by rintro rfl; simp at h2; omega⟩

theorem RvAt.yes {s : ByteArray} {a k : Nat} {p : List UInt8} (h : RvAt s a k p) (hk : k < s.size) (h5 : k < a + 5) (hb : s[k].toNat < 128) (hv : val (p ++ [s[k]]) ≤ 1000000000) (hz : ¬ (s[k] = 0 ∧ a < k)) :
    Go.Proofs.YtohmfmajgehadaaGreatDoor.rv (s.data.toList.drop a) = some (val (p ++ [s[k]]), k + 1 - a) := by
  have h1 := h.lo
  have h2 := h.len
  rw [h.rv, drop_cons s k hk, rvFrom_yes _ _ _ (by omega) hb, show k + 1 - a = p.length + 1 by omega]
  rintro (h | ⟨h, h'⟩)
  · omega
  · exact hz ⟨h, by rcases Nat.lt_or_ge a k with q | q; exact q; exact absurd (List.eq_nil_of_length_eq_zero (by omega)) h'⟩

/-- the bounds of a round -/
theorem RvAt.bounds {s : ByteArray} {a k : Nat} {p : List UInt8} (h : RvAt s a k p) (h5 : k < a + 5) (b : Nat) : val p < 268435456 ∧ 1 ≤ 128 ^ (k - a) ∧ 128 ^ (k - a) ≤ 268435456 ∧ b % 128 * 128 ^ (k - a) ≤ 34091302912 := by
  have h1 := h.lo
  have h2 : 128 ^ (k - a) ≤ 128 ^ 4 := Nat.pow_le_pow_right (by omega) (by omega)
  have h3 : 0 < 128 ^ (k - a) := Nat.pow_pos (by omega)
  have h4 := val_lt p
  rw [h.len] at h4
  have h6 : b % 128 * 128 ^ (k - a) ≤ 127 * 128 ^ 4 := Nat.mul_le_mul (by omega) h2
  simp only [show (128 : Nat) ^ 4 = 268435456 from rfl] at h2 h6
  omega

theorem RvAt.val_step {s : ByteArray} {a k W : Nat} {p : List UInt8} (h : RvAt s a k p) (hW : W = 128 ^ (k - a)) (b : UInt8) : ((val (p ++ [b]) : Nat) : Int) = (val p : Int) + (b.toNat : Int) % 128 * (W : Int) := by
  rw [val_snoc, h.len, ← hW]
  simp

theorem RvAt.W_step {s : ByteArray} {a k W : Nat} {p : List UInt8} (h : RvAt s a k p) (hW : W = 128 ^ (k - a)) : W * 128 = 128 ^ (k + 1 - a) := by
  have := h.lo
  rw [hW, show k + 1 - a = (k - a) + 1 by omega, Nat.pow_succ]

theorem RvAt.same {s : ByteArray} {a k : Nat} {p : List UInt8} (h : RvAt s a k p) (hk : k < s.size) (hb : s[k].toNat < 128) : (vb (val (p ++ [s[k]])) = (s.extract a (k + 1)).toList) ↔ ¬ (s[k] = 0 ∧ a < k) := by
  rw [ByteArray.toList_eq, extract_eq, ← h.take hk, vb_val _ _ h.on hb]
  have h1 := h.lo
  have h2 := h.len
  constructor
  · rintro h3 ⟨h4, h5⟩
    exact h3 ⟨h4, by rintro rfl; simp at h2; omega⟩
  · rintro h3 ⟨h4, h5⟩
    exact h3 ⟨h4, by rcases Nat.lt_or_ge a k with q | q; exact q; exact absurd (List.eq_nil_of_length_eq_zero (by omega)) h5⟩
theorem RvAt.differs {s : ByteArray} {a k : Nat} {p : List UInt8} (h : RvAt s a k p) (hk : k < s.size) (hb : s[k].toNat < 128) (hn : (!vb (val (p ++ [s[k]])) == (s.extract a (k + 1)).toList) = true) : s[k] = 0 ∧ a < k := by
  simp only [Bool.not_eq_true', beq_eq_false_iff_ne, ne_eq] at hn
  exact Decidable.byContradiction fun h3 => hn ((h.same hk hb).2 h3)
theorem RvAt.meets {s : ByteArray} {a k : Nat} {p : List UInt8} (h : RvAt s a k p) (hk : k < s.size) (hb : s[k].toNat < 128) (hn : (!vb (val (p ++ [s[k]])) == (s.extract a (k + 1)).toList) = false) : ¬ (s[k] = 0 ∧ a < k) := by
  simp only [Bool.not_eq_false', beq_iff_eq] at hn
  exact (h.same hk hb).1 hn

theorem rvAns_none {a : Nat} {o : Option (Nat × Nat)} (h : o = none) : Ending.returned (.tuple #[.int .i64 0, .int .i64 0, .bool false]) = .returned (rvAns a o) := by subst h; rfl
theorem rvAns_some {a k n : Nat} {x y : Int} {o : Option (Nat × Nat)} (h : o = some (n, k + 1 - a)) (hk : a ≤ k) (hx : (n : Int) = x) (hy : (k : Int) + 1 = y) : Ending.returned (.tuple #[.int .i64 x, .int .i64 y, .bool true]) = .returned (rvAns a o) := by
  subst h hx hy
  simp only [rvAns]
  rw [show ((a + (k + 1 - a) : Nat) : Int) = (k : Int) + 1 by omega]
theorem zero_of_toNat {b : UInt8} (h : (b.toNat : Int) ≤ 0) : b = 0 := by
  apply UInt8.toNat_inj.1
  simp
  omega
theorem not_zero {b : UInt8} (h : ¬ (b.toNat : Int) ≤ 0) : b ≠ 0 := by
  rintro rfl
  simp at h
end Go.Proofs.YtohmfmajgehadaaGreatDoor

namespace Go.Proofs.YtohmfmajgehadaaGreatDoor
open Go.RowKit

theorem val_append (p q : List UInt8) : val (p ++ q) = val p + val q * 128 ^ p.length := by
  induction p with
  | nil => simp [val]
  | cons x p ih =>
    simp only [List.cons_append, val, ih, List.length_cons, Nat.pow_succ, Nat.mul_add]
    rw [show val q * (128 ^ p.length * 128) = 128 * (val q * 128 ^ p.length) from by rw [Nat.mul_comm (128 ^ p.length) 128, Nat.mul_left_comm]]
    omega

theorem val_vb (n : Nat) : val (vb n) = n := by
  induction n using Nat.strongRecOn with
  | _ n ih =>
    by_cases h : n ≤ 127
    · rw [vb_small h]; simp [val]; omega
    · rw [vb_big (by omega)]
      simp only [val, ih (n / 128) (by omega), UInt8.toNat_ofNat']
      omega

theorem vb_len {n : Nat} (h : n ≤ 1000000000) : (vb n).length ≤ 5 := by
  by_cases h1 : n ≤ 127
  · rw [vb_small h1]; simp
  rw [vb_big (by omega)]
  by_cases h2 : n / 128 ≤ 127
  · rw [vb_small h2]; simp
  rw [vb_big (by omega)]
  by_cases h3 : n / 128 / 128 ≤ 127
  · rw [vb_small h3]; simp
  rw [vb_big (by omega)]
  by_cases h4 : n / 128 / 128 / 128 ≤ 127
  · rw [vb_small h4]; simp
  rw [vb_big (by omega), vb_small (by omega)]; simp

theorem rvFrom_vb (m : Nat) : ∀ (p r : List UInt8), p.length + (vb m).length ≤ 5 → val (p ++ vb m) ≤ 1000000000 → (p = [] ∨ 0 < m) → rvFrom p (vb m ++ r) = some (val (p ++ vb m), p.length + (vb m).length) := by
  induction m using Nat.strongRecOn with
  | _ m ih =>
    intro p r h5 hv hp
    by_cases h : m ≤ 127
    · rw [vb_small h] at h5 hv ⊢
      have hb : (UInt8.ofNat m).toNat = m := by rw [UInt8.toNat_ofNat']; omega
      simp only [List.length_cons, List.length_nil] at h5 ⊢
      simp only [List.cons_append, List.nil_append]
      rw [rvFrom_yes _ _ _ (by omega) (by omega)]
      rintro (q | ⟨q1, q2⟩)
      · omega
      · rcases hp with hp | hp
        · exact q2 hp
        · have := congrArg UInt8.toNat q1
          rw [hb] at this
          simp at this
          omega
    · have e := vb_big (n := m) (by omega)
      have hb : (UInt8.ofNat (m % 128 + 128)).toNat = m % 128 + 128 := by rw [UInt8.toNat_ofNat']; omega
      have hp1 := vb_pos (m / 128)
      rw [e] at h5 hv ⊢
      simp only [List.length_cons] at h5 ⊢
      simp only [List.cons_append]
      have e2 : p ++ UInt8.ofNat (m % 128 + 128) :: vb (m / 128) = (p ++ [UInt8.ofNat (m % 128 + 128)]) ++ vb (m / 128) := by simp
      rw [e2] at hv ⊢
      rw [rvFrom_on _ _ _ (by omega) (by omega), ih (m / 128) (by omega) _ r (by simp; omega) hv (Or.inr (by omega))]
      simp only [List.length_append, List.length_cons, List.length_nil]
      congr 2
      omega

theorem rv_vb {n : Nat} (h : n ≤ 1000000000) (r : List UInt8) : rv (vb n ++ r) = some (n, (vb n).length) := by
  have := rvFrom_vb n [] r (by simpa using vb_len h) (by simpa [val_vb] using h) (Or.inl rfl)
  simpa [rv, val_vb] using this
end Go.Proofs.YtohmfmajgehadaaGreatDoor

namespace Go.Proofs.YtohmfmajgehadaaGreatDoor
open Go.RowKit

structure EntD where
  term : Int
  kind : Int
  data : ByteArray

def EntD.value (e : EntD) : Value := .agg #[.int .i64 e.term, .int .i64 e.kind, .string e.data]

/-- an entry is right -/
def entryOk (e : EntD) : Bool :=
  within e.term 0 100000 && (if e.kind = 1 then decide (e.data.size = 0) else if e.kind = 2 then (readConf e.data).2 else if e.kind = 3 then decide (e.data.size ≤ 120) else false)

/-- the text of an entry -/
def entText (i : Int) (e : EntD) : ByteArray := ⟨#[69]⟩ ++ ⟨(vb i.toNat).toArray⟩ ++ ⟨(vb e.term.toNat).toArray⟩ ++ ⟨#[UInt8.ofNat e.kind.toNat]⟩ ++ e.data
def entryText (i : Int) (e : EntD) : ByteArray × Bool := if (entryOk e && within i 1 1000000) = true then (entText i e, true) else (ByteArray.empty, false)

theorem entryOk_term {e : EntD} (h : within e.term 0 100000 = false) : entryOk e = false := by rw [entryOk, h]; rfl
theorem entryOk_one {e : EntD} (h : within e.term 0 100000 = true) (hk : e.kind = 1) : entryOk e = decide (e.data.size = 0) := by rw [entryOk, h, if_pos hk, Bool.true_and]
theorem entryOk_two {e : EntD} (h : within e.term 0 100000 = true) (hk : e.kind = 2) : entryOk e = (readConf e.data).2 := by rw [entryOk, h, if_neg (by omega), if_pos hk, Bool.true_and]
theorem entryOk_three {e : EntD} (h : within e.term 0 100000 = true) (hk : e.kind = 3) : entryOk e = decide (e.data.size ≤ 120) := by rw [entryOk, h, if_neg (by omega), if_neg (by omega), if_pos hk, Bool.true_and]
theorem entryOk_else {e : EntD} (h : within e.term 0 100000 = true) (h1 : e.kind ≠ 1) (h2 : e.kind ≠ 2) (h3 : e.kind ≠ 3) : entryOk e = false := by rw [entryOk, h, if_neg h1, if_neg h2, if_neg h3, Bool.true_and]
theorem entryOk_bd {e : EntD} (h : entryOk e = true) : 0 ≤ e.term ∧ e.term ≤ 100000 ∧ 1 ≤ e.kind ∧ e.kind ≤ 3 ∧ e.data.size ≤ 120 := by
  rw [entryOk, Bool.and_eq_true] at h
  obtain ⟨h1, h2⟩ := h
  have ht := within_iff.1 h1
  refine ⟨ht.1, ht.2, ?_⟩
  by_cases k1 : e.kind = 1
  · rw [if_pos k1] at h2
    have : e.data.size = 0 := by simpa using h2
    omega
  · rw [if_neg k1] at h2
    by_cases k2 : e.kind = 2
    · rw [if_pos k2] at h2
      have hc : confOk (intsOf e.data.data.toList) = true := by
        cases hA : confOk (intsOf e.data.data.toList) with
        | true => rfl
        | false => rw [readConf, if_neg (by simp [hA])] at h2; cases h2
      have hl := confOk_len hc
      rw [intsOf_length] at hl
      have : e.data.data.toList.length = e.data.size := by simp
      omega
    · rw [if_neg k2] at h2
      by_cases k3 : e.kind = 3
      · rw [if_pos k3] at h2
        have : e.data.size ≤ 120 := by simpa using h2
        omega
      · rw [if_neg k3] at h2
        cases h2
end Go.Proofs.YtohmfmajgehadaaGreatDoor

namespace Go.Proofs.YtohmfmajgehadaaGreatDoor
open Go.RowKit

/-- the number ahead of a place, 0 at the first -/
def lastOf (zs : List Int) (k : Nat) : Int := match k with
  | 0 => 0
  | j + 1 => (zs[j]?).getD 0
theorem lastOf_step {zs : List Int} {k : Nat} (hk : k < zs.length) : lastOf zs (k + 1) = zs[k] := by
  rw [lastOf, List.getElem?_eq_getElem hk, Option.getD_some]
theorem rise_last {zs : List Int} {k : Nat} (hk : k < zs.length) (h : riseTo zs k = true) : (within zs[k] 1 4 && behindI zs k zs[k]) = true ↔ lastOf zs k < zs[k] ∧ zs[k] ≤ 4 := by
  cases k with
  | zero =>
    rw [Bool.and_eq_true, within_iff, lastOf, behindI]
    simp
    omega
  | succ j =>
    have hj : j < zs.length := by omega
    have h1 := riseTo_down h (Nat.le_refl (j + 1))
    rw [riseTo_step hj, Bool.and_eq_true, Bool.and_eq_true, within_iff] at h1
    rw [Bool.and_eq_true, within_iff, behindI_step hk, lastOf_step hj, decide_eq_true_eq]
    omega
theorem rise_on {zs : List Int} {k : Nat} (hk : k < zs.length) (h : riseTo zs k = true) (h1 : lastOf zs k < zs[k]) (h2 : zs[k] ≤ 4) : riseTo zs (k + 1) = true := by
  rw [riseTo_step hk, h, Bool.true_and]
  exact (rise_last hk h).2 ⟨h1, h2⟩
theorem rise_off {zs : List Int} {k : Nat} (hk : k < zs.length) (h : riseTo zs k = true) (h1 : ¬ (lastOf zs k < zs[k] ∧ zs[k] ≤ 4)) : riseTo zs zs.length = false := by
  refine not_rise hk ?_
  cases hb : (within zs[k] 1 4 && behindI zs k zs[k]) with
  | false => rfl
  | true => exact absurd ((rise_last hk h).1 hb) h1

/-- how many of the first k numbers are in a list -/
def countIn (zs ls : List Int) : Nat → Nat
  | 0 => 0
  | k + 1 => countIn zs ls k + match zs[k]? with
    | none => 0
    | some x => if x ∈ ls then 1 else 0
theorem countIn_step {zs ls : List Int} {k : Nat} (hk : k < zs.length) : countIn zs ls (k + 1) = countIn zs ls k + if zs[k] ∈ ls then 1 else 0 := by
  rw [countIn, List.getElem?_eq_getElem hk]
theorem countIn_le (zs ls : List Int) : ∀ k, countIn zs ls k ≤ k
  | 0 => Nat.le_refl _
  | k + 1 => by
    have := countIn_le zs ls k
    rw [countIn]
    split
    · omega
    · split <;> omega
def most (zs ls : List Int) : Bool := confOk zs && decide (zs.length < 2 * countIn zs ls zs.length)
end Go.Proofs.YtohmfmajgehadaaGreatDoor

namespace Go.Proofs.YtohmfmajgehadaaGreatDoor
open Go.RowKit

theorem ints_back {zs : List Int} (h : ∀ z ∈ zs, 1 ≤ z ∧ z ≤ 4) : intsOf (confBytes zs) = zs := by
  induction zs with
  | nil => rfl
  | cons z zs ih =>
    have hz := h z List.mem_cons_self
    have := ih (fun x hx => h x (List.mem_cons_of_mem _ hx))
    simp only [confBytes, intsOf, List.map_cons] at this ⊢
    rw [this]
    congr 1
    rw [UInt8.toNat_ofNat']
    omega
theorem confs_back {zs : List Int} (h : confOk zs = true) : readConf ⟨(confBytes zs).toArray⟩ = (zs, true) := by
  have hz : ∀ z ∈ zs, 1 ≤ z ∧ z ≤ 4 := by
    intro z hz
    obtain ⟨k, hk, rfl⟩ := List.getElem_of_mem hz
    exact confOk_at h hk
  have e : intsOf ((⟨(confBytes zs).toArray⟩ : ByteArray).data.toList) = zs := by
    show intsOf ((confBytes zs).toArray.toList) = zs
    exact ints_back hz
  rw [readConf, e, if_pos h]
end Go.Proofs.YtohmfmajgehadaaGreatDoor

namespace Go.Proofs.YtohmfmajgehadaaGreatDoor
open Go.RowKit

/-- four blocks laid one behind the other -/
theorem four_log (w : World) (o p q : Obj) : Below w.heap.size w (((w.alloc o).alloc p).alloc q) ∧ (((w.alloc o).alloc p).alloc q).heap[w.heap.size]? = some o ∧ (((w.alloc o).alloc p).alloc q).heap[w.heap.size + 1]? = some p ∧ (((w.alloc o).alloc p).alloc q).heap[w.heap.size + 1 + 1]? = some q := by
  refine ⟨below_more (below_more (below_more (Below.refl _ w) _) _) _, ?_, ?_, ?_⟩
  · show (((w.heap.push o).push p).push q)[w.heap.size]? = some o
    rw [Array.getElem?_push, if_neg (by simp; omega), Array.getElem?_push, if_neg (by simp), Array.getElem?_push, if_pos rfl]
  · show (((w.heap.push o).push p).push q)[w.heap.size + 1]? = some p
    rw [Array.getElem?_push, if_neg (by simp), Array.getElem?_push, if_pos (by simp)]
  · show (((w.heap.push o).push p).push q)[w.heap.size + 1 + 1]? = some q
    rw [Array.getElem?_push, if_pos (by simp)]

/-- a row of the call's own, made between two sizes of memory -/
def OwnAt (w : World) (t : TypeId) (cs : List Value) (n : Nat) (va : Option Addr) (lo hi : Nat) : Prop :=
  n = 0 ∨ ∃ g r, va = some ⟨g, 0, none⟩ ∧ lo ≤ g ∧ g < hi ∧ BlockIs w g t (cs ++ r)
theorem OwnAt.on {w w' : World} {t : TypeId} {cs : List Value} {n : Nat} {va : Option Addr} {lo hi : Nat} (h : OwnAt w t cs n va lo hi) (hb : Below w.heap.size w w') : OwnAt w' t cs n va lo hi :=
  h.imp id fun ⟨g, r, a, b, c, d⟩ => ⟨g, r, a, b, c, d.on hb d.lt⟩
theorem OwnAt.down {w : World} {t : TypeId} {cs : List Value} {n : Nat} {va : Option Addr} {lo hi lo' hi' : Nat} (h : OwnAt w t cs n va lo hi) (h1 : lo' ≤ lo) (h2 : hi ≤ hi') : OwnAt w t cs n va lo' hi' :=
  h.imp id fun ⟨g, r, a, b, c, d⟩ => ⟨g, r, a, Nat.le_trans h1 b, Nat.lt_of_lt_of_le c h2, d⟩
/-- a cell below is written -/
theorem OwnAt.far {w : World} {t : TypeId} {cs : List Value} {n : Nat} {va : Option Addr} {lo b j : Nat} (h : OwnAt w t cs n va lo w.heap.size) (hb : b < lo) (v : Value) : OwnAt (w.setCell ⟨b, j, none⟩ v) t cs n va lo (w.setCell ⟨b, j, none⟩ v).heap.size := by
  rw [World.size_setCell]
  exact h.imp id fun ⟨g, r, a, c, d, e⟩ => ⟨g, r, a, c, d, e.far (by omega) v⟩
/-- nothing but blocks between two sizes has turned -/
def KeptBut (lo hi : Nat) (w w' : World) : Prop := ∀ j t cs, ¬ (lo ≤ j ∧ j < hi) → BlockIs w j t cs → BlockIs w' j t cs
theorem OwnAt.kept {w w' : World} {t : TypeId} {cs : List Value} {n : Nat} {va : Option Addr} {lo hi lo2 hi2 : Nat} (h : OwnAt w t cs n va lo hi) (hk : KeptBut lo2 hi2 w w') (ho : hi ≤ lo2 ∨ hi2 ≤ lo) : OwnAt w' t cs n va lo hi :=
  h.imp id fun ⟨g, r, a, b, c, d⟩ => ⟨g, r, a, b, c, hk _ _ _ (by omega) d⟩
theorem BlockIs.kept {w w' : World} {g lo hi : Nat} {t : TypeId} {cs : List Value} (h : BlockIs w g t cs) (hk : KeptBut lo hi w w') (ho : g < lo ∨ hi ≤ g) : BlockIs w' g t cs := hk _ _ _ (by omega) h
theorem row_ext {x y : World} {base size n : Nat} {t : TypeId} {v : Value} {xs : List Value} (h : x.ownsRow base t size v n xs) (hb : ∀ g cs, BlockIs x g t cs → BlockIs y g t cs) : y.ownsRow base t size v n xs := by
  refine ⟨h.1, h.2.imp id ?_⟩
  rintro ⟨g, cap, cur, a, b, c, r⟩
  have := hb g cur.toList (by unfold BlockIs; rw [c])
  unfold BlockIs at this
  exact ⟨g, cap, cur, a, b, by rw [this], r⟩
theorem OwnAt.ext {x y : World} {t : TypeId} {cs : List Value} {n : Nat} {va : Option Addr} {lo : Nat} (h : OwnAt x t cs n va lo x.heap.size) (hs : x.heap.size ≤ y.heap.size) (hb : ∀ g r, BlockIs x g t (cs ++ r) → BlockIs y g t (cs ++ r)) : OwnAt y t cs n va lo y.heap.size :=
  h.imp id fun ⟨g, r, a, b, c, d⟩ => ⟨g, r, a, b, Nat.lt_of_lt_of_le c hs, hb g r d⟩
theorem row_block {w : World} {base size n : Nat} {t : TypeId} {v : Value} {xs : List Value} (h : w.ownsRow base t size v n xs) {g : Nat} (hg : v.ownBlock = some g) : ∃ cs, BlockIs w g t cs ∧ base ≤ g := by
  obtain ⟨_, (⟨rfl, _⟩ | ⟨g', cap, cur, rfl, hb, hc, _⟩)⟩ := h
  · cases hg
  · cases hg
    exact ⟨cur.toList, by unfold BlockIs; rw [hc], hb⟩
theorem block_one {w : World} {g : Nat} {t t' : TypeId} {cs cs' : List Value} (h : BlockIs w g t cs) (h' : BlockIs w g t' cs') : t = t' ∧ cs = cs' := by
  unfold BlockIs at h h'
  rw [h] at h'
  simp only [Option.some.injEq, Obj.cells.injEq] at h'
  exact ⟨h'.2.1, by simpa using h'.1⟩
end Go.Proofs.YtohmfmajgehadaaGreatDoor

namespace Go.Proofs.YtohmfmajgehadaaGreatDoor
open Go.RowKit

/-- numbers that are numbers, a text that is a text -/
def EntD.Fits (e : EntD) : Prop := (-9223372036854775808 ≤ e.term ∧ e.term ≤ 9223372036854775807) ∧ (-9223372036854775808 ≤ e.kind ∧ e.kind ≤ 9223372036854775807) ∧ e.data.size ≤ maxLen
def entEnc (e : EntD) : List Value := [.int .i64 e.term, .int .i64 e.kind, .string e.data]
/-- the cells of entries -/
def entCells (l : List EntD) : List Value := l.flatMap entEnc
theorem entCells_length (l : List EntD) : (entCells l).length = l.length * 3 := row_length entEnc 3 (fun _ => rfl) l
theorem entCells_take (l : List EntD) (k : Nat) (h : k < l.length) : entCells (l.take (k + 1)) = entCells (l.take k) ++ entEnc l[k] := by
  rw [List.take_succ_eq_append_getElem h, entCells, entCells, List.flatMap_append]
  simp
/-- how many letters -/
def entBulk : List EntD → Int
  | [] => 0
  | f :: l => f.data.size + entBulk l
theorem entBulk_nonneg (l : List EntD) : 0 ≤ entBulk l := by
  induction l with
  | nil => exact Int.le_refl 0
  | cons f l ih => simp only [entBulk]; omega
theorem entBulk_take (l : List EntD) (k : Nat) (h : k < l.length) : entBulk (l.take (k + 1)) = entBulk (l.take k) + l[k].data.size := by
  induction l generalizing k with
  | nil => simp at h
  | cons f l ih =>
    cases k with
    | zero => simp [entBulk]
    | succ k =>
      have := ih k (by simpa using h)
      simp only [List.take_succ_cons, entBulk, List.getElem_cons_succ] at this ⊢
      omega
theorem entBulk_le (l : List EntD) (k : Nat) : entBulk (l.take k) ≤ entBulk l := by
  induction l generalizing k with
  | nil => simp [entBulk]
  | cons f l ih =>
    cases k with
    | zero => have := entBulk_nonneg (f :: l); simpa [entBulk] using this
    | succ k => have := ih k; simp only [List.take_succ_cons, entBulk]; omega
theorem ent_le_bulk {l : List EntD} {f : EntD} (h : f ∈ l) : (f.data.size : Int) ≤ entBulk l := by
  induction l with
  | nil => cases h
  | cons g l ih =>
    simp only [entBulk]
    have := entBulk_nonneg l
    rcases List.mem_cons.1 h with e | e
    · subst e; omega
    · have := ih e; omega
/-- entries that are few and short -/
def EntsSmall (l : List EntD) : Prop := l.length ≤ 1048576 ∧ ∀ f ∈ l, f.data.size ≤ 1048576
theorem entsSmall {l : List EntD} (h : 0 ≤ (1048576 : Int) - l.length - entBulk l) : EntsSmall l := by
  have := entBulk_nonneg l
  exact ⟨by omega, fun f hf => by have := ent_le_bulk hf; omega⟩

/-- entries lie at an address, one behind the other -/
def EntsAt (w : World) (ao : Option Addr) (l : List EntD) : Prop :=
  l ≠ [] → ∃ b off, ao = some ⟨b, off, none⟩ ∧ ∀ j (hj : j < l.length), w.cell? ⟨b, off + j * 3, none⟩ = some (.int .i64 l[j].term) ∧ w.cell? ⟨b, off + j * 3 + 1, none⟩ = some (.int .i64 l[j].kind) ∧ w.cell? ⟨b, off + j * 3 + 2, none⟩ = some (.string l[j].data)
theorem entsAt_of {w : World} {g : Nat} {t : TypeId} {l : List EntD} {r : List Value} (h : BlockIs w g t (entCells l ++ r)) : EntsAt w (some ⟨g, 0, none⟩) l := by
  intro _
  refine ⟨g, 0, rfl, fun j hj => ?_⟩
  rw [Nat.zero_add]
  exact ⟨h.cell (row_at entEnc 3 (fun _ => rfl) l r j 0 hj (by omega)), h.cell (row_at entEnc 3 (fun _ => rfl) l r j 1 hj (by omega)), h.cell (row_at entEnc 3 (fun _ => rfl) l r j 2 hj (by omega))⟩
def EntsFit (l : List EntD) : Prop := ∀ j (hj : j < l.length), l[j].Fits
theorem EntsAt.on {w w' : World} {ao : Option Addr} {l : List EntD} (h : EntsAt w ao l) (hb : Below w.heap.size w w') : EntsAt w' ao l := by
  intro h0
  obtain ⟨b, off, e1, e2⟩ := h h0
  refine ⟨b, off, e1, fun j hj => ?_⟩
  obtain ⟨x, y, z⟩ := e2 j hj
  exact ⟨(hb.cell (p := ⟨b, off + j * 3, none⟩) (World.block_lt_of_cell? w _ x)).trans x, (hb.cell (p := ⟨b, off + j * 3 + 1, none⟩) (World.block_lt_of_cell? w _ y)).trans y, (hb.cell (p := ⟨b, off + j * 3 + 2, none⟩) (World.block_lt_of_cell? w _ z)).trans z⟩
/-- a log as data -/
structure LogD where
  start : Int
  sterm : Int
  ents : List EntD
end Go.Proofs.YtohmfmajgehadaaGreatDoor

namespace Go.Proofs.YtohmfmajgehadaaGreatDoor
open Go.RowKit

theorem OwnAt.ents {w : World} {l : List EntD} {va : Option Addr} {lo hi : Nat} (h : OwnAt w 57 (entCells l) l.length va lo hi) : EntsAt w va l := by
  rcases h with h | ⟨g, r, rfl, _, _, h⟩
  · intro h0
    exact absurd (List.length_eq_zero_iff.1 h) h0
  · exact entsAt_of h
theorem own_of_ents {w : World} {base g : Nat} {l : List EntD} (hb : base ≤ g) (hk : BlockIs w g 57 (entCells l)) : OwnAt w 57 (entCells l) l.length (some ⟨g, 0, none⟩) base w.heap.size :=
  Or.inr ⟨g, [], rfl, hb, hk.lt, by rw [List.append_nil]; exact hk⟩
/-- entries in a row of the call's own -/
theorem own_of_row {w : World} {base : Nat} {v : Value} {l : List EntD} (h : w.ownsRow base 57 3 v l.length (entCells l)) : ∃ va vc, v = .slice va l.length vc ∧ l.length ≤ vc ∧ OwnAt w 57 (entCells l) l.length va base w.heap.size := by
  obtain ⟨_, (⟨rfl, h0⟩ | ⟨g, cap, cur, rfl, hb, hg, hc, _, _, ht⟩)⟩ := h
  · exact ⟨none, 0, by rw [h0], by omega, Or.inl h0⟩
  · have hcur : cur.toList = entCells l ++ cur.toList.drop (l.length * 3) := by rw [← ht, List.take_append_drop]
    have hk : BlockIs w g 57 (entCells l ++ cur.toList.drop (l.length * 3)) := by
      unfold BlockIs
      rw [hg, ← hcur]
    exact ⟨_, _, rfl, hc, Or.inr ⟨g, _, rfl, hb, hk.lt, hk⟩⟩
end Go.Proofs.YtohmfmajgehadaaGreatDoor

namespace Go.Proofs.YtohmfmajgehadaaGreatDoor
open Go.RowKit

theorem EntsAt.drop {w : World} {b off : Nat} {l : List EntD} (h : EntsAt w (some ⟨b, off, none⟩) l) (k : Nat) : EntsAt w (some ⟨b, off + k * 3, none⟩) (l.drop k) := by
  intro hne
  obtain ⟨b', off', e, hc⟩ := h (by intro e; rw [e] at hne; simp at hne)
  simp only [Option.some.injEq, Addr.mk.injEq, and_true] at e
  obtain ⟨rfl, rfl⟩ := e
  refine ⟨b, off + k * 3, rfl, fun j hj => ?_⟩
  have hj2 : k + j < l.length := by simp at hj; omega
  have := hc (k + j) hj2
  simp only [List.getElem_drop]
  rw [show off + k * 3 + j * 3 = off + (k + j) * 3 by omega]
  exact this

theorem entCells_one (l : List EntD) : ∀ u ∈ entCells l, u.oneCell' = true := by
  intro u hu
  simp only [entCells, List.mem_flatMap] at hu
  obtain ⟨e, _, hu⟩ := hu
  simp only [entEnc, List.mem_cons, List.not_mem_nil, or_false] at hu
  rcases hu with rfl | rfl | rfl <;> rfl
/-- a cell of entries that lie in memory -/
theorem ents_cells {w : World} {b off : Nat} {l : List EntD} (h : ∀ j (hj : j < l.length), w.cell? ⟨b, off + j * 3, none⟩ = some (.int .i64 l[j].term) ∧ w.cell? ⟨b, off + j * 3 + 1, none⟩ = some (.int .i64 l[j].kind) ∧ w.cell? ⟨b, off + j * 3 + 2, none⟩ = some (.string l[j].data)) :
    ∀ j u, (entCells l)[j]? = some u → w.cell? ((⟨b, off, none⟩ : Addr).add j) = some u := by
  intro j u hu
  have hlt : j < (entCells l).length := (List.getElem?_eq_some_iff.1 hu).1
  rw [entCells_length] at hlt
  have hj : j / 3 < l.length := by omega
  have hr := row_at entEnc 3 (fun _ => rfl) l [] (j / 3) (j % 3) hj (Nat.mod_lt _ (by omega))
  rw [List.append_nil, show j / 3 * 3 + j % 3 = j by omega] at hr
  have hu' : (entEnc l[j / 3])[j % 3]? = some u := by rw [← hr]; exact hu
  have hadd : (⟨b, off, none⟩ : Addr).add j = ⟨b, off + j, none⟩ := Addr.add_lit _ _ _
  rw [hadd]
  obtain ⟨h0, h1, h2⟩ := h (j / 3) hj
  have h3 : j % 3 = 0 ∨ j % 3 = 1 ∨ j % 3 = 2 := by omega
  rcases h3 with e | e | e
  · rw [e] at hu'
    simp only [entEnc, List.getElem?_cons_zero, Option.some.injEq] at hu'
    rw [← hu', show off + j = off + j / 3 * 3 by omega]
    exact h0
  · rw [e] at hu'
    simp only [entEnc, List.getElem?_cons_succ, List.getElem?_cons_zero, Option.some.injEq] at hu'
    rw [← hu', show off + j = off + j / 3 * 3 + 1 by omega]
    exact h1
  · rw [e] at hu'
    simp only [entEnc, List.getElem?_cons_succ, List.getElem?_cons_zero, Option.some.injEq] at hu'
    rw [← hu', show off + j = off + j / 3 * 3 + 2 by omega]
    exact h2
theorem set_same {cs : List Value} {i : Nat} {v : Value} (h : cs[i]? = some v) : cs.set i v = cs := by
  apply List.ext_getElem?
  intro j
  rw [List.getElem?_set]
  split
  · rename_i e
    subst e
    rw [h]
    have := (List.getElem?_eq_some_iff.1 h).1
    simp [this]
  · rfl
end Go.Proofs.YtohmfmajgehadaaGreatDoor

namespace Go.Proofs.YtohmfmajgehadaaGreatDoor
open Go.RowKit

theorem toEnt_info : (Tryz.prog.info? 57).map (fun i => (i.zero, i.size, i.bytes)) = some (some (.agg #[.int .i64 0, .int .i64 0, .string ByteArray.empty]), 3, 32) := by kernel_rfl
theorem made_ents (n : Nat) : (madeCells (Value.agg #[.int .i64 0, .int .i64 0, .string ByteArray.empty]).cells (n * 3)).toList.length = n * 3 := by
  simp [madeCells]

end Go.Proofs.YtohmfmajgehadaaGreatDoor

namespace Go.Proofs.YtohmfmajgehadaaGreatDoor
open Go.RowKit

/-- entries behind an empty list -/
theorem append_ents {W : World} {g0 : Nat} (h0 : BlockIs W g0 57 []) {vo : Option Addr} {L : List EntD} {c : Nat} (hL : L.length ≤ 1048577) (hE : EntsAt W vo L) :
    ∃ v' W', (Builtin.append_ #[28, 28] 28 #[.slice (some ⟨g0, 0, none⟩) 0 0, .slice vo L.length c]).run Tryz.prog W = .ok v' W' ∧ W'.ownsRow g0 57 3 v' L.length (entCells L) ∧ W.grownBy W' (some g0) := by
  obtain ⟨i0, hi, hz0, hz1, hz2⟩ := info_parts toEnt_info
  have hown : W.ownsRow g0 57 3 (.slice (some ⟨g0, 0, none⟩) 0 0) 0 [] := ⟨by simp, Or.inr ⟨g0, 0, #[], rfl, Nat.le_refl _, h0, by omega, by unfold maxLen; omega, by simp, by simp⟩⟩
  cases vo with
  | some ad =>
    have hnews : ∀ j u, (entCells L)[j]? = some u → W.cell? (ad.add j) = some u := by
      by_cases hne : L = []
      · subst hne
        intro j u hu
        simp [entCells] at hu
      · obtain ⟨b, off, e, hc⟩ := hE hne
        cases e
        exact ents_cells hc
    obtain ⟨v', W', hr, h2, h3, _⟩ := run_append_own (P := Tryz.prog) W g0 28 28 57 i0 _ 3 32 Tryz.underlying28 hi hz0 hz1 hz2 rfl (by decide) _ 0 [] hown ad L.length c (entCells L) (entCells_length L) hnews (entCells_one L) (by unfold maxLen; omega) (by omega) (Nat.le_of_lt h0.lt)
    rw [Nat.zero_add, List.nil_append] at h2
    exact ⟨v', W', hr, h2, h3⟩
  | none =>
    have hne : L = [] := by
      by_cases hne : L = []
      · exact hne
      · obtain ⟨b, off, e, _⟩ := hE hne
        cases e
    subst hne
    refine ⟨.slice (some ⟨g0, 0, none⟩) 0 0, W, ?_, hown, World.grownBy.refl _ _⟩
    simp [Builtin.append_, run_underlying Tryz.underlying28, sizeOf, typeInfo, hi, Builtin.lenOf, Builtin.firstCells, storeCells]
/-- nothing behind an empty list -/
theorem append_nothing {W : World} {g0 : Nat} (vo : Option Addr) (c : Nat) : (Builtin.append_ #[28, 28] 28 #[.slice (some ⟨g0, 0, none⟩) 0 0, .slice vo 0 c]).run Tryz.prog W = .ok (.slice (some ⟨g0, 0, none⟩) 0 0) W := by
  obtain ⟨i0, hi, hz0, hz1, hz2⟩ := info_parts toEnt_info
  have hl : ∀ (x : Addr), (loadCells x 0).run Tryz.prog W = .ok #[] W := fun x => by simpa using run_loadCells_list (P := Tryz.prog) W x [] (by simp)
  cases vo <;> simp [Builtin.append_, run_underlying Tryz.underlying28, sizeOf, typeInfo, hi, Builtin.lenOf, Builtin.firstCells, storeCells, hl]
theorem wpList_append_zero {w : World} {ops : Array Oper} {rest : List Oper} {o : Oper} {a : Act} {Q : Exit → Act → World → Prop} (hgd : o.guard = none) (s x : Operand)
    (ho : o.op = .call { callee := .builtin .append, args := #[s, x], argTypes := #[28, 28] }) (hty : o.type = 28) (g0 : Nat) (vo : Option Addr) (c : Nat) (hs : a.eval s = .slice (some ⟨g0, 0, none⟩) 0 0) (hx : a.eval x = .slice vo 0 c)
    (h : wpList Tryz.prog ops Q rest (a.put o.dst (.slice (some ⟨g0, 0, none⟩) 0 0)) w) : wpList Tryz.prog ops Q (o :: rest) a w := by
  refine wpList_plain hgd fun K hK => ?_
  have hrun := append_nothing (W := w) (g0 := g0) vo c
  rw [← hty] at hrun
  unfold Oper.wp
  rw [hty] at hrun
  simp [execOp, ho, hty, resolve, invoke, builtin, hs, hx, hrun, Result.andThen]
  exact hK _ _ h
/-- one entry behind a row of the call's own -/
theorem append_one {W : World} {v : Value} {k base g : Nat} {L : List EntD} {d : EntD} (hL : k ≤ 1048576) (hbase : base ≤ W.heap.size) (hr : W.ownsRow base 57 3 v k (entCells L)) (hg : BlockIs W g 57 (entEnc d)) :
    ∃ v' W', (Builtin.append_ #[28, 28] 28 #[v, .slice (some ⟨g, 0, none⟩) 1 1]).run Tryz.prog W = .ok v' W' ∧ W'.ownsRow base 57 3 v' (k + 1) (entCells L ++ entEnc d) ∧ W.grownBy W' v.ownBlock := by
  obtain ⟨i0, hi, hz0, hz1, hz2⟩ := info_parts toEnt_info
  have hnews : ∀ j u, (entEnc d)[j]? = some u → W.cell? ((⟨g, 0, none⟩ : Addr).add j) = some u := by
    intro j u hu
    rw [Addr.add_lit, Nat.zero_add]
    exact hg.cell hu
  have hone : ∀ u ∈ entEnc d, u.oneCell' = true := by
    intro u hu
    simp only [entEnc, List.mem_cons, List.not_mem_nil, or_false] at hu
    rcases hu with rfl | rfl | rfl <;> rfl
  obtain ⟨v', W', h1, h2, h3, _⟩ := run_append_own (P := Tryz.prog) W base 28 28 57 i0 _ 3 32 Tryz.underlying28 hi hz0 hz1 hz2 rfl (by decide) v k _ hr ⟨g, 0, none⟩ 1 1 (entEnc d) rfl hnews hone (by unfold maxLen; omega) (by omega) hbase
  exact ⟨v', W', h1, h2, h3⟩
end Go.Proofs.YtohmfmajgehadaaGreatDoor

namespace Go.Proofs.YtohmfmajgehadaaGreatDoor
open Go.RowKit

/-- the term of the last entry, or the one that it begins with -/
def lastT : Int → List EntD → Int
  | t, [] => t
  | _, e :: r => lastT e.term r
/-- entries that are right, their terms never falling -/
def termsOk : Int → List EntD → Bool
  | _, [] => true
  | t, e :: r => entryOk e && decide (t ≤ e.term) && termsOk e.term r
theorem lastT_append (t : Int) (a b : List EntD) : lastT t (a ++ b) = lastT (lastT t a) b := by
  induction a generalizing t with
  | nil => rfl
  | cons e a ih => exact ih e.term
theorem termsOk_append (t : Int) (a b : List EntD) : termsOk t (a ++ b) = (termsOk t a && termsOk (lastT t a) b) := by
  induction a generalizing t with
  | nil => simp [termsOk, lastT]
  | cons e a ih => simp only [List.cons_append, termsOk, lastT, ih, Bool.and_assoc]
theorem lastT_take (t : Int) (l : List EntD) (k : Nat) (h : k < l.length) : lastT t (l.take (k + 1)) = l[k].term := by
  rw [List.take_succ_eq_append_getElem h, lastT_append]
  rfl
theorem lastT_last (t : Int) (l : List EntD) (h : 0 < l.length) : lastT t l = l[l.length - 1].term := by
  have := lastT_take t l (l.length - 1) (by omega)
  rw [List.take_of_length_le (by omega)] at this
  exact this
theorem termsOk_take (t : Int) (l : List EntD) (k : Nat) (h : k < l.length) : termsOk t (l.take (k + 1)) = (termsOk t (l.take k) && (entryOk l[k] && decide (lastT t (l.take k) ≤ l[k].term))) := by
  rw [List.take_succ_eq_append_getElem h, termsOk_append]
  simp [termsOk]
theorem termsOk_not (t : Int) (l : List EntD) (k : Nat) (h : termsOk t (l.take k) = false) : termsOk t l = false := by
  have := termsOk_append t (l.take k) (l.drop k)
  rw [List.take_append_drop, h] at this
  simpa using this
theorem termsOk_each (t : Int) (l : List EntD) (h : termsOk t l = true) : ∀ e ∈ l, entryOk e = true := by
  induction l generalizing t with
  | nil => intro e he; cases he
  | cons a l ih =>
    intro e he
    simp only [termsOk, Bool.and_eq_true] at h
    rcases List.mem_cons.1 he with rfl | he
    · exact h.1.1
    · exact ih _ h.2 e he

/-- a log is right -/
def logOk (s t : Int) (l : List EntD) : Bool := within s 0 1000000 && within t 0 100000 && decide (l.length ≤ 60) && decide (s + l.length ≤ 1000000) && termsOk t l
theorem logOk_iff {s t : Int} {l : List EntD} : logOk s t l = true ↔ (0 ≤ s ∧ s ≤ 1000000) ∧ (0 ≤ t ∧ t ≤ 100000) ∧ l.length ≤ 60 ∧ s + l.length ≤ 1000000 ∧ termsOk t l = true := by
  simp only [logOk, Bool.and_eq_true, within_iff, decide_eq_true_eq, and_assoc]
theorem logOk_start {s t : Int} {l : List EntD} (h : ¬ (0 ≤ s ∧ s ≤ 1000000)) : logOk s t l = false := by
  cases hq : logOk s t l with
  | false => rfl
  | true => exact absurd (logOk_iff.1 hq).1 h
theorem logOk_term {s t : Int} {l : List EntD} (h : ¬ (0 ≤ t ∧ t ≤ 100000)) : logOk s t l = false := by
  cases hq : logOk s t l with
  | false => rfl
  | true => exact absurd (logOk_iff.1 hq).2.1 h
theorem logOk_len {s t : Int} {l : List EntD} (h : ¬ l.length ≤ 60) : logOk s t l = false := by
  cases hq : logOk s t l with
  | false => rfl
  | true => exact absurd (logOk_iff.1 hq).2.2.1 h
theorem logOk_sum {s t : Int} {l : List EntD} (h : ¬ s + l.length ≤ 1000000) : logOk s t l = false := by
  cases hq : logOk s t l with
  | false => rfl
  | true => exact absurd (logOk_iff.1 hq).2.2.2.1 h
theorem logOk_ents {s t : Int} {l : List EntD} (h : termsOk t l = false) : logOk s t l = false := by
  rw [logOk, h, Bool.and_false]
theorem logOk_of {s t : Int} {l : List EntD} (hs : 0 ≤ s ∧ s ≤ 1000000) (ht : 0 ≤ t ∧ t ≤ 100000) (hl : l.length ≤ 60) (h2 : s + l.length ≤ 1000000) (h : termsOk t l = true) : logOk s t l = true := logOk_iff.2 ⟨hs, ht, hl, h2, h⟩

/-- the term of an index -/
def logTerm (s t : Int) (l : List EntD) (i : Int) : Int := if i = s then t else if s < i ∧ i ≤ s + l.length then (l.getD (i - s - 1).toNat ⟨0, 0, ByteArray.empty⟩).term else -1
/-- the log has the index -/
def logHas (s : Int) (n : Nat) (i : Int) : Bool := decide (s ≤ i ∧ i ≤ s + n)
/-- the log in which an entry has an index -/
def putAns (s t : Int) (l : List EntD) (i : Int) (e : EntD) : (Int × Int × List EntD) × Bool :=
  if logOk s t l = true ∧ (s + 1 ≤ i ∧ i ≤ s + l.length + 1) ∧ logOk s t (l.take (i - s - 1).toNat ++ [e]) = true then ((s, t, l.take (i - s - 1).toNat ++ [e]), true) else ((0, 0, []), false)
/-- the log that begins behind an index -/
def behindAns (s t : Int) (l : List EntD) (b tm : Int) : List EntD :=
  if logOk s t l = true ∧ (s ≤ b ∧ b ≤ s + l.length) ∧ logTerm s t l b = tm then l.drop (b - s).toNat else []
/-- how many entries two lists begin with alike -/
def alike : List EntD → List EntD → Nat
  | a :: l, b :: r => if a.term = b.term ∧ a.kind = b.kind ∧ a.data = b.data then alike l r + 1 else 0
  | _, _ => 0
/-- what two logs share -/
def sharedAns (s t : Int) (l : List EntD) (s' t' : Int) (l' : List EntD) : Int :=
  if logOk s t l = true ∧ logOk s' t' l' = true then
    if logHas s l.length (max s s') = true ∧ logHas s' l'.length (max s s') = true ∧ logTerm s t l (max s s') = logTerm s' t' l' (max s s') then max s s' + alike (l.drop (max s s' - s).toNat) (l'.drop (max s s' - s').toNat) else -1
  else -1
end Go.Proofs.YtohmfmajgehadaaGreatDoor

namespace Go.Proofs.YtohmfmajgehadaaGreatDoor
open Go.RowKit

/-- a message -/
structure MsgD where
  kind : Int
  src : Int
  dst : Int
  term : Int
  index : Int
  logTerm : Int
  commit : Int
  ok : Bool
  ents : List EntD
  conf : List Int
  data : ByteArray
  last : Bool
/-- no message -/
def noMsg : MsgD := ⟨0, 0, 0, 0, 0, 0, 0, false, [], [], ByteArray.empty, false⟩

/-- its numbers are in their bounds -/
def headOk (m : MsgD) : Bool := within m.src 1 4 && within m.dst 1 4 && !decide (m.src = m.dst) && (within m.index 0 1000000 && within m.logTerm 0 100000) && (within m.commit 0 1000000 && within m.term 0 100000)
/-- nothing beside the head -/
def bareOk (m : MsgD) : Bool := decide (m.ents.length = 0) && decide (m.conf.length = 0) && decide (m.data.size = 0) && !m.last
/-- entries that may be sent -/
def sentOk (t top : Int) : List EntD → Bool
  | [] => true
  | e :: r => entryOk e && decide (t ≤ e.term) && decide (e.term ≤ top) && sentOk e.term top r
/-- what one of its kind carries -/
def cargoOk (m : MsgD) : Bool :=
  if m.kind = 3 then decide (m.ents.length ≤ 4) && sentOk m.logTerm m.term m.ents && decide (m.conf.length = 0) && decide (m.data.size = 0) && !m.last
  else if m.kind = 5 then decide (m.ents.length = 0) && confOk m.conf && decide (m.data.size ≤ 60)
  else bareOk m
def messageOk (m : MsgD) : Bool := within m.kind 1 6 && headOk m && cargoOk m

theorem sentOk_append (t top : Int) (a b : List EntD) : sentOk t top (a ++ b) = (sentOk t top a && sentOk (lastT t a) top b) := by
  induction a generalizing t with
  | nil => simp [sentOk, lastT]
  | cons e a ih => simp only [List.cons_append, sentOk, lastT, ih, Bool.and_assoc]
theorem sentOk_take (t top : Int) (l : List EntD) (k : Nat) (h : k < l.length) : sentOk t top (l.take (k + 1)) = (sentOk t top (l.take k) && (entryOk l[k] && decide (lastT t (l.take k) ≤ l[k].term) && decide (l[k].term ≤ top))) := by
  rw [List.take_succ_eq_append_getElem h, sentOk_append]
  simp [sentOk]
theorem sentOk_not (t top : Int) (l : List EntD) (k : Nat) (h : sentOk t top (l.take k) = false) : sentOk t top l = false := by
  have := sentOk_append t top (l.take k) (l.drop k)
  rw [List.take_append_drop, h] at this
  simpa using this
/-- their terms never fall: the last one is the greatest -/
theorem termsOk_le (t : Int) (l : List EntD) (h : termsOk t l = true) : t ≤ lastT t l := by
  induction l generalizing t with
  | nil => exact Int.le_refl _
  | cons e l ih =>
    simp only [termsOk, Bool.and_eq_true, decide_eq_true_eq] at h
    exact Int.le_trans h.1.2 (ih _ h.2)
theorem sentOk_is (t top : Int) (l : List EntD) : sentOk t top l = (termsOk t l && (decide (l.length = 0) || decide (lastT t l ≤ top))) := by
  induction l generalizing t with
  | nil => simp [sentOk, termsOk]
  | cons e l ih =>
    have e0 : decide ((e :: l).length = 0) = false := by simp
    rw [sentOk, termsOk, ih, e0, Bool.false_or]
    show _ = (entryOk e && decide (t ≤ e.term) && termsOk e.term l && decide (lastT e.term l ≤ top))
    cases entryOk e <;> cases decide (t ≤ e.term) <;> simp only [Bool.true_and, Bool.false_and]
    cases hl : termsOk e.term l with
    | false => simp
    | true =>
      simp only [Bool.true_and]
      have h1 := termsOk_le _ _ hl
      cases l with
      | nil =>
        have e2 : decide (([] : List EntD).length = 0) = true := rfl
        rw [e2, Bool.true_or, Bool.and_true]
        rfl
      | cons a r =>
        simp only [List.length_cons, Nat.add_one_ne_zero, decide_false, Bool.false_or]
        by_cases h2 : lastT e.term (a :: r) ≤ top
        · simp [h2, Int.le_trans h1 h2]
        · simp [h2]
theorem headOk_iff {m : MsgD} : headOk m = true ↔ (1 ≤ m.src ∧ m.src ≤ 4) ∧ (1 ≤ m.dst ∧ m.dst ≤ 4) ∧ ¬ m.src = m.dst ∧ ((0 ≤ m.index ∧ m.index ≤ 1000000) ∧ 0 ≤ m.logTerm ∧ m.logTerm ≤ 100000) ∧ (0 ≤ m.commit ∧ m.commit ≤ 1000000) ∧ 0 ≤ m.term ∧ m.term ≤ 100000 := by
  simp only [headOk, Bool.and_eq_true, within_iff, Bool.not_eq_true', decide_eq_false_iff_not, and_assoc]
theorem messageOk_kind {m : MsgD} (h : ¬ (1 ≤ m.kind ∧ m.kind ≤ 6)) : messageOk m = false := by
  have : within m.kind 1 6 = false := by
    cases e : within m.kind 1 6 with
    | false => rfl
    | true => exact absurd (within_iff.1 e) h
  simp [messageOk, this]
theorem messageOk_head {m : MsgD} (h : headOk m = false) : messageOk m = false := by simp [messageOk, h]
theorem messageOk_cargo {m : MsgD} (h : cargoOk m = false) : messageOk m = false := by simp [messageOk, h]
theorem messageOk_of {m : MsgD} (h1 : 1 ≤ m.kind ∧ m.kind ≤ 6) (h2 : headOk m = true) : messageOk m = cargoOk m := by
  simp [messageOk, within_iff.2 h1, h2]
theorem messageOk_iff {m : MsgD} : messageOk m = true ↔ (1 ≤ m.kind ∧ m.kind ≤ 6) ∧ headOk m = true ∧ cargoOk m = true := by
  simp only [messageOk, Bool.and_eq_true, within_iff, and_assoc]
theorem messageOk_bare {m : MsgD} (h : m.kind = 1 ∨ m.kind = 2 ∨ m.kind = 4 ∨ m.kind = 6) : (headOk m && bareOk m && true) = messageOk m := by
  have e1 : within m.kind 1 6 = true := within_iff.2 (by omega)
  have n3 : ¬ m.kind = 3 := by omega
  have n5 : ¬ m.kind = 5 := by omega
  simp [messageOk, cargoOk, e1, n3, n5]
theorem messageOk_ask {m : MsgD} (h : m.kind = 3) : (headOk { m with ents := [] } && bareOk { m with ents := [] } && (decide (m.ents.length ≤ 4) && sentOk m.logTerm m.term m.ents)) = messageOk m := by
  have e1 : within m.kind 1 6 = true := within_iff.2 (by omega)
  have e2 : headOk { m with ents := [] } = headOk m := rfl
  have e3 : bareOk { m with ents := [] } = (decide (m.conf.length = 0) && decide (m.data.size = 0) && !m.last) := by simp [bareOk]
  have e4 : cargoOk m = (decide (m.ents.length ≤ 4) && sentOk m.logTerm m.term m.ents && decide (m.conf.length = 0) && decide (m.data.size = 0) && !m.last) := if_pos h
  rw [messageOk, e1, e2, e3, e4]
  generalize headOk m = a
  generalize decide (m.ents.length ≤ 4) = b
  generalize sentOk m.logTerm m.term m.ents = c
  generalize decide (m.conf.length = 0) = e
  generalize decide (m.data.size = 0) = f
  generalize m.last = g
  revert a b c e f g
  decide
theorem messageOk_chunk {m : MsgD} (h : m.kind = 5) : (headOk { m with conf := [], data := ⟨#[]⟩, last := false } && bareOk { m with conf := [], data := ⟨#[]⟩, last := false } && (confOk m.conf && decide (m.data.size ≤ 60))) = messageOk m := by
  have e1 : within m.kind 1 6 = true := within_iff.2 (by omega)
  have e2 : headOk { m with conf := [], data := ⟨#[]⟩, last := false } = headOk m := rfl
  have e3 : bareOk { m with conf := [], data := ⟨#[]⟩, last := false } = decide (m.ents.length = 0) := by
    show (decide (m.ents.length = 0) && true && true && !false) = _
    simp
  have e4 : cargoOk m = (decide (m.ents.length = 0) && confOk m.conf && decide (m.data.size ≤ 60)) := by
    unfold cargoOk
    rw [if_neg (by omega), if_pos h]
  rw [messageOk, e1, e2, e3, e4]
  generalize headOk m = a
  generalize decide (m.ents.length = 0) = b
  generalize confOk m.conf = c
  generalize decide (m.data.size ≤ 60) = e
  revert a b c e
  decide
end Go.Proofs.YtohmfmajgehadaaGreatDoor

namespace Go.Proofs.YtohmfmajgehadaaGreatDoor
open Go.RowKit

/-- a struct is read whole -/
theorem load_whole {n : Nat} {T : TypeId} {fs : Array Field} (hu : Tryz.prog.underlying T = some (.struct fs)) (hs : (Tryz.prog.info? T).map (·.size) = some n) {W : World} {b : Nat} {t : TypeId} {cs : List Value} {r : List Value} (hb : BlockIs W b t (cs ++ r)) (hn : cs.length = n) : (Instr.loadAt T (.pointer (some ⟨b, 0, none⟩))).run Tryz.prog W = .ok (.agg cs.toArray) W := by
  refine run_loadAt_mid W b 0 T cs _ (fun j v hv => ?_) hu rfl (by rw [hs, hn])
  rw [Nat.zero_add]
  exact hb.cell (by rw [List.getElem?_append_left (List.getElem?_eq_some_iff.1 hv).1]; exact hv)
theorem wpList_load_whole {n : Nat} {T : TypeId} {fs : Array Field} (hu : Tryz.prog.underlying T = some (.struct fs)) (hs : (Tryz.prog.info? T).map (·.size) = some n) {ops : Array Oper} {rest : List Oper} {op : Oper} {a : Act} {w : World} {Q : Exit → Act → World → Prop} {b : Nat} {t : TypeId} {cs : List Value} (hb : BlockIs w b t cs) (hn : cs.length = n) (hgd : op.guard = none) (x : Operand) (ho : op.op = .load T x)
    (hx : a.eval x = .pointer (some ⟨b, 0, none⟩)) (h : wpList Tryz.prog ops Q rest (a.put op.dst (.agg cs.toArray)) w) : wpList Tryz.prog ops Q (op :: rest) a w :=
  wpList_plain hgd fun _ hK => by
    unfold Oper.wp execOp
    simp only [ho, hx, load_whole hu hs (r := []) (by rw [List.append_nil]; exact hb) hn, Sem.run_bind, Sem.run_pure, Result.andThen_ok]
    exact hK _ _ h
/-- a struct is written whole -/
theorem store_whole {n : Nat} {T : TypeId} (hs : (Tryz.prog.info? T).map (·.size) = some n) {W : World} {b : Nat} {cs : List Value} (hb : BlockIs W b T cs) (hn : cs.length = n) {A : Array Value} (hA : A.size = n) (h1 : A.all (·.oneCell') = true) : (Instr.storeAt T (.pointer (some ⟨b, 0, none⟩)) (.agg A)).run Tryz.prog W = .ok () (W.setRow b A) := by
  simp only [Instr.storeAt, Instr.sureAddr, Sem.run_bind, Sem.run_pure, Result.andThen_ok, run_storeVar_row W b T T cs.toArray A hb (by rw [hs, hA]) (by simp [hn, hA]) h1]
theorem whole_block {W : World} {b : Nat} {cs : List Value} {t : TypeId} (hb : BlockIs W b t cs) (A : Array Value) : BlockIs (W.setRow b A) b t A.toList := setRow_heap W b _ _ _ _ hb
theorem whole_other {W : World} {b g : Nat} {cs : List Value} {t : TypeId} (hb : BlockIs W g t cs) (hg : b ≠ g) (A : Array Value) : BlockIs (W.setRow b A) g t cs := by
  unfold BlockIs
  rw [setRow_other W b g A (by omega)]
  exact hb
/-- a box that is written whole is as if it had been laid so -/
theorem whole_over (w : World) (c c' : Array Value) (t : TypeId) : (w.alloc (.cells c t)).setRow w.heap.size c' = w.alloc (.cells c' t) := by
  simp only [World.setRow, World.alloc]
  congr 1
  apply Array.ext_getElem?
  intro i
  rw [Array.getElem?_modify]
  by_cases h : w.heap.size = i
  · subst h
    simp
  · have h' : ¬ i = w.heap.size := fun e => h e.symm
    simp [h, h', Array.getElem?_push]
theorem wpList_store_whole {n : Nat} {T : TypeId} (hs : (Tryz.prog.info? T).map (·.size) = some n) {ops : Array Oper} {rest : List Oper} {op : Oper} {a : Act} {w : World} {Q : Exit → Act → World → Prop} {b : Nat} {cs : List Value} (hb : BlockIs w b T cs) (hn : cs.length = n) (hgd : op.guard = none) (x y : Operand) (ho : op.op = .store T x y)
    (A : Array Value) (hx : a.eval x = .pointer (some ⟨b, 0, none⟩)) (hy : a.eval y = .agg A) (hA : A.size = n) (h1 : A.all (·.oneCell') = true)
    (h : wpList Tryz.prog ops Q rest (a.put op.dst undef) (w.setRow b A)) : wpList Tryz.prog ops Q (op :: rest) a w :=
  wpList_plain hgd fun _ hK => by
    unfold Oper.wp execOp
    simp only [ho, hx, hy, store_whole hs hb hn hA h1, Sem.run_bind, Sem.run_pure, Result.andThen_ok]
    exact hK _ _ h
end Go.Proofs.YtohmfmajgehadaaGreatDoor

namespace Go.Proofs.YtohmfmajgehadaaGreatDoor
open Go.RowKit

/-- a message's cells, its lists at these places -/
def msgCells (d : MsgD) (ao : Option Addr) (ac : Nat) (bo : Option Addr) (bc : Nat) : List Value := [.int .i64 d.kind, .int .i64 d.src, .int .i64 d.dst, .int .i64 d.term, .int .i64 d.index, .int .i64 d.logTerm, .int .i64 d.commit, .bool d.ok, .slice ao d.ents.length ac, .slice bo d.conf.length bc, .string d.data, .bool d.last]
theorem msgCells_all (d : MsgD) (ao : Option Addr) (ac : Nat) (bo : Option Addr) (bc : Nat) : (msgCells d ao ac bo bc).toArray.all (·.oneCell') = true := by simp [msgCells, Value.oneCell']
/-- numbers that are numbers, a text that is a text -/
structure MsgD.Fits (d : MsgD) : Prop where
  kind : -9223372036854775808 ≤ d.kind ∧ d.kind ≤ 9223372036854775807
  src : -9223372036854775808 ≤ d.src ∧ d.src ≤ 9223372036854775807
  dst : -9223372036854775808 ≤ d.dst ∧ d.dst ≤ 9223372036854775807
  term : -9223372036854775808 ≤ d.term ∧ d.term ≤ 9223372036854775807
  index : -9223372036854775808 ≤ d.index ∧ d.index ≤ 9223372036854775807
  logTerm : -9223372036854775808 ≤ d.logTerm ∧ d.logTerm ≤ 9223372036854775807
  commit : -9223372036854775808 ≤ d.commit ∧ d.commit ≤ 9223372036854775807
  data : d.data.size ≤ maxLen
/-- its lists and its text are small -/
structure MsgD.Small (d : MsgD) : Prop where
  ents : d.ents.length ≤ 1048576
  each : ∀ f ∈ d.ents, f.data.size ≤ 1048576
  conf : d.conf.length ≤ 1048576
  data : d.data.size ≤ 1048576
set_option maxRecDepth 1000000 in
theorem msg_size : (Tryz.prog.info? 39).map (·.size) = some 12 := by kernel_rfl
end Go.Proofs.YtohmfmajgehadaaGreatDoor

namespace Go.Proofs.YtohmfmajgehadaaGreatDoor
open Go.RowKit

theorem entryText_yes {i : Int} {d : EntD} (h : entryOk d = true) (hi : within i 1 1000000 = true) : entryText i d = (entText i d, true) := by rw [entryText, if_pos (by rw [h, hi]; rfl)]
theorem entryText_no {i : Int} {d : EntD} (h : entryOk d = false ∨ within i 1 1000000 = false) : entryText i d = (ByteArray.empty, false) := by
  rw [entryText, if_neg]
  rcases h with h | h <;> simp [h]
theorem confBytes_intsOf (l : List UInt8) : confBytes (intsOf l) = l := by
  simp only [confBytes, intsOf, List.map_map]
  conv => rhs; rw [← List.map_id l]
  apply List.map_congr_left
  intro b _
  simp
theorem readConf_true {s : ByteArray} (h : (readConf s).2 = true) : confOk (intsOf s.data.toList) = true ∧ (readConf s).1 = intsOf s.data.toList := by
  cases hA : confOk (intsOf s.data.toList) with
  | true => rw [readConf_yes hA]; exact ⟨rfl, rfl⟩
  | false => rw [readConf_no hA] at h; cases h
theorem size_E (V : ByteArray) : ((⟨#[69]⟩ : ByteArray) ++ V).size = 1 + V.size := by rw [ByteArray.size_append]; rfl
theorem size_one (A : ByteArray) (k : UInt8) : (A ++ ⟨#[k]⟩).size = A.size + 1 := by rw [ByteArray.size_append]; rfl
theorem entText_none (n t : Nat) : entText n ⟨t, 1, ByteArray.empty⟩ = (⟨#[69]⟩ : ByteArray) ++ ⟨(vb n).toArray⟩ ++ ⟨(vb t).toArray⟩ ++ ⟨#[1]⟩ := by
  simp only [entText, ByteArray.append_empty, Int.toNat_natCast]
  rfl
theorem empty_data {s : ByteArray} (h : s.size = 0) : s = ByteArray.empty := by
  apply ByteArray.ext
  exact Array.eq_empty_of_size_eq_zero h
theorem entText_of (n t q : Nat) (s : ByteArray) : entryText n ⟨t, q, s⟩ = (entText n ⟨t, q, s⟩, true) ↔ entryText n ⟨t, q, s⟩ = ((⟨#[69]⟩ : ByteArray) ++ ⟨(vb n).toArray⟩ ++ ⟨(vb t).toArray⟩ ++ ⟨#[UInt8.ofNat q]⟩ ++ s, true) := Iff.rfl
theorem vb_size (n : Nat) (h : n ≤ 1000000) : (⟨(vb n).toArray⟩ : ByteArray).size ≤ 1000001 := by
  have := vb_le n
  show (vb n).toArray.size ≤ 1000001
  simp
  omega
end Go.Proofs.YtohmfmajgehadaaGreatDoor

namespace Go.Proofs.YtohmfmajgehadaaGreatDoor
open Go.RowKit

def flagL (x : Bool) : List UInt8 := if x = true then [1] else [0]
def shortL (s : ByteArray) : List UInt8 := vb s.size ++ s.data.toList
def sentL (e : EntD) : List UInt8 := shortL (entText 1 e)
def confB (zs : List Int) : ByteArray := ⟨(confBytes zs).toArray⟩
/-- what stands ahead of the entries -/
def headL (m : MsgD) : List UInt8 := [UInt8.ofNat m.kind.toNat] ++ [UInt8.ofNat m.src.toNat] ++ [UInt8.ofNat m.dst.toNat] ++ vb m.term.toNat ++ vb m.index.toNat ++ vb m.logTerm.toNat ++ vb m.commit.toNat ++ flagL m.ok ++ flagL m.last ++ vb m.ents.length
def msgL (m : MsgD) : List UInt8 := headL m ++ m.ents.flatMap sentL ++ shortL (confB m.conf) ++ shortL m.data
def msgText (m : MsgD) : ByteArray := ⟨(msgL m).toArray⟩
def encAns (m : MsgD) : Value := if messageOk m = true then .tuple #[.string (msgText m), .bool true] else .tuple #[.string ByteArray.empty, .bool false]

theorem entry_facts {e : EntD} (h : entryOk e = true) : (0 ≤ e.term ∧ e.term ≤ 100000) ∧ (1 ≤ e.kind ∧ e.kind ≤ 3) ∧ e.data.size ≤ 120 := by
  have ht : within e.term 0 100000 = true := by
    cases q : within e.term 0 100000 with
    | true => rfl
    | false => rw [entryOk_term q] at h; cases h
  refine ⟨within_iff.1 ht, ?_⟩
  by_cases k1 : e.kind = 1
  · rw [entryOk_one ht k1] at h
    have := of_decide_eq_true h
    omega
  by_cases k2 : e.kind = 2
  · rw [entryOk_two ht k2] at h
    have := confOk_len (readConf_true h).1
    rw [intsOf_length, show e.data.data.toList.length = e.data.size by simp] at this
    omega
  have : entryOk e = true ↔ _ := Iff.rfl
  simp only [entryOk, ht, k1, k2, if_false, Bool.true_and] at h
  by_cases k3 : e.kind = 3
  · simp [k3] at h
    omega
  · simp [k3] at h
theorem entText_size {e : EntD} (h : entryOk e = true) : (entText 1 e).size ≤ 132 := by
  obtain ⟨ht, hk, hd⟩ := entry_facts h
  have h1 := vb_len (n := (1 : Int).toNat) (by decide)
  have h2 := vb_len (n := e.term.toNat) (by omega)
  have s1 : (⟨(vb (1 : Int).toNat).toArray⟩ : ByteArray).size = (vb (1 : Int).toNat).length := by show (vb _).toArray.size = _; simp
  have s2 : (⟨(vb e.term.toNat).toArray⟩ : ByteArray).size = (vb e.term.toNat).length := by show (vb _).toArray.size = _; simp
  have s3 : (⟨#[69]⟩ : ByteArray).size = 1 := rfl
  have s4 : (⟨#[UInt8.ofNat e.kind.toNat]⟩ : ByteArray).size = 1 := rfl
  unfold entText
  simp only [ByteArray.size_append, s1, s2, s3, s4]
  omega
theorem shortL_len {s : ByteArray} (h : s.size ≤ 1000) : (shortL s).length ≤ 5 + s.size := by
  have := vb_len (n := s.size) (by omega)
  unfold shortL
  rw [List.length_append]
  have : s.data.toList.length = s.size := by simp
  omega
theorem sentL_len {e : EntD} (h : entryOk e = true) : (sentL e).length ≤ 137 := by
  have h1 := entText_size h
  have := shortL_len (s := entText 1 e) (by omega)
  unfold sentL
  omega
theorem sentL_sum (l : List EntD) (h : ∀ e ∈ l, entryOk e = true) : (l.flatMap sentL).length ≤ 137 * l.length := by
  induction l with
  | nil => simp
  | cons e l ih =>
    have h1 := sentL_len (h e (List.mem_cons_self ..))
    have h2 := ih (fun x hx => h x (List.mem_cons_of_mem _ hx))
    rw [List.flatMap_cons, List.length_append, List.length_cons]
    omega
theorem flagL_len (x : Bool) : (flagL x).length = 1 := by unfold flagL; split <;> rfl
/-- what is known of a right message -/
structure MsgR (m : MsgD) : Prop where
  kind : 1 ≤ m.kind ∧ m.kind ≤ 6
  src : 1 ≤ m.src ∧ m.src ≤ 4
  dst : 1 ≤ m.dst ∧ m.dst ≤ 4
  term : 0 ≤ m.term ∧ m.term ≤ 100000
  index : 0 ≤ m.index ∧ m.index ≤ 1000000
  logTerm : 0 ≤ m.logTerm ∧ m.logTerm ≤ 100000
  commit : 0 ≤ m.commit ∧ m.commit ≤ 1000000
  ents : m.ents.length ≤ 4
  each : ∀ e ∈ m.ents, entryOk e = true
  conf : confOk m.conf = true ∨ m.conf = []
  data : m.data.size ≤ 60
theorem sentOk_each {t top : Int} {l : List EntD} (h : sentOk t top l = true) : ∀ e ∈ l, entryOk e = true := by
  rw [sentOk_is, Bool.and_eq_true] at h
  exact termsOk_each t l h.1
theorem messageOk_facts {m : MsgD} (h : messageOk m = true) : MsgR m := by
  obtain ⟨hk, hh, hc⟩ := messageOk_iff.1 h
  obtain ⟨h1, h2, _, ⟨h3, h4⟩, h5, h6⟩ := headOk_iff.1 hh
  have bare : bareOk m = true → m.ents = [] ∧ m.conf = [] ∧ m.data.size = 0 := by
    intro q
    simp only [bareOk, Bool.and_eq_true, decide_eq_true_eq, List.length_eq_zero_iff] at q
    exact ⟨q.1.1.1, q.1.1.2, q.1.2⟩
  unfold cargoOk at hc
  by_cases k3 : m.kind = 3
  · rw [if_pos k3] at hc
    simp only [Bool.and_eq_true, decide_eq_true_eq, List.length_eq_zero_iff] at hc
    exact ⟨hk, h1, h2, h6, h3, h4, h5, hc.1.1.1.1, sentOk_each hc.1.1.1.2, Or.inr hc.1.1.2, by omega⟩
  rw [if_neg k3] at hc
  by_cases k5 : m.kind = 5
  · rw [if_pos k5] at hc
    simp only [Bool.and_eq_true, decide_eq_true_eq, List.length_eq_zero_iff] at hc
    exact ⟨hk, h1, h2, h6, h3, h4, h5, by rw [hc.1.1]; simp, by rw [hc.1.1]; simp, Or.inl hc.1.2, hc.2⟩
  rw [if_neg k5] at hc
  obtain ⟨e1, e2, e3⟩ := bare hc
  exact ⟨hk, h1, h2, h6, h3, h4, h5, by rw [e1]; simp, by rw [e1]; simp, Or.inr e2, by omega⟩
theorem MsgR.confs {m : MsgD} (h : MsgR m) : m.conf.length ≤ 4 ∧ ∀ k (hk : k < m.conf.length), 1 ≤ m.conf[k] ∧ m.conf[k] ≤ 4 := by
  rcases h.conf with q | q
  · exact ⟨by have := confOk_len q; omega, fun _ hk => confOk_at q hk⟩
  · rw [q]; exact ⟨by simp, fun _ hk => by simp at hk⟩
theorem confB_size {zs : List Int} : (confB zs).size = zs.length := by
  show (confBytes zs).toArray.size = _
  simp [confBytes_length]
theorem flag_take (l : List EntD) (k : Nat) (h : k < l.length) : (l.take (k + 1)).flatMap sentL = (l.take k).flatMap sentL ++ sentL l[k] := by
  rw [List.take_succ_eq_append_getElem h, List.flatMap_append]
  simp
end Go.Proofs.YtohmfmajgehadaaGreatDoor

namespace Go.Proofs.YtohmfmajgehadaaGreatDoor
open Go.RowKit

/-- what was read as a number is just what would be written -/
theorem rvFrom_text {p l : List UInt8} {n c : Nat} (hp : ∀ x ∈ p, 128 ≤ x.toNat) (h : rvFrom p l = some (n, c)) : (vb n).length = c ∧ p ++ l = vb n ++ (p ++ l).drop c := by
  induction l generalizing p with
  | nil => simp [rvFrom] at h
  | cons b r ih =>
    rw [rvFrom] at h
    split at h
    · cases h
    · split at h
      · rename_i hb
        split at h
        · cases h
        · rename_i hv
          simp only [Option.some.injEq, Prod.mk.injEq] at h
          obtain ⟨rfl, rfl⟩ := h
          have e := (vb_val p b hp hb).2 (fun q => hv (Or.inr q))
          rw [e]
          have e2 : p ++ b :: r = (p ++ [b]) ++ r := by simp
          refine ⟨by simp, ?_⟩
          rw [e2, List.drop_left' (by simp)]
      · rename_i hb
        have := ih (p := p ++ [b]) (by
          intro x hx
          rcases List.mem_append.1 hx with hx | hx
          · exact hp x hx
          · simp at hx; subst hx; omega) h
        simpa using this
theorem rv_text {l : List UInt8} {n c : Nat} (h : rv l = some (n, c)) : (vb n).length = c ∧ l = vb n ++ l.drop c := by
  simpa using rvFrom_text (p := []) (by simp) h
theorem rv_bd {l : List UInt8} {n c : Nat} (h : rv l = some (n, c)) : n ≤ 1000000000 ∧ 0 < c ∧ c ≤ l.length := by
  have := rvFrom_some h
  simpa using this

/-- what is read of the bytes of an entry -/
def readE (l : List UInt8) : Option (Nat × EntD) := match l with
  | [] => none
  | h :: l1 => if h = 69 then
      match rv l1 with
      | none => none
      | some (i, m) => match rv (l1.drop m) with
        | none => none
        | some (t, m2) => match (l1.drop m).drop m2 with
          | [] => none
          | k :: r => if (entryOk ⟨t, k.toNat, ⟨r.toArray⟩⟩ && within i 1 1000000) = true then some (i, ⟨t, k.toNat, ⟨r.toArray⟩⟩) else none
    else none

def readEntry (s : ByteArray) : Option (Nat × EntD) := readE s.data.toList
/-- what both readers answer -/
def reAns : Option (Nat × EntD) → Value
  | none => .tuple #[.int .i64 0, .agg #[.int .i64 0, .int .i64 0, .string ByteArray.empty], .bool false]
  | some (i, e) => .tuple #[.int .i64 i, .agg #[.int .i64 e.term, .int .i64 e.kind, .string e.data], .bool true]

theorem list_at (s : ByteArray) (k : Nat) (h : k < s.size) : s.data.toList.drop k = s[k] :: s.data.toList.drop (k + 1) := drop_cons s k h
theorem list_head (s : ByteArray) (h : 0 < s.size) : s.data.toList = s[0] :: s.data.toList.drop 1 := by
  have := drop_cons s 0 h
  simpa using this

theorem readE_empty {s : ByteArray} (h : s.size = 0) : readEntry s = none := by
  have : s.data.toList = [] := List.eq_nil_of_length_eq_zero (by simpa using h)
  rw [readEntry, this, readE]
theorem readE_head {s : ByteArray} (h : 0 < s.size) (h0 : s[0] ≠ 69) : readEntry s = none := by
  rw [readEntry, list_head s h, readE, if_neg h0]
theorem readE_one {s : ByteArray} (h1 : rv (s.data.toList.drop 1) = none) : readEntry s = none := by
  rcases Nat.eq_zero_or_pos s.size with q | q
  · exact readE_empty q
  · by_cases h0 : s[0] = 69
    · rw [readEntry, list_head s q, readE, if_pos h0, h1]
    · exact readE_head q h0
theorem readE_two {s : ByteArray} {i m : Nat} (h1 : rv (s.data.toList.drop 1) = some (i, m)) (h2 : rv (s.data.toList.drop (1 + m)) = none) : readEntry s = none := by
  rcases Nat.eq_zero_or_pos s.size with q | q
  · exact readE_empty q
  · by_cases h0 : s[0] = 69
    · rw [readEntry, list_head s q, readE, if_pos h0, h1]
      simp only
      rw [List.drop_drop, h2]
    · exact readE_head q h0
theorem readE_end {s : ByteArray} {i m t c : Nat} (h1 : rv (s.data.toList.drop 1) = some (i, m)) (h2 : rv (s.data.toList.drop (1 + m)) = some (t, c)) (h3 : s.size ≤ 1 + m + c) : readEntry s = none := by
  rcases Nat.eq_zero_or_pos s.size with q | q
  · exact readE_empty q
  · by_cases h0 : s[0] = 69
    · rw [readEntry, list_head s q, readE, if_pos h0, h1]
      simp only
      rw [List.drop_drop, h2]
      simp only
      rw [List.drop_drop, List.drop_eq_nil_of_le (by simp; omega)]
    · exact readE_head q h0
/-- the data behind a place -/
theorem data_from (s : ByteArray) (k : Nat) : (⟨(s.data.toList.drop k).toArray⟩ : ByteArray) = s.extract k s.size := by
  apply ByteArray.ext
  apply Array.toList_inj.1
  rw [extract_eq, List.take_of_length_le (by simp)]
theorem readE_go {s : ByteArray} {i m t c : Nat} (q : 0 < s.size) (h0 : s[0] = 69) (h1 : rv (s.data.toList.drop 1) = some (i, m)) (h2 : rv (s.data.toList.drop (1 + m)) = some (t, c)) (h3 : 1 + m + c < s.size) :
    readEntry s = if (entryOk ⟨t, s[1 + m + c].toNat, s.extract (1 + m + c + 1) s.size⟩ && within i 1 1000000) = true then some (i, ⟨t, s[1 + m + c].toNat, s.extract (1 + m + c + 1) s.size⟩) else none := by
  rw [readEntry, list_head s q, readE, if_pos h0, h1]
  simp only
  rw [List.drop_drop, h2]
  simp only
  rw [List.drop_drop, list_at s _ h3]
  simp only [data_from]

theorem readE_at {s : ByteArray} {i m t c a : Nat} (q : 0 < s.size) (h0 : s[0] = 69) (h1 : rv (s.data.toList.drop 1) = some (i, m)) (h2 : rv (s.data.toList.drop (1 + m)) = some (t, c)) (ha : 1 + m + c = a) (h3 : a < s.size) :
    readEntry s = if (entryOk ⟨t, s[a].toNat, s.extract (a + 1) s.size⟩ && within i 1 1000000) = true then some (i, ⟨t, s[a].toNat, s.extract (a + 1) s.size⟩) else none := by
  subst ha
  exact readE_go q h0 h1 h2 h3
theorem readE_index {s : ByteArray} {i m : Nat} (h1 : rv (s.data.toList.drop 1) = some (i, m)) (hi : within i 1 1000000 = false) : readEntry s = none := by
  rcases Nat.eq_zero_or_pos s.size with q | q
  · exact readE_empty q
  · by_cases h0 : s[0] = 69
    · cases h2 : rv (s.data.toList.drop (1 + m)) with
      | none => exact readE_two h1 h2
      | some p =>
        obtain ⟨t, c⟩ := p
        by_cases h3 : s.size ≤ 1 + m + c
        · exact readE_end h1 h2 h3
        · rw [readE_go q h0 h1 h2 (by omega), if_neg (by simp [hi])]
    · exact readE_head q h0

/-- the whole text, out of what was read of it -/
theorem text_read {s : ByteArray} {i m t c : Nat} (q : 0 < s.size) (h1 : rv (s.data.toList.drop 1) = some (i, m)) (h2 : rv (s.data.toList.drop (1 + m)) = some (t, c)) (h3 : 1 + m + c < s.size) :
    s.data.toList = s[0] :: (vb i ++ (vb t ++ (s[1 + m + c] :: (s.extract (1 + m + c + 1) s.size).data.toList))) := by
  have e1 := (rv_text h1).2
  have e2 := (rv_text h2).2
  rw [List.drop_drop] at e1 e2
  rw [list_at s _ h3] at e2
  rw [e2] at e1
  have e0 := list_head s q
  rw [e1] at e0
  rw [e0]
  congr 4
  rw [extract_eq, List.take_of_length_le (by simp)]
theorem entText_list (i : Int) (e : EntD) : (entText i e).data.toList = 69 :: (vb i.toNat ++ (vb e.term.toNat ++ (UInt8.ofNat e.kind.toNat :: e.data.data.toList))) := by
  simp [entText, ByteArray.data_append]
/-- what is written of what was read is the text itself, just when it begins as an entry does -/
theorem back_same {s : ByteArray} {i m t c : Nat} (q : 0 < s.size) (h1 : rv (s.data.toList.drop 1) = some (i, m)) (h2 : rv (s.data.toList.drop (1 + m)) = some (t, c)) (h3 : 1 + m + c < s.size) :
    ((entText i ⟨t, s[1 + m + c].toNat, s.extract (1 + m + c + 1) s.size⟩).toList == s.toList) = decide (s[0] = 69) := by
  rw [ByteArray.toList_eq, ByteArray.toList_eq, entText_list, text_read q h1 h2 h3]
  simp only [Int.toNat_natCast, UInt8.ofNat_toNat]
  by_cases h : s[0] = 69
  · simp [h]
  · have h' : ¬ (69 : UInt8) = s[0] := fun x => h x.symm
    simp [h, h']
end Go.Proofs.YtohmfmajgehadaaGreatDoor

namespace Go.Proofs.YtohmfmajgehadaaGreatDoor
open Go.RowKit

/-- where a short text that is read at a begins and ends -/
def rs (s : ByteArray) (a : Int) : Option (Nat × Nat) :=
  if 0 ≤ a ∧ a ≤ s.size then
    (match rv (s.data.toList.drop a.toNat) with
    | none => none
    | some (n, c) => if n ≤ 20000 ∧ a.toNat + c + n ≤ s.size then some (a.toNat + c, a.toNat + c + n) else none)
  else none

def rsAns (s : ByteArray) : Option (Nat × Nat) → Value
  | none => .tuple #[.string ByteArray.empty, .int .i64 0, .bool false]
  | some (b, e) => .tuple #[.string (s.extract b e), .int .i64 e, .bool true]

theorem rs_out {s : ByteArray} {a : Int} (h : a < 0 ∨ (s.size : Int) < a) : rs s a = none := by
  unfold rs; rw [if_neg (by omega)]
theorem rs_none {s : ByteArray} {a : Nat} (ha : a ≤ s.size) (h : rv (s.data.toList.drop a) = none) : rs s a = none := by
  unfold rs; rw [if_pos (by omega)]; simp [h]
theorem rs_big {s : ByteArray} {a n c : Nat} (ha : a ≤ s.size) (h : rv (s.data.toList.drop a) = some (n, c)) (hb : ¬ (n ≤ 20000 ∧ a + c + n ≤ s.size)) : rs s a = none := by
  unfold rs; rw [if_pos (by omega)]; simp only [Int.toNat_natCast, h]; rw [if_neg hb]
theorem rs_yes {s : ByteArray} {a n c : Nat} (ha : a ≤ s.size) (h : rv (s.data.toList.drop a) = some (n, c)) (hb : n ≤ 20000 ∧ a + c + n ≤ s.size) : rs s a = some (a + c, a + c + n) := by
  unfold rs; rw [if_pos (by omega)]; simp only [Int.toNat_natCast, h]; rw [if_pos hb]
theorem rv_fits {s : ByteArray} {a n c : Nat} (ha : a ≤ s.size) (h : rv (s.data.toList.drop a) = some (n, c)) : n ≤ 1000000000 ∧ 0 < c ∧ a + c ≤ s.size := by
  have h1 := rvFrom_some h
  have h2 : s.data.toList.length = s.size := by simp
  simp only [List.length_drop, List.length_nil, h2] at h1
  omega
end Go.Proofs.YtohmfmajgehadaaGreatDoor

namespace Go.Proofs.YtohmfmajgehadaaGreatDoor
open Go.RowKit

/-- a number at a place, and the place behind it -/
def numAt (s : ByteArray) (lim k : Nat) : Option (Nat × Nat) := match rv (s.data.toList.drop k) with
  | some (n, c) => if n ≤ lim then some (n, k + c) else none
  | none => none
/-- a short text at a place, and the place behind it -/
def txtAt (s : ByteArray) (k : Nat) : Option (ByteArray × Nat) := match rs s (k : Int) with
  | some (x, y) => some (s.extract x y, y)
  | none => none
theorem numAt_fits {s : ByteArray} {lim k n k' : Nat} (hk : k ≤ s.size) (h : numAt s lim k = some (n, k')) : n ≤ lim ∧ n ≤ 1000000000 ∧ k < k' ∧ k' ≤ s.size ∧ s.data.toList.drop k = vb n ++ s.data.toList.drop k' := by
  unfold numAt at h
  cases hv : rv (s.data.toList.drop k) with
  | none => rw [hv] at h; cases h
  | some p =>
    obtain ⟨a, c⟩ := p
    rw [hv] at h
    dsimp only at h
    have hf := rv_fits hk hv
    obtain ⟨_, l2⟩ := rv_text hv
    rw [List.drop_drop] at l2
    by_cases hl : a ≤ lim
    · rw [if_pos hl] at h
      cases h
      exact ⟨hl, hf.1, by omega, hf.2.2, l2⟩
    · rw [if_neg hl] at h
      cases h
theorem txtAt_fits {s : ByteArray} {k k' : Nat} {t : ByteArray} (hk : k ≤ s.size) (h : txtAt s k = some (t, k')) : t.size ≤ 20000 ∧ k < k' ∧ k' ≤ s.size ∧ s.data.toList.drop k = vb t.size ++ (t.data.toList ++ s.data.toList.drop k') := by
  unfold txtAt at h
  cases hv : rv (s.data.toList.drop k) with
  | none => rw [rs_none hk hv] at h; cases h
  | some p =>
    obtain ⟨n, c⟩ := p
    have hf := rv_fits hk hv
    by_cases hb : n ≤ 20000 ∧ k + c + n ≤ s.size
    · rw [rs_yes hk hv hb] at h
      dsimp only at h
      cases h
      have hz : (s.extract (k + c) (k + c + n)).size = n := by rw [ByteArray.size_extract]; omega
      obtain ⟨_, l2⟩ := rv_text hv
      rw [List.drop_drop] at l2
      refine ⟨by rw [hz]; exact hb.1, by omega, hb.2, ?_⟩
      rw [hz]
      conv => lhs; rw [l2]
      congr 1
      rw [extract_eq, show k + c + n - (k + c) = n by omega]
      conv => lhs; rw [← List.take_append_drop n (s.data.toList.drop (k + c))]
      rw [List.drop_drop]
    · rw [rs_big hk hv hb] at h
      cases h
end Go.Proofs.YtohmfmajgehadaaGreatDoor

namespace Go.Proofs.YtohmfmajgehadaaGreatDoor
open Go.RowKit

/-- what is read behind one that went wrong or not -/
def nSt (s : ByteArray) : Option Nat → Option Nat
  | none => none
  | some k => (numAt s 1000000000 k).map fun p => p.2
def nVal (s : ByteArray) : Option Nat → Nat
  | none => 0
  | some k => match numAt s 1000000000 k with
    | none => 0
    | some p => p.1
def tSt (s : ByteArray) : Option Nat → Option Nat
  | none => none
  | some k => (txtAt s k).map fun p => p.2
def tVal (s : ByteArray) : Option Nat → ByteArray
  | none => ByteArray.empty
  | some k => match txtAt s k with
    | none => ByteArray.empty
    | some p => p.1
theorem numAt_lim {s : ByteArray} {lim k : Nat} (hk : k ≤ s.size) : numAt s lim k = (numAt s 1000000000 k).bind fun p => if p.1 ≤ lim then some p else none := by
  unfold numAt
  cases h : rv (s.data.toList.drop k) with
  | none => rfl
  | some p =>
    obtain ⟨n, c⟩ := p
    have := (rv_fits hk h).1
    simp only [if_pos this, Option.bind_some]
end Go.Proofs.YtohmfmajgehadaaGreatDoor

namespace Go.Proofs.YtohmfmajgehadaaGreatDoor
open Go.RowKit

structure CommandD where
  op : Int
  token : Int
  seq : Int
  key : ByteArray
  val : ByteArray
  ver : Int
/-- numbers that are numbers, texts that are texts -/
def CommandD.Fits (e : CommandD) : Prop := (-9223372036854775808 ≤ e.op ∧ e.op ≤ 9223372036854775807) ∧ (-9223372036854775808 ≤ e.token ∧ e.token ≤ 9223372036854775807) ∧ (-9223372036854775808 ≤ e.seq ∧ e.seq ≤ 9223372036854775807) ∧ e.key.size ≤ maxLen ∧ e.val.size ≤ maxLen ∧ (-9223372036854775808 ≤ e.ver ∧ e.ver ≤ 9223372036854775807)
def commandEnc (e : CommandD) : List Value := [.int .i64 e.op, .int .i64 e.token, .int .i64 e.seq, .string e.key, .string e.val, .int .i64 e.ver]
/-- the cells of a row -/
def commandCells (l : List CommandD) : List Value := l.flatMap commandEnc
theorem commandCells_length (l : List CommandD) : (commandCells l).length = l.length * 6 := row_length commandEnc 6 (fun _ => rfl) l
theorem commandCells_take (l : List CommandD) (k : Nat) (h : k < l.length) : commandCells (l.take (k + 1)) = commandCells (l.take k) ++ commandEnc l[k] := by
  rw [List.take_succ_eq_append_getElem h, commandCells, commandCells, List.flatMap_append]
  simp
/-- how many letters -/
def commandOne (e : CommandD) : Int := (e.key.size : Int) + (e.val.size : Int)
theorem commandOne_nonneg (e : CommandD) : 0 ≤ commandOne e := by unfold commandOne; omega
def commandBulk : List CommandD → Int
  | [] => 0
  | f :: l => commandOne f + commandBulk l
theorem commandBulk_nonneg (l : List CommandD) : 0 ≤ commandBulk l := by
  induction l with
  | nil => exact Int.le_refl 0
  | cons f l ih => have := commandOne_nonneg f; simp only [commandBulk]; omega
theorem commandBulk_take (l : List CommandD) (k : Nat) (h : k < l.length) : commandBulk (l.take (k + 1)) = commandBulk (l.take k) + commandOne l[k] := by
  induction l generalizing k with
  | nil => simp at h
  | cons f l ih =>
    cases k with
    | zero => simp [commandBulk]
    | succ k =>
      have := ih k (by simpa using h)
      simp only [List.take_succ_cons, commandBulk, List.getElem_cons_succ] at this ⊢
      omega
theorem commandBulk_le (l : List CommandD) (k : Nat) : commandBulk (l.take k) ≤ commandBulk l := by
  induction l generalizing k with
  | nil => simp [commandBulk]
  | cons f l ih =>
    cases k with
    | zero => have := commandBulk_nonneg (f :: l); simpa [commandBulk] using this
    | succ k => have := ih k; simp only [List.take_succ_cons, commandBulk]; omega
theorem command_le_bulk {l : List CommandD} {f : CommandD} (h : f ∈ l) : commandOne f ≤ commandBulk l := by
  induction l with
  | nil => cases h
  | cons g l ih =>
    simp only [commandBulk]
    have := commandBulk_nonneg l
    have := commandOne_nonneg g
    rcases List.mem_cons.1 h with e | e
    · subst e; omega
    · have := ih e; omega
/-- few and short -/
def CommandsSmall (l : List CommandD) : Prop := l.length ≤ 1048576 ∧ ∀ f ∈ l, commandOne f ≤ 1048576
theorem commandsSmall {l : List CommandD} (h : 0 ≤ (1048576 : Int) - l.length - commandBulk l) : CommandsSmall l := by
  have := commandBulk_nonneg l
  exact ⟨by omega, fun f hf => by have := command_le_bulk hf; omega⟩
/-- they lie at an address, one behind the other -/
def CommandsAt (w : World) (ao : Option Addr) (l : List CommandD) : Prop :=
  l ≠ [] → ∃ b off, ao = some ⟨b, off, none⟩ ∧ ∀ j (hj : j < l.length), w.cell? ⟨b, off + j * 6, none⟩ = some (.int .i64 l[j].op) ∧ w.cell? ⟨b, off + j * 6 + 1, none⟩ = some (.int .i64 l[j].token) ∧ w.cell? ⟨b, off + j * 6 + 2, none⟩ = some (.int .i64 l[j].seq) ∧ w.cell? ⟨b, off + j * 6 + 3, none⟩ = some (.string l[j].key) ∧ w.cell? ⟨b, off + j * 6 + 4, none⟩ = some (.string l[j].val) ∧ w.cell? ⟨b, off + j * 6 + 5, none⟩ = some (.int .i64 l[j].ver)
theorem commandsAt_of {w : World} {g : Nat} {t : TypeId} {l : List CommandD} {r : List Value} (h : BlockIs w g t (commandCells l ++ r)) : CommandsAt w (some ⟨g, 0, none⟩) l := by
  intro _
  refine ⟨g, 0, rfl, fun j hj => ?_⟩
  rw [Nat.zero_add]
  exact ⟨h.cell (row_at commandEnc 6 (fun _ => rfl) l r j 0 hj (by omega)), h.cell (row_at commandEnc 6 (fun _ => rfl) l r j 1 hj (by omega)), h.cell (row_at commandEnc 6 (fun _ => rfl) l r j 2 hj (by omega)), h.cell (row_at commandEnc 6 (fun _ => rfl) l r j 3 hj (by omega)), h.cell (row_at commandEnc 6 (fun _ => rfl) l r j 4 hj (by omega)), h.cell (row_at commandEnc 6 (fun _ => rfl) l r j 5 hj (by omega))⟩
def CommandsFit (l : List CommandD) : Prop := ∀ j (hj : j < l.length), l[j].Fits
theorem CommandsAt.on {w w' : World} {ao : Option Addr} {l : List CommandD} (h : CommandsAt w ao l) (hb : Below w.heap.size w w') : CommandsAt w' ao l := by
  intro h0
  obtain ⟨b, off, e1, e2⟩ := h h0
  refine ⟨b, off, e1, fun j hj => ?_⟩
  obtain ⟨x0, x1, x2, x3, x4, x5⟩ := e2 j hj
  exact ⟨(hb.cell (p := ⟨b, off + j * 6, none⟩) (World.block_lt_of_cell? w _ x0)).trans x0, (hb.cell (p := ⟨b, off + j * 6 + 1, none⟩) (World.block_lt_of_cell? w _ x1)).trans x1, (hb.cell (p := ⟨b, off + j * 6 + 2, none⟩) (World.block_lt_of_cell? w _ x2)).trans x2, (hb.cell (p := ⟨b, off + j * 6 + 3, none⟩) (World.block_lt_of_cell? w _ x3)).trans x3, (hb.cell (p := ⟨b, off + j * 6 + 4, none⟩) (World.block_lt_of_cell? w _ x4)).trans x4, (hb.cell (p := ⟨b, off + j * 6 + 5, none⟩) (World.block_lt_of_cell? w _ x5)).trans x5⟩
/-- cells of a list, written -/
theorem command_sets (p : List Value) (a0 a1 a2 a3 a4 a5 o0 o1 o2 o3 o4 o5 : Value) (r : List Value) : ((((((p ++ o0 :: o1 :: o2 :: o3 :: o4 :: o5 :: r).set (p.length) a0).set (p.length + 1) a1).set (p.length + 2) a2).set (p.length + 3) a3).set (p.length + 4) a4).set (p.length + 5) a5 = p ++ a0 :: a1 :: a2 :: a3 :: a4 :: a5 :: r := by
  rw [List.set_append_right _ _ (Nat.le_refl _), List.set_append_right _ _ (by omega), List.set_append_right _ _ (by omega), List.set_append_right _ _ (by omega), List.set_append_right _ _ (by omega), List.set_append_right _ _ (by omega)]
  simp
theorem command_set_other {cs : List Value} {i j : Nat} {v u : Value} (h : cs[j]? = some u) (hij : i ≠ j) : (cs.set i v)[j]? = some u := by
  rw [List.getElem?_set_ne hij]; exact h
end Go.Proofs.YtohmfmajgehadaaGreatDoor

namespace Go.Proofs.YtohmfmajgehadaaGreatDoor
open Go.RowKit

def commandOk (d : CommandD) : Bool :=
  within d.token 0 1000000 && (within d.seq 0 1000000 && (within d.op 1 5 &&
    (if d.op = 1 then decide (d.token = 0) && (decide (d.seq = 0) && (decide (d.key.size = 0) && (decide (d.val.size = 0) && decide (d.ver = 0))))
      else within (d.key.size : Int) 1 8 && (decide ((d.val.size : Int) ≤ 20) &&
        (if d.op = 2 then decide (d.ver = 0) else if d.op = 5 then within d.ver 1 1000000000 else decide (d.val.size = 0) && decide (d.ver = 0))))))

theorem empty_text (s : ByteArray) : (s.toList == []) = decide (s.size = 0) := by
  rw [ByteArray.toList_eq]
  by_cases h : s.size = 0
  · have : s.data.toList = [] := List.eq_nil_of_length_eq_zero (by simpa using h)
    simp [this, h]
  · have : (s.data.toList == []) = false := by
      rw [beq_eq_false_iff_ne]
      intro e
      exact h (by simpa using congrArg List.length e)
    rw [this]
    simp [h]
end Go.Proofs.YtohmfmajgehadaaGreatDoor

namespace Go.Proofs.YtohmfmajgehadaaGreatDoor
open Go.RowKit

def varB (n : Nat) : ByteArray := ⟨(vb n).toArray⟩
def shortB (s : ByteArray) : ByteArray := varB s.size ++ s
def cmdText (d : CommandD) : ByteArray := (⟨#[UInt8.ofNat d.op.toNat]⟩ : ByteArray) ++ varB d.token.toNat ++ varB d.seq.toNat ++ shortB d.key ++ shortB d.val ++ varB d.ver.toNat
def cmdAns (d : CommandD) : Value := if commandOk d = true then .tuple #[.string (cmdText d), .bool true] else .tuple #[.string ByteArray.empty, .bool false]
theorem cmd_bounds {x : CommandD} (h : commandOk x = true) : (1 ≤ x.op ∧ x.op ≤ 5) ∧ (0 ≤ x.token ∧ x.token ≤ 1000000) ∧ (0 ≤ x.seq ∧ x.seq ≤ 1000000) ∧ x.key.size ≤ 8 ∧ x.val.size ≤ 20 ∧ (0 ≤ x.ver ∧ x.ver ≤ 1000000000) := by
  simp only [commandOk, within, Bool.and_eq_true, decide_eq_true_eq] at h
  obtain ⟨h1, h2, h3, h4⟩ := h
  refine ⟨h3, h1, h2, ?_⟩
  by_cases e1 : x.op = 1
  · simp only [e1, if_true, Bool.and_eq_true, decide_eq_true_eq] at h4
    omega
  · simp only [e1, if_false, Bool.and_eq_true, decide_eq_true_eq] at h4
    obtain ⟨a, b, c⟩ := h4
    by_cases e2 : x.op = 2
    · simp only [e2, if_true, decide_eq_true_eq] at c
      omega
    · by_cases e5 : x.op = 5
      · rw [if_neg e2, if_pos e5] at c
        first | omega | (simp only [Bool.and_eq_true, decide_eq_true_eq] at c; omega)
      · rw [if_neg e2, if_neg e5] at c
        first | omega | (simp only [Bool.and_eq_true, decide_eq_true_eq] at c; omega)
theorem varB_list (n : Nat) : (varB n).data.toList = vb n := by simp [varB]
theorem cmdText_list (d : CommandD) : (cmdText d).data.toList = UInt8.ofNat d.op.toNat :: (vb d.token.toNat ++ (vb d.seq.toNat ++ ((vb d.key.size ++ d.key.data.toList) ++ ((vb d.val.size ++ d.val.data.toList) ++ vb d.ver.toNat)))) := by
  simp [cmdText, shortB, ByteArray.data_append, Array.toList_append, varB_list]
end Go.Proofs.YtohmfmajgehadaaGreatDoor

namespace Go.Proofs.YtohmfmajgehadaaGreatDoor
open Go.RowKit

def byteAt (s : ByteArray) (k : Nat) : Option (Nat × Nat) := match s.data.toList[k]? with
  | some b => some (b.toNat, k + 1)
  | none => none
theorem byteAt_fits {s : ByteArray} {k n k' : Nat} (h : byteAt s k = some (n, k')) : n ≤ 255 ∧ k' = k + 1 ∧ k < s.size ∧ s.data.toList.drop k = UInt8.ofNat n :: s.data.toList.drop (k + 1) := by
  unfold byteAt at h
  cases hb : s.data.toList[k]? with
  | none => rw [hb] at h; cases h
  | some b =>
    rw [hb] at h
    cases h
    obtain ⟨hk, e⟩ := List.getElem?_eq_some_iff.1 hb
    have := b.toNat_lt
    refine ⟨by omega, rfl, by simpa using hk, ?_⟩
    rw [List.drop_eq_getElem_cons hk, e]
    simp
def cmdAt (s : ByteArray) : Option (CommandD × Nat) :=
  (byteAt s 0).bind fun p0 => (numAt s 1000000 p0.2).bind fun p1 => (numAt s 1000000 p1.2).bind fun p2 => (txtAt s p2.2).bind fun p3 => (txtAt s p3.2).bind fun p4 => (numAt s 1000000000 p4.2).bind fun p5 =>
    if commandOk ⟨p0.1, p1.1, p2.1, p3.1, p4.1, p5.1⟩ = true then some (⟨p0.1, p1.1, p2.1, p3.1, p4.1, p5.1⟩, p5.2) else none
def readCmd (s : ByteArray) : Option CommandD := (cmdAt s).bind fun p => if p.2 = s.size then some p.1 else none

def cmd5 (s : ByteArray) (b : Nat) : CommandD := ⟨b, nVal s (some 1), nVal s (nSt s (some 1)), tVal s (nSt s (nSt s (some 1))), tVal s (tSt s (nSt s (nSt s (some 1)))), nVal s (tSt s (tSt s (nSt s (nSt s (some 1)))))⟩
def end5 (s : ByteArray) : Option Nat := nSt s (tSt s (tSt s (nSt s (nSt s (some 1)))))
def askCmd (s : ByteArray) (b : Nat) : Option CommandD := if (end5 s).isSome = true ∧ commandOk (cmd5 s b) = true ∧ cmdText (cmd5 s b) = s then some (cmd5 s b) else none
/-- both ways are one -/
theorem ask_cmd {s : ByteArray} {b : Nat} (hb : byteAt s 0 = some (b, 1)) : askCmd s b = readCmd s := by
  have fb := byteAt_fits hb
  have hk1 : 1 ≤ s.size := fb.2.2.1
  have hl : s.data.toList.length = s.size := by simp
  unfold readCmd cmdAt
  rw [hb]
  simp only [Option.bind_some]
  cases h1 : numAt s 1000000000 1 with
  | none =>
    rw [numAt_lim hk1, h1]
    exact if_neg (by simp [end5, nSt, tSt, h1])
  | some p1 =>
    obtain ⟨n1, k2⟩ := p1
    have f1 := numAt_fits hk1 h1
    have hk2 := f1.2.2.2.1
    cases h2 : numAt s 1000000000 k2 with
    | none =>
      have e : askCmd s b = none := if_neg (by simp [end5, nSt, tSt, h1, h2])
      rw [e, numAt_lim hk1, h1]
      simp only [Option.bind_some]
      split
      · simp only [Option.bind_some, numAt_lim (lim := 1000000) hk2, h2]
        rfl
      · rfl
    | some p2 =>
      obtain ⟨n2, k3⟩ := p2
      have f2 := numAt_fits hk2 h2
      have hk3 := f2.2.2.2.1
      cases h3 : txtAt s k3 with
      | none =>
        have e : askCmd s b = none := if_neg (by simp [end5, nSt, tSt, h1, h2, h3])
        rw [e, numAt_lim hk1, h1]
        simp only [Option.bind_some]
        split
        · simp only [Option.bind_some, numAt_lim (lim := 1000000) hk2, h2]
          split <;> simp [h3]
        · rfl
      | some p3 =>
        obtain ⟨t3, k4⟩ := p3
        have f3 := txtAt_fits hk3 h3
        have hk4 := f3.2.2.1
        cases h4 : txtAt s k4 with
        | none =>
          have e : askCmd s b = none := if_neg (by simp [end5, nSt, tSt, h1, h2, h3, h4])
          rw [e, numAt_lim hk1, h1]
          simp only [Option.bind_some]
          split
          · simp only [Option.bind_some, numAt_lim (lim := 1000000) hk2, h2]
            split <;> simp [h3, h4]
          · rfl
        | some p4 =>
          obtain ⟨t4, k5⟩ := p4
          have f4 := txtAt_fits hk4 h4
          have hk5 := f4.2.2.1
          cases h5 : numAt s 1000000000 k5 with
          | none =>
            have e : askCmd s b = none := if_neg (by simp [end5, nSt, tSt, h1, h2, h3, h4, h5])
            rw [e, numAt_lim hk1, h1]
            simp only [Option.bind_some]
            split
            · simp only [Option.bind_some, numAt_lim (lim := 1000000) hk2, h2]
              split <;> simp [h3, h4, h5]
            · rfl
          | some p5 =>
            obtain ⟨n5, k6⟩ := p5
            have f5 := numAt_fits hk5 h5
            have hk6 := f5.2.2.2.1
            have ec : cmd5 s b = ⟨b, n1, n2, t3, t4, n5⟩ := by simp [cmd5, nVal, nSt, tVal, tSt, h1, h2, h3, h4, h5]
            have ee : end5 s = some k6 := by simp [end5, nSt, tSt, h1, h2, h3, h4, h5]
            have ht : s.data.toList = (cmdText ⟨b, n1, n2, t3, t4, n5⟩).data.toList ++ s.data.toList.drop k6 := by
              have q0 := fb.2.2.2
              rw [List.drop_zero] at q0
              refine q0.trans ?_
              have q1 := f1.2.2.2.2
              rw [show (1 : Nat) = 0 + 1 from rfl] at q1
              rw [q1, f2.2.2.2.2, f3.2.2.2, f4.2.2.2, f5.2.2.2.2, cmdText_list]
              simp
            have hz := congrArg List.length ht
            rw [hl, List.length_append, List.length_drop, hl, show (cmdText ⟨b, n1, n2, t3, t4, n5⟩).data.toList.length = (cmdText ⟨b, n1, n2, t3, t4, n5⟩).size from Array.length_toList] at hz
            unfold askCmd
            rw [ec, ee]
            by_cases ok : commandOk ⟨b, n1, n2, t3, t4, n5⟩ = true
            · have cb := cmd_bounds ok
              dsimp only at cb
              rw [numAt_lim hk1, h1]
              simp only [Option.bind_some]
              rw [if_pos (show n1 ≤ 1000000 by omega), Option.bind_some]
              dsimp only
              rw [numAt_lim hk2, h2, Option.bind_some]
              dsimp only
              rw [if_pos (show n2 ≤ 1000000 by omega), Option.bind_some]
              dsimp only
              rw [h3, Option.bind_some, h4, Option.bind_some, h5, Option.bind_some, if_pos ok, Option.bind_some]
              dsimp only
              by_cases he : k6 = s.size
              · have hsame : cmdText ⟨b, n1, n2, t3, t4, n5⟩ = s := by
                  apply ByteArray.ext
                  apply Array.toList_inj.1
                  conv => rhs; rw [ht]
                  rw [he, ← hl, List.drop_length, List.append_nil]
                rw [if_pos ⟨rfl, ok, hsame⟩, if_pos he]
              · rw [if_neg he]
                refine if_neg ?_
                rintro ⟨_, _, q⟩
                rw [q] at hz
                omega
            · rw [if_neg (fun q => ok q.2.1), numAt_lim hk1, h1]
              simp only [Option.bind_some]
              split
              · simp only [Option.bind_some, numAt_lim (lim := 1000000) hk2, h2]
                split
                · simp [h3, h4, h5, ok]
                · rfl
              · rfl
theorem readCmd_empty {s : ByteArray} (h : byteAt s 0 = none) : readCmd s = none := by
  unfold readCmd cmdAt
  rw [h]
  rfl
theorem readCmd_ok {s : ByteArray} {d : CommandD} (h : readCmd s = some d) : commandOk d = true ∧ cmdText d = s := by
  cases hb : byteAt s 0 with
  | none => rw [readCmd_empty hb] at h; cases h
  | some p =>
    obtain ⟨b, k⟩ := p
    obtain rfl : k = 1 := (byteAt_fits hb).2.1
    rw [← ask_cmd hb] at h
    unfold askCmd at h
    split at h
    · next q =>
      cases h
      exact q.2
    · cases h
def cmdD0 : CommandD := ⟨0, 0, 0, ByteArray.empty, ByteArray.empty, 0⟩
def readCmdD (s : ByteArray) : CommandD := (readCmd s).getD cmdD0
def readCmdAns (s : ByteArray) : Value := .tuple #[.agg #[.int .i64 (readCmdD s).op, .int .i64 (readCmdD s).token, .int .i64 (readCmdD s).seq, .string (readCmdD s).key, .string (readCmdD s).val, .int .i64 (readCmdD s).ver], .bool (readCmd s).isSome]
end Go.Proofs.YtohmfmajgehadaaGreatDoor

namespace Go.Proofs.YtohmfmajgehadaaGreatDoor
open Go.RowKit

/-- a flag at a place -/
def flagAt (s : ByteArray) (k : Nat) : Option (Bool × Nat) := (byteAt s k).bind fun p => if p.1 ≤ 1 then some (decide (p.1 = 1), p.2) else none
/-- an entry that is sent, at a place -/
def sentAt (s : ByteArray) (k : Nat) : Option (EntD × Nat) := (txtAt s k).bind fun p => match readEntry p.1 with
  | none => none
  | some (i, e) => if i = 1 then some (e, p.2) else none
/-- a conf or none, at a place -/
def confAt17 (s : ByteArray) (k : Nat) : Option (List Int × Nat) := (txtAt s k).bind fun p => if p.1.size = 0 then some ([], p.2) else if (readConf p.1).2 = true then some ((readConf p.1).1, p.2) else none
/-- entries one behind the other -/
def sentsAt (s : ByteArray) : Nat → Nat → Option (List EntD × Nat)
  | 0, k => some ([], k)
  | n + 1, k => (sentAt s k).bind fun p => (sentsAt s n p.2).map fun q => (p.1 :: q.1, q.2)
/-- a message at the text's beginning -/
def msgAt (s : ByteArray) : Option (MsgD × Nat) :=
  (byteAt s 0).bind fun p0 => (byteAt s p0.2).bind fun p1 => (byteAt s p1.2).bind fun p2 => (numAt s 100000 p2.2).bind fun p3 => (numAt s 1000000 p3.2).bind fun p4 => (numAt s 100000 p4.2).bind fun p5 => (numAt s 1000000 p5.2).bind fun p6 => (flagAt s p6.2).bind fun p7 => (flagAt s p7.2).bind fun p8 => (numAt s 4 p8.2).bind fun p9 => (sentsAt s p9.1 p9.2).bind fun pa => (confAt17 s pa.2).bind fun pb => (txtAt s pb.2).bind fun pc =>
    if messageOk ⟨p0.1, p1.1, p2.1, p3.1, p4.1, p5.1, p6.1, p7.1, pa.1, pb.1, pc.1, p8.1⟩ = true then some (⟨p0.1, p1.1, p2.1, p3.1, p4.1, p5.1, p6.1, p7.1, pa.1, pb.1, pc.1, p8.1⟩, pc.2) else none
theorem byteAt_fits17 {s : ByteArray} {k n k' : Nat} (h : byteAt s k = some (n, k')) : k' ≤ s.size := by
  unfold byteAt at h
  cases hq : s.data.toList[k]? with
  | none => rw [hq] at h; cases h
  | some x =>
    rw [hq] at h
    cases h
    have := (List.getElem?_eq_some_iff.1 hq).1
    have e : s.data.toList.length = s.size := by simp
    omega
theorem flagAt_fits {s : ByteArray} {k : Nat} {x : Bool} {k' : Nat} (h : flagAt s k = some (x, k')) : k' ≤ s.size := by
  unfold flagAt at h
  cases hq : byteAt s k with
  | none => rw [hq] at h; cases h
  | some p =>
    rw [hq] at h
    simp only [Option.bind_some] at h
    split at h
    · cases h
      exact byteAt_fits17 (n := p.1) hq
    · cases h
theorem sentAt_fits {s : ByteArray} {k : Nat} {d : EntD} {k' : Nat} (hk : k ≤ s.size) (h : sentAt s k = some (d, k')) : k' ≤ s.size := by
  unfold sentAt at h
  cases hq : txtAt s k with
  | none => rw [hq] at h; cases h
  | some p =>
    obtain ⟨t, k1⟩ := p
    rw [hq] at h
    simp only [Option.bind_some] at h
    have hf := (txtAt_fits hk hq).2.2.1
    cases hr : readEntry t with
    | none => rw [hr] at h; cases h
    | some q =>
      rw [hr] at h
      obtain ⟨i, e⟩ := q
      simp only at h
      split at h
      · cases h
        exact hf
      · cases h
theorem readEntry_ok {s : ByteArray} {i : Nat} {e : EntD} (h : readEntry s = some (i, e)) : entryOk e = true := by
  unfold readEntry readE at h
  repeat' split at h
  all_goals first | (cases h; done) | skip
  all_goals
    rename_i q
    cases h
    rw [Bool.and_eq_true] at q
    exact q.1
theorem sentAt_ok {s : ByteArray} {k : Nat} {d : EntD} {k' : Nat} (h : sentAt s k = some (d, k')) : entryOk d = true := by
  unfold sentAt at h
  cases hq : txtAt s k with
  | none => rw [hq] at h; cases h
  | some p =>
    obtain ⟨t, k1⟩ := p
    rw [hq] at h
    simp only [Option.bind_some] at h
    cases hr : readEntry t with
    | none => rw [hr] at h; cases h
    | some q =>
      rw [hr] at h
      obtain ⟨i, e⟩ := q
      simp only at h
      split at h
      · cases h
        exact readEntry_ok hr
      · cases h
theorem sentsAt_ok {s : ByteArray} : ∀ {n k : Nat} {l : List EntD} {k' : Nat}, sentsAt s n k = some (l, k') → l.length = n ∧ ∀ e ∈ l, entryOk e = true
  | 0, k, l, k', h => by
    rw [sentsAt] at h
    cases h
    exact ⟨rfl, fun e he => by cases he⟩
  | n + 1, k, l, k', h => by
    rw [sentsAt] at h
    cases hq : sentAt s k with
    | none => rw [hq] at h; cases h
    | some p =>
      rw [hq] at h
      simp only [Option.bind_some] at h
      cases hr : sentsAt s n p.2 with
      | none => rw [hr] at h; cases h
      | some q =>
        rw [hr] at h
        cases h
        have := sentsAt_ok hr
        refine ⟨by simp [this.1], fun e he => ?_⟩
        rcases List.mem_cons.1 he with rfl | he
        · exact sentAt_ok (k' := p.2) hq
        · exact this.2 e he
theorem confAt_len {s : ByteArray} {k : Nat} {zs : List Int} {k' : Nat} (h : confAt17 s k = some (zs, k')) : zs.length ≤ 4 := by
  unfold confAt17 at h
  cases hq : txtAt s k with
  | none => rw [hq] at h; cases h
  | some p =>
    rw [hq] at h
    simp only [Option.bind_some] at h
    split at h
    · cases h
      simp
    · split at h
      · rename_i q
        cases h
        have := readConf_true q
        rw [this.2]
        have := (confOk_len this.1).2
        omega
      · cases h
theorem confAt_fits {s : ByteArray} {k : Nat} {zs : List Int} {k' : Nat} (hk : k ≤ s.size) (h : confAt17 s k = some (zs, k')) : k' ≤ s.size := by
  unfold confAt17 at h
  cases hq : txtAt s k with
  | none => rw [hq] at h; cases h
  | some p =>
    obtain ⟨t, k1⟩ := p
    rw [hq] at h
    simp only [Option.bind_some] at h
    have hf := (txtAt_fits hk hq).2.2.1
    split at h
    · cases h
      exact hf
    · split at h
      · cases h
        exact hf
      · cases h
theorem sentsAt_fits {s : ByteArray} : ∀ {n k : Nat} {l : List EntD} {k' : Nat}, k ≤ s.size → sentsAt s n k = some (l, k') → k' ≤ s.size
  | 0, k, l, k', hk, h => by
    rw [sentsAt] at h
    cases h
    exact hk
  | n + 1, k, l, k', hk, h => by
    rw [sentsAt] at h
    cases hq : sentAt s k with
    | none => rw [hq] at h; cases h
    | some p =>
      rw [hq] at h
      simp only [Option.bind_some] at h
      cases hr : sentsAt s n p.2 with
      | none => rw [hr] at h; cases h
      | some q =>
        rw [hr] at h
        cases h
        exact sentsAt_fits (sentAt_fits (k' := p.2) hk hq) hr
theorem msgAt_fits {s : ByteArray} {d : MsgD} {k : Nat} (h : msgAt s = some (d, k)) : k ≤ s.size := by
  unfold msgAt at h
  have k0 : 0 ≤ s.size := Nat.zero_le _
  cases q0 : byteAt s 0 with
  | none => rw [q0] at h; cases h
  | some p0 =>
  obtain ⟨x0, j0⟩ := p0
  have k1 := byteAt_fits17 q0
  rw [q0] at h
  simp only [Option.bind_some] at h
  cases q1 : byteAt s j0 with
  | none => rw [q1] at h; cases h
  | some p1 =>
  obtain ⟨x1, j1⟩ := p1
  have k2 := byteAt_fits17 q1
  rw [q1] at h
  simp only [Option.bind_some] at h
  cases q2 : byteAt s j1 with
  | none => rw [q2] at h; cases h
  | some p2 =>
  obtain ⟨x2, j2⟩ := p2
  have k3 := byteAt_fits17 q2
  rw [q2] at h
  simp only [Option.bind_some] at h
  cases q3 : numAt s 100000 j2 with
  | none => rw [q3] at h; cases h
  | some p3 =>
  obtain ⟨x3, j3⟩ := p3
  have k4 := (numAt_fits k3 q3).2.2.2.1
  rw [q3] at h
  simp only [Option.bind_some] at h
  cases q4 : numAt s 1000000 j3 with
  | none => rw [q4] at h; cases h
  | some p4 =>
  obtain ⟨x4, j4⟩ := p4
  have k5 := (numAt_fits k4 q4).2.2.2.1
  rw [q4] at h
  simp only [Option.bind_some] at h
  cases q5 : numAt s 100000 j4 with
  | none => rw [q5] at h; cases h
  | some p5 =>
  obtain ⟨x5, j5⟩ := p5
  have k6 := (numAt_fits k5 q5).2.2.2.1
  rw [q5] at h
  simp only [Option.bind_some] at h
  cases q6 : numAt s 1000000 j5 with
  | none => rw [q6] at h; cases h
  | some p6 =>
  obtain ⟨x6, j6⟩ := p6
  have k7 := (numAt_fits k6 q6).2.2.2.1
  rw [q6] at h
  simp only [Option.bind_some] at h
  cases q7 : flagAt s j6 with
  | none => rw [q7] at h; cases h
  | some p7 =>
  obtain ⟨x7, j7⟩ := p7
  have k8 := flagAt_fits q7
  rw [q7] at h
  simp only [Option.bind_some] at h
  cases q8 : flagAt s j7 with
  | none => rw [q8] at h; cases h
  | some p8 =>
  obtain ⟨x8, j8⟩ := p8
  have k9 := flagAt_fits q8
  rw [q8] at h
  simp only [Option.bind_some] at h
  cases q9 : numAt s 4 j8 with
  | none => rw [q9] at h; cases h
  | some p9 =>
  obtain ⟨x9, j9⟩ := p9
  have k10 := (numAt_fits k9 q9).2.2.2.1
  rw [q9] at h
  simp only [Option.bind_some] at h
  cases q10 : sentsAt s x9 j9 with
  | none => rw [q10] at h; cases h
  | some p10 =>
  obtain ⟨x10, j10⟩ := p10
  have k11 := sentsAt_fits k10 q10
  rw [q10] at h
  simp only [Option.bind_some] at h
  cases q11 : confAt17 s j10 with
  | none => rw [q11] at h; cases h
  | some p11 =>
  obtain ⟨x11, j11⟩ := p11
  have k12 := confAt_fits k11 q11
  rw [q11] at h
  simp only [Option.bind_some] at h
  cases q12 : txtAt s j11 with
  | none => rw [q12] at h; cases h
  | some p12 =>
  obtain ⟨x12, j12⟩ := p12
  have k13 := (txtAt_fits k12 q12).2.2.1
  rw [q12] at h
  simp only [Option.bind_some] at h
  split at h
  · cases h
    exact k13
  · cases h
/-- what is read whole -/
def readMsg (s : ByteArray) : Option MsgD := (msgAt s).bind fun p => if p.2 = s.size then some p.1 else none
end Go.Proofs.YtohmfmajgehadaaGreatDoor

namespace Go.Proofs.YtohmfmajgehadaaGreatDoor
open Go.RowKit

/-- a text from a place on -/
def From (s : ByteArray) (k : Nat) (R : List UInt8) : Prop := k ≤ s.size ∧ s.data.toList.drop k = R
theorem from_add {s : ByteArray} {k : Nat} {A R : List UInt8} (h : From s k (A ++ R)) : From s (k + A.length) R := by
  obtain ⟨h1, h2⟩ := h
  have hl := congrArg List.length h2
  rw [List.length_drop, List.length_append, show s.data.toList.length = s.size by simp] at hl
  refine ⟨by omega, ?_⟩
  rw [← List.drop_drop, h2, List.drop_left]
theorem num_back {s : ByteArray} {k n lim : Nat} {R : List UInt8} (h : From s k (vb n ++ R)) (h1 : n ≤ lim) (h2 : n ≤ 1000000000) : ∃ k', numAt s lim k = some (n, k') ∧ From s k' R := by
  refine ⟨k + (vb n).length, ?_, from_add h⟩
  rw [numAt, h.2, rv_vb h2]
  simp [h1]
theorem txt_back {s t : ByteArray} {k : Nat} {R : List UInt8} (h : From s k (vb t.size ++ (t.data.toList ++ R))) (ht : t.size ≤ 20000) : ∃ k', txtAt s k = some (t, k') ∧ From s k' R := by
  have hl : t.data.toList.length = t.size := Array.length_toList
  have f1 := from_add h
  have f2 := from_add f1
  rw [hl] at f2
  refine ⟨k + (vb t.size).length + t.size, ?_, f2⟩
  have hv : rv (s.data.toList.drop k) = some (t.size, (vb t.size).length) := by rw [h.2]; exact rv_vb (by omega) _
  rw [txtAt, rs_yes h.1 hv ⟨ht, f2.1⟩]
  simp only [Option.some.injEq, Prod.mk.injEq, and_true]
  apply ByteArray.ext
  apply Array.toList_inj.1
  rw [extract_eq, f1.2, Nat.add_sub_cancel_left, ← hl, List.take_left']
  rfl
end Go.Proofs.YtohmfmajgehadaaGreatDoor

namespace Go.Proofs.YtohmfmajgehadaaGreatDoor
open Go.RowKit

/-- one of the eight steps -/
def half (x : Nat) : Nat := if x % 2 = 1 then x / 2 ^^^ 3558460437 else x / 2

theorem half_lt {x : Nat} (h : x < 4294967296) : half x < 4294967296 := by
  unfold half
  split
  · exact Nat.xor_lt_two_pow (n := 32) (by omega) (by omega)
  · omega

theorem top_bit {a : Nat} (h : a < 2147483648) : 2147483648 ≤ a ^^^ 3558460437 := by
  have h1 : (a ^^^ 3558460437).testBit 31 = true := by
    rw [Nat.testBit_xor, Nat.testBit_lt_two_pow (x := a) (i := 31) (by omega)]
    decide
  exact Nat.ge_two_pow_of_testBit h1

theorem xor_cancel {a b c : Nat} (h : a ^^^ c = b ^^^ c) : a = b := by
  have := congrArg (· ^^^ c) h
  simpa [Nat.xor_assoc] using this

theorem half_inj {x y : Nat} (hx : x < 4294967296) (hy : y < 4294967296) (h : half x = half y) : x = y := by
  unfold half at h
  have tx := top_bit (a := x / 2) (by omega)
  have ty := top_bit (a := y / 2) (by omega)
  split at h <;> split at h
  · have := xor_cancel h; omega
  · omega
  · omega
  · omega

/-- k steps -/
def hsN : Nat → Nat → Nat
  | 0, x => x
  | k + 1, x => half (hsN k x)

theorem hsN_lt (k : Nat) {x : Nat} (h : x < 4294967296) : hsN k x < 4294967296 := by
  induction k with
  | zero => exact h
  | succ k ih => exact half_lt ih
theorem hsN_inj (k : Nat) {x y : Nat} (hx : x < 4294967296) (hy : y < 4294967296) (h : hsN k x = hsN k y) : x = y := by
  induction k with
  | zero => exact h
  | succ k ih => exact ih (half_inj (hsN_lt k hx) (hsN_lt k hy) h)

/-- a sum and one byte more -/
def crc1 (s : Nat) (b : UInt8) : Nat := hsN 8 (s ^^^ b.toNat)

theorem xb_lt {s : Nat} (h : s < 4294967296) (b : UInt8) : s ^^^ b.toNat < 4294967296 := Nat.xor_lt_two_pow (n := 32) (by omega) (by have := b.toNat_lt; omega)
theorem crc1_lt {s : Nat} (h : s < 4294967296) (b : UInt8) : crc1 s b < 4294967296 := hsN_lt 8 (xb_lt h b)
theorem crc1_inj {s t : Nat} (hs : s < 4294967296) (ht : t < 4294967296) {b : UInt8} (h : crc1 s b = crc1 t b) : s = t :=
  xor_cancel (hsN_inj 8 (xb_lt hs b) (xb_lt ht b) h)
theorem crc1_byte {s : Nat} (hs : s < 4294967296) {b c : UInt8} (h : crc1 s b = crc1 s c) : b = c := by
  have h1 := hsN_inj 8 (xb_lt hs b) (xb_lt hs c) h
  rw [Nat.xor_comm s, Nat.xor_comm s] at h1
  exact UInt8.toNat_inj.1 (xor_cancel h1)

/-- a sum and more bytes -/
def crc (s : Nat) (l : List UInt8) : Nat := l.foldl crc1 s

theorem crc_append (s : Nat) (l r : List UInt8) : crc s (l ++ r) = crc (crc s l) r := by simp [crc]
theorem crc_snoc (s : Nat) (l : List UInt8) (b : UInt8) : crc s (l ++ [b]) = crc1 (crc s l) b := by simp [crc]
theorem crc_lt {s : Nat} (h : s < 4294967296) (l : List UInt8) : crc s l < 4294967296 := by
  induction l generalizing s with
  | nil => exact h
  | cons b l ih => exact ih (crc1_lt h b)
theorem crc_inj {s t : Nat} (hs : s < 4294967296) (ht : t < 4294967296) (l : List UInt8) (h : crc s l = crc t l) : s = t := by
  induction l generalizing s t with
  | nil => exact h
  | cons b l ih => exact crc1_inj hs ht (ih (crc1_lt hs b) (crc1_lt ht b) h)
/-- one byte turned turns the sum -/
theorem crc_turned {s : Nat} (hs : s < 4294967296) (p q : List UInt8) {b c : UInt8} (h : crc s (p ++ b :: q) = crc s (p ++ c :: q)) : b = c := by
  rw [crc_append, crc_append] at h
  have hp := crc_lt hs p
  have h1 : crc (crc1 (crc s p) b) q = crc (crc1 (crc s p) c) q := h
  exact crc1_byte hp (crc_inj (crc1_lt hp b) (crc1_lt hp c) q h1)

/-- a sum in four bytes, the highest first -/
def four (x : Nat) : List UInt8 := [UInt8.ofNat (x / 16777216), UInt8.ofNat (x / 65536), UInt8.ofNat (x / 256), UInt8.ofNat x]
theorem four_length (x : Nat) : (four x).length = 4 := rfl
theorem four_inj {x y : Nat} (hx : x < 4294967296) (hy : y < 4294967296) (h : four x = four y) : x = y := by
  simp only [four, List.cons.injEq, and_true] at h
  obtain ⟨h1, h2, h3, h4⟩ := h
  have e1 := congrArg UInt8.toNat h1
  have e2 := congrArg UInt8.toNat h2
  have e3 := congrArg UInt8.toNat h3
  have e4 := congrArg UInt8.toNat h4
  simp only [UInt8.toNat_ofNat'] at e1 e2 e3 e4
  omega

def sumOf (l : List UInt8) : Nat := crc 4294967295 l
theorem sumOf_lt (l : List UInt8) : sumOf l < 4294967296 := crc_lt (by omega) l

/-- a sealed text with one byte turned is the sealed text of none of its length -/
theorem seal_turned (l m : List UInt8) (p q : List UInt8) (b c : UInt8) (h1 : l ++ four (sumOf l) = p ++ b :: q) (h2 : m ++ four (sumOf m) = p ++ c :: q) : b = c := by
  have hlen : l.length = m.length := by
    have e1 := congrArg List.length h1
    have e2 := congrArg List.length h2
    simp only [List.length_append, List.length_cons, four_length] at e1 e2
    omega
  have tl : l = (p ++ b :: q).take l.length := by rw [← h1, List.take_left]
  have tm : m = (p ++ c :: q).take l.length := by rw [← h2, hlen, List.take_left]
  have dl : four (sumOf l) = (p ++ b :: q).drop l.length := by rw [← h1, List.drop_left]
  have dm : four (sumOf m) = (p ++ c :: q).drop l.length := by rw [← h2, hlen, List.drop_left]
  rw [List.take_append] at tl tm
  rw [List.drop_append] at dl dm
  rcases Nat.lt_or_ge p.length l.length with hp | hp
  · -- the byte lies in the text: the sums' bytes are alike
    obtain ⟨k, hk⟩ : ∃ k, l.length - p.length = k + 1 := ⟨l.length - p.length - 1, by omega⟩
    rw [hk, List.take_of_length_le (by omega), List.take_succ_cons] at tl tm
    rw [hk, List.drop_of_length_le (by omega), List.drop_succ_cons] at dl dm
    have hs := four_inj (sumOf_lt l) (sumOf_lt m) (dl.trans dm.symm)
    rw [tl, tm] at hs
    exact crc_turned (by omega) p (q.take k) hs
  · -- the byte lies in the sum: the texts are alike
    have hk : l.length - p.length = 0 := by omega
    rw [hk, List.take_zero, List.append_nil] at tl tm
    have e : l = m := tl.trans tm.symm
    have h3 : p ++ b :: q = p ++ c :: q := by rw [← h1, ← h2, e]
    have h4 := List.append_cancel_left h3
    simp only [List.cons.injEq] at h4
    exact h4.1

/-- a text that is sealed -/
def Uns (s : ByteArray) : Prop := 4 ≤ s.size ∧ s.size ≤ 20004 ∧ s.data.toList.drop (s.size - 4) = four (sumOf (s.data.toList.take (s.size - 4)))

theorem slice_from {P : Program} {t : TypeId} (h : P.underlying t = some .string) (s : ByteArray) (a : Nat) (x : Int) (hx : x = a) (ha : a ≤ s.size) (w : World) :
    (Instr.slice t (.string s) (some (.int .i64 x)) none none).run P w = .ok (.string (s.extract a s.size)) w := by
  subst hx
  rw [run_slice_string_l w t s h .i64 a (by omega) (by omega)]
  simp
theorem slice_upto {P : Program} {t : TypeId} (h : P.underlying t = some .string) (s : ByteArray) (a : Nat) (x : Int) (hx : x = a) (ha : a ≤ s.size) (w : World) :
    (Instr.slice t (.string s) none (some (.int .i64 x)) none).run P w = .ok (.string (s.extract 0 a)) w := by
  subst hx
  rw [run_slice_string_h w t s h .i64 a (by omega) (by omega)]
  simp

theorem head_list (s : ByteArray) (a : Nat) : (s.extract 0 a).data.toList = s.data.toList.take a := by rw [extract_eq]; simp
theorem tail_list (s : ByteArray) (a : Nat) : (s.extract a s.size).data.toList = s.data.toList.drop a := by
  rw [extract_eq, List.take_of_length_le (by simp)]

theorem uns_same {s : ByteArray} (h4 : 4 ≤ s.size) (h2 : s.size ≤ 20004) : (s.extract (s.size - 4) s.size).toList = four (sumOf (s.extract 0 (s.size - 4)).data.toList) ↔ Uns s := by
  rw [ByteArray.toList_eq, tail_list s _, head_list]
  exact ⟨fun h => ⟨h4, h2, h⟩, fun h => h.2.2⟩
end Go.Proofs.YtohmfmajgehadaaGreatDoor

namespace Go.Proofs.YtohmfmajgehadaaGreatDoor
open Go.RowKit

/-- the sealed text -/
def sealOf (s : ByteArray) : ByteArray := s ++ ⟨(four (sumOf s.data.toList)).toArray⟩

theorem sealOf_list (s : ByteArray) : (sealOf s).data.toList = s.data.toList ++ four (sumOf s.data.toList) := by
  rw [sealOf, ByteArray.data_append, Array.toList_append]
theorem sealOf_size (s : ByteArray) : (sealOf s).size = s.size + 4 := by
  rw [sealOf, ByteArray.size_append]
  rfl
theorem sealOf_uns {s : ByteArray} (h : s.size ≤ 20000) : Uns (sealOf s) := by
  refine ⟨by rw [sealOf_size]; omega, by rw [sealOf_size]; omega, ?_⟩
  have e : (sealOf s).size - 4 = s.data.toList.length := by rw [sealOf_size]; simp
  rw [e, sealOf_list, List.take_left, List.drop_left]
theorem sealOf_head (s : ByteArray) : (sealOf s).extract 0 ((sealOf s).size - 4) = s := by
  apply ByteArray.ext
  apply Array.toList_inj.1
  have e : (sealOf s).size - 4 = s.data.toList.length := by rw [sealOf_size]; simp
  rw [head_list, e, sealOf_list, List.take_left]

/-- a sealed text with one byte turned is none -/
theorem turned_not {s t : ByteArray} {k : Nat} {b : UInt8} (hk : k < (sealOf s).size) (hb : b ≠ (sealOf s).data.toList[k]'(by simpa using hk)) (ht : t.data.toList = (sealOf s).data.toList.set k b) : ¬ Uns t := by
  intro h
  have hkl : k < (sealOf s).data.toList.length := by simpa using hk
  obtain ⟨L, hL⟩ : ∃ L, (sealOf s).data.toList = L := ⟨_, rfl⟩
  have h1 := sealOf_list s
  simp only [hL] at hb hkl ht h1
  obtain ⟨_, _, h3⟩ := h
  have h4 := List.take_append_drop (t.size - 4) t.data.toList
  rw [h3] at h4
  refine hb ?_
  refine (seal_turned s.data.toList (t.data.toList.take (t.size - 4)) (L.take k) (L.drop (k + 1)) L[k] b ?_ ?_).symm
  · rw [← h1]
    rw [List.getElem_cons_drop hkl, List.take_append_drop]
  · rw [h4, ht, List.set_eq_take_append_cons_drop, if_pos hkl]

/-- with one byte turned it is no sealed text -/
def TurnsNot (Q : ByteArray) : Prop := ∀ (t : ByteArray) (k : Nat) (b : UInt8) (hk : k < Q.size), b ≠ Q[k] → t.data.toList = Q.data.toList.set k b → ¬ Uns t
theorem sealOf_turns (s : ByteArray) : TurnsNot (sealOf s) := fun _ _ _ hk hb ht => turned_not hk (fun h => hb (h.trans rfl)) ht
end Go.Proofs.YtohmfmajgehadaaGreatDoor

namespace Go.Proofs.YtohmfmajgehadaaGreatDoor
open Go.RowKit

/-- a snapshot: its index, its term, its conf, its body -/
abbrev snapV (ix tm : Int) (v : Value) (bd : ByteArray) : Value := .agg #[.int .i64 ix, .int .i64 tm, v, .string bd]
/-- a short text with its length ahead -/
def shortT (s : ByteArray) : ByteArray := ⟨(vb s.size).toArray⟩ ++ s
/-- what is sealed of a snapshot -/
def snapIn (ix tm : Nat) (zs : List Int) (bd : ByteArray) : ByteArray := ⟨(vb ix).toArray⟩ ++ ⟨(vb tm).toArray⟩ ++ shortT ⟨(confBytes zs).toArray⟩ ++ shortT bd
def snapOk (ix tm : Int) (zs : List Int) (bd : ByteArray) : Bool := confOk zs && (within ix 0 1000000 && within tm 0 100000) && decide ((snapIn ix.toNat tm.toNat zs bd).size ≤ 19996)
def snapText (ix tm : Int) (zs : List Int) (bd : ByteArray) : ByteArray × Bool := if snapOk ix tm zs bd = true then (sealOf (snapIn ix.toNat tm.toNat zs bd), true) else (ByteArray.empty, false)

theorem snapOk_iff {ix tm : Int} {zs : List Int} {bd : ByteArray} : snapOk ix tm zs bd = true ↔ confOk zs = true ∧ ((0 ≤ ix ∧ ix ≤ 1000000) ∧ (0 ≤ tm ∧ tm ≤ 100000)) ∧ (snapIn ix.toNat tm.toNat zs bd).size ≤ 19996 := by
  simp only [snapOk, Bool.and_eq_true, within_iff, decide_eq_true_eq, and_assoc]
theorem snapText_no {ix tm : Int} {zs : List Int} {bd : ByteArray} (h : ¬ snapOk ix tm zs bd = true) : snapText ix tm zs bd = (ByteArray.empty, false) := by rw [snapText, if_neg h]
theorem snapText_yes {ix tm : Int} {zs : List Int} {bd : ByteArray} (h : snapOk ix tm zs bd = true) : snapText ix tm zs bd = (sealOf (snapIn ix.toNat tm.toNat zs bd), true) := by rw [snapText, if_pos h]
theorem shortT_size (s : ByteArray) : (shortT s).size = (vb s.size).length + s.size := by
  rw [shortT, ByteArray.size_append]
  rfl
theorem snapIn_size (ix tm : Nat) (zs : List Int) (bd : ByteArray) : (snapIn ix tm zs bd).size = (vb ix).length + (vb tm).length + (shortT ⟨(confBytes zs).toArray⟩).size + (shortT bd).size := by
  rw [snapIn, ByteArray.size_append, ByteArray.size_append, ByteArray.size_append]
  rfl
theorem snapText_conf {ix tm : Int} {zs : List Int} {bd : ByteArray} (h : confOk zs = false) : snapText ix tm zs bd = (ByteArray.empty, false) := snapText_no (by rw [snapOk_iff, h]; simp)
theorem snapText_ix {ix tm : Int} {zs : List Int} {bd : ByteArray} (h : within ix 0 1000000 = false) : snapText ix tm zs bd = (ByteArray.empty, false) := snapText_no (by rw [snapOk, h]; simp)
theorem snapText_tm {ix tm : Int} {zs : List Int} {bd : ByteArray} (h : within tm 0 100000 = false) : snapText ix tm zs bd = (ByteArray.empty, false) := snapText_no (by rw [snapOk, h]; simp)
theorem snapText_big {ix tm : Int} {zs : List Int} {bd : ByteArray} (h : 20000 < bd.size) : snapText ix tm zs bd = (ByteArray.empty, false) := snapText_no (by
  rw [snapOk_iff]
  rintro ⟨_, _, h3⟩
  rw [snapIn_size, shortT_size bd] at h3
  omega)
theorem snapText_long {ix tm : Int} {zs : List Int} {bd : ByteArray} (h : 19996 < (snapIn ix.toNat tm.toNat zs bd).size) : snapText ix tm zs bd = (ByteArray.empty, false) := snapText_no (by
  rw [snapOk_iff]
  rintro ⟨_, _, h3⟩
  omega)
theorem vb_short {n : Nat} (h : n ≤ 1000000) : (vb n).length ≤ 3 := by
  rcases Nat.lt_or_ge 127 n with h1 | h1
  · rw [vb_big h1]
    rcases Nat.lt_or_ge 127 (n / 128) with h2 | h2
    · rw [vb_big h2, vb_small (show n / 128 / 128 ≤ 127 by omega)]
      simp
    · rw [vb_small h2]
      simp
  · rw [vb_small h1]
    simp
theorem confBytes_size (zs : List Int) : (⟨(confBytes zs).toArray⟩ : ByteArray).size = zs.length := by
  show (confBytes zs).toArray.size = _
  rw [List.size_toArray, confBytes_length]
/-- how long what is sealed is, at the most -/
theorem snapIn_le {ix tm : Nat} {zs : List Int} {bd : ByteArray} (h1 : ix ≤ 1000000) (h2 : tm ≤ 1000000) (h3 : zs.length ≤ 1000000) (h4 : bd.size ≤ 1000000) : (snapIn ix tm zs bd).size ≤ 12 + zs.length + bd.size := by
  rw [snapIn_size, shortT_size, shortT_size, confBytes_size]
  have a := vb_short h1
  have b := vb_short h2
  have c := vb_short h3
  have d := vb_short h4
  omega
end Go.Proofs.YtohmfmajgehadaaGreatDoor

namespace Go.Proofs.YtohmfmajgehadaaGreatDoor
open Go.RowKit

structure SnapD where
  ix : Nat
  tm : Nat
  conf : List Int
  body : ByteArray

/-- what is read of what was sealed -/
def readSnapIn (t : ByteArray) : Option SnapD :=
  match rv (t.data.toList.drop 0) with
  | none => none
  | some (ix, c1) => if 1000000 < ix then none else
    match rv (t.data.toList.drop c1) with
    | none => none
    | some (tm, c2) => if 100000 < tm then none else
      match rs t ((c1 + c2 : Nat) : Int) with
      | none => none
      | some (a, b) => if confOk (intsOf (t.extract a b).data.toList) = true then
          match rs t (b : Int) with
          | none => none
          | some (a', b') => if b' = t.size then some ⟨ix, tm, intsOf (t.extract a b).data.toList, t.extract a' b'⟩ else none
        else none
/-- a text that is sealed, and no longer than a text may be -/
def snapSealed (s : ByteArray) : Bool := decide (4 ≤ s.size ∧ s.size ≤ 20000 ∧ s.data.toList.drop (s.size - 4) = four (sumOf (s.data.toList.take (s.size - 4))))
theorem snapSealed_iff {s : ByteArray} : snapSealed s = true ↔ Uns s ∧ s.size ≤ 20000 := by
  rw [snapSealed, decide_eq_true_eq, Uns]
  constructor
  · rintro ⟨h1, h2, h3⟩
    exact ⟨⟨h1, by omega, h3⟩, h2⟩
  · rintro ⟨⟨h1, _, h3⟩, h2⟩
    exact ⟨h1, h2, h3⟩
def readSnap (s : ByteArray) : Option SnapD := if snapSealed s = true then readSnapIn (s.extract 0 (s.size - 4)) else none

def takeStN (s : ByteArray) (n : Nat) : Option Nat → Option Nat
  | none => none
  | some k => if k + n ≤ s.size then some (k + n) else none
def takeTxtN (s : ByteArray) (n : Nat) : Option Nat → ByteArray
  | none => ByteArray.empty
  | some k => if k + n ≤ s.size then s.extract k (k + n) else ByteArray.empty
def varSt' (s : ByteArray) : Option Nat → Option Nat
  | none => none
  | some k => (rv (s.data.toList.drop k)).map fun p => k + p.2
def varNum' (s : ByteArray) : Option Nat → Nat
  | none => 0
  | some k => match rv (s.data.toList.drop k) with
    | none => 0
    | some p => p.1
def shortSt (s : ByteArray) (o : Option Nat) : Option Nat := takeStN s (varNum' s o) (varSt' s o)
def shortTxt (s : ByteArray) (o : Option Nat) : ByteArray := takeTxtN s (varNum' s o) (varSt' s o)

/-- the other way: all is read, and held against what would be written -/
def askSnapIn (text t : ByteArray) (o : Option Nat) : Option SnapD :=
  let o1 := varSt' t o
  let o2 := varSt' t o1
  let o3 := shortSt t o2
  let o4 := shortSt t o3
  let c := (readConf (shortTxt t o2)).1
  let bd := shortTxt t o3
  if o4.isSome = true ∧ snapOk (varNum' t o) (varNum' t o1) c bd = true ∧ sealOf (snapIn (varNum' t o) (varNum' t o1) c bd) = text then some ⟨varNum' t o, varNum' t o1, c, bd⟩ else none

theorem varSt'_none (s : ByteArray) : varSt' s none = none := rfl
theorem shortSt_none (s : ByteArray) : shortSt s none = none := rfl
theorem ask_none (text t : ByteArray) : askSnapIn text t none = none := by
  unfold askSnapIn
  simp [varSt', shortSt, takeStN]

theorem short_read {s : ByteArray} {k : Nat} (hk : k ≤ s.size) (hs : s.size ≤ 20000) : rs s (k : Int) = (match shortSt s (some k) with | none => none | some e => some (e - (shortTxt s (some k)).size, e)) ∧
    ∀ a b, rs s (k : Int) = some (a, b) → shortSt s (some k) = some b ∧ shortTxt s (some k) = s.extract a b ∧ a ≤ b ∧ b ≤ s.size ∧ k ≤ a ∧ s.data.toList.drop k = (shortT (s.extract a b)).data.toList ++ s.data.toList.drop b := by
  cases h : rv (s.data.toList.drop k) with
  | none =>
    rw [rs_none hk h]
    refine ⟨by simp [shortSt, varSt', h, takeStN], fun a b e => by cases e⟩
  | some p =>
    obtain ⟨n, c⟩ := p
    have hf := rv_fits hk h
    have e1 : shortSt s (some k) = if k + c + n ≤ s.size then some (k + c + n) else none := by simp [shortSt, varSt', varNum', h, takeStN]
    have e2 : shortTxt s (some k) = if k + c + n ≤ s.size then s.extract (k + c) (k + c + n) else ByteArray.empty := by simp [shortTxt, varSt', varNum', h, takeTxtN]
    by_cases hb : k + c + n ≤ s.size
    · rw [rs_yes hk h ⟨by omega, hb⟩, e1, e2, if_pos hb, if_pos hb]
      have hz : (s.extract (k + c) (k + c + n)).size = n := by rw [ByteArray.size_extract]; omega
      refine ⟨by simp only [hz]; congr 2; omega, ?_⟩
      rintro a b e
      simp only [Option.some.injEq, Prod.mk.injEq] at e
      obtain ⟨rfl, rfl⟩ := e
      refine ⟨rfl, rfl, by omega, hb, by omega, ?_⟩
      obtain ⟨l1, l2⟩ := rv_text h
      rw [List.drop_drop] at l2
      rw [shortT, hz, ByteArray.data_append, Array.toList_append, List.append_assoc]
      show _ = vb n ++ _
      conv => lhs; rw [l2]
      congr 1
      rw [extract_eq, show k + c + n - (k + c) = n by omega]
      conv => lhs; rw [← List.take_append_drop n (s.data.toList.drop (k + c))]
      rw [List.drop_drop]
    · rw [rs_big hk h (by omega), e1, if_neg hb]
      exact ⟨rfl, fun a b e => by cases e⟩

theorem extract_all {s : ByteArray} (h : Uns s) : sealOf (s.extract 0 (s.size - 4)) = s := by
  apply ByteArray.ext
  apply Array.toList_inj.1
  rw [sealOf_list, head_list, ← h.2.2, List.take_append_drop]
theorem sealOf_inj {a b : ByteArray} (h : sealOf a = sealOf b) : a = b := by
  have h1 := sealOf_head a
  have h2 := sealOf_head b
  rw [h] at h1
  exact h1.symm.trans h2

theorem conf_back (s : ByteArray) : (⟨(confBytes (intsOf s.data.toList)).toArray⟩ : ByteArray) = s := by
  have : confBytes (intsOf s.data.toList) = s.data.toList := by
    simp only [confBytes, intsOf, List.map_map]
    conv => rhs; rw [← List.map_id s.data.toList]
    apply List.map_congr_left
    intro b _
    simp
  rw [this]

/-- both ways are one -/
theorem ask_read {text : ByteArray} (hu : Uns text) (h2 : text.size ≤ 20000) : askSnapIn text (text.extract 0 (text.size - 4)) (some 0) = readSnapIn (text.extract 0 (text.size - 4)) := by
  have hts : (text.extract 0 (text.size - 4)).size = text.size - 4 := by rw [ByteArray.size_extract]; have := hu.1; omega
  have hall := extract_all hu
  obtain ⟨t, ht⟩ : ∃ t, text.extract 0 (text.size - 4) = t := ⟨_, rfl⟩
  rw [ht] at hts hall ⊢
  have hl : t.data.toList.length = t.size := by simp
  unfold readSnapIn
  cases h1 : rv (t.data.toList.drop 0) with
  | none =>
    have o1 : varSt' t (some 0) = none := by rw [varSt', h1]; rfl
    simp only [askSnapIn, o1, varSt'_none, shortSt_none]
    rw [if_neg (by simp)]
  | some p1 =>
    obtain ⟨ix, c1⟩ := p1
    dsimp only
    have f1 := rv_fits (Nat.zero_le _) h1
    obtain ⟨_, x1⟩ := rv_text h1
    rw [List.drop_drop, Nat.zero_add] at x1
    have o1 : varSt' t (some 0) = some c1 := by rw [varSt', h1]; simp
    have n1 : varNum' t (some 0) = ix := by rw [varNum', h1]
    cases h3 : rv (t.data.toList.drop c1) with
    | none =>
      have o2 : varSt' t (some c1) = none := by rw [varSt', h3]; rfl
      simp only [askSnapIn, o1, n1, o2, shortSt_none]
      refine (if_neg (by simp)).trans ?_
      split <;> rfl
    | some p2 =>
      obtain ⟨tm, c2⟩ := p2
      dsimp only
      have f2 := rv_fits (show c1 ≤ t.size by omega) h3
      obtain ⟨_, x2⟩ := rv_text h3
      rw [List.drop_drop] at x2
      have o2 : varSt' t (some c1) = some (c1 + c2) := by rw [varSt', h3]; rfl
      have n2 : varNum' t (some c1) = tm := by rw [varNum', h3]
      have q2 := short_read (s := t) (k := c1 + c2) (by omega) (by omega)
      simp only [askSnapIn, o1, n1, o2, n2]
      cases h4 : rs t ((c1 + c2 : Nat) : Int) with
      | none =>
        have o3 : shortSt t (some (c1 + c2)) = none := by
          have := q2.1
          rw [h4] at this
          cases hx : shortSt t (some (c1 + c2)) with
          | none => rfl
          | some e => rw [hx] at this; cases this
        rw [o3, shortSt_none]
        refine (if_neg (by simp)).trans ?_
        split
        · rfl
        · split <;> rfl
      | some p3 =>
        obtain ⟨a, b⟩ := p3
        dsimp only
        obtain ⟨o3, t3, hab, hb, hka, x3⟩ := q2.2 a b h4
        have q3 := short_read (s := t) (k := b) hb (by omega)
        rw [o3, t3]
        cases hc : confOk (intsOf (t.extract a b).data.toList) with
        | false =>
          rw [readConf_no hc]
          have hn : ∀ x y z, ¬ snapOk x y ([] : List Int) z = true := by
            intro x y z
            rw [snapOk_iff]
            rintro ⟨q, _⟩
            cases q
          refine (if_neg (fun q => hn _ _ _ q.2.1)).trans ?_
          split
          · rfl
          · split <;> rfl
        | true =>
          rw [readConf_yes hc]
          dsimp only
          cases h5 : rs t (b : Int) with
          | none =>
            have o4 : shortSt t (some b) = none := by
              have := q3.1
              rw [h5] at this
              cases hx : shortSt t (some b) with
              | none => rfl
              | some e => rw [hx] at this; cases this
            rw [o4]
            refine (if_neg (by simp)).trans ?_
            split
            · rfl
            · split <;> rfl
          | some p4 =>
            obtain ⟨a', b'⟩ := p4
            dsimp only
            obtain ⟨o4, t4, hab', hb', hka', x4⟩ := q3.2 a' b' h5
            rw [o4, t4]
            have hin : t.data.toList = (snapIn ix tm (intsOf (t.extract a b).data.toList) (t.extract a' b')).data.toList ++ t.data.toList.drop b' := by
              rw [snapIn, conf_back]
              simp only [ByteArray.data_append, Array.toList_append, List.append_assoc]
              show _ = vb ix ++ (vb tm ++ _)
              rw [← x4, ← x3, ← x2, ← x1]
              rfl
            have hsz := congrArg List.length hin
            rw [hl, List.length_append, List.length_drop, hl] at hsz
            have hsi : (snapIn ix tm (intsOf (t.extract a b).data.toList) (t.extract a' b')).data.toList.length = (snapIn ix tm (intsOf (t.extract a b).data.toList) (t.extract a' b')).size := Array.length_toList
            rw [hsi] at hsz
            by_cases hi : 1000000 < ix
            · rw [if_pos hi]
              refine if_neg ?_
              rintro ⟨_, q, _⟩
              have := (snapOk_iff.1 q).2.1
              omega
            · rw [if_neg hi]
              by_cases hm : 100000 < tm
              · rw [if_pos hm]
                refine if_neg ?_
                rintro ⟨_, q, _⟩
                have := (snapOk_iff.1 q).2.1
                omega
              · rw [if_neg hm, if_pos rfl]
                by_cases he : b' = t.size
                · rw [if_pos he]
                  have hsame : snapIn ix tm (intsOf (t.extract a b).data.toList) (t.extract a' b') = t := by
                    apply ByteArray.ext
                    apply Array.toList_inj.1
                    conv => rhs; rw [hin]
                    rw [he, ← hl, List.drop_length, List.append_nil]
                  refine if_pos ⟨rfl, snapOk_iff.2 ⟨hc, ⟨⟨by omega, by omega⟩, by omega, by omega⟩, ?_⟩, ?_⟩
                  · simp only [Int.toNat_natCast]
                    rw [hsame]
                    omega
                  · rw [hsame, hall]
                · rw [if_neg he]
                  refine if_neg ?_
                  rintro ⟨_, _, q⟩
                  rw [← hall] at q
                  rw [sealOf_inj q] at hsz
                  omega

/-- what is left to be read behind the two numbers, and behind the conf -/
def readSnapC (t : ByteArray) (ix tm : Nat) (zs : List Int) (y : Nat) : Option SnapD := match rs t (y : Int) with
  | none => none
  | some (a', b') => if b' = t.size then some ⟨ix, tm, zs, t.extract a' b'⟩ else none
def readSnapB (t : ByteArray) (ix tm k : Nat) : Option SnapD := match rs t (k : Int) with
  | none => none
  | some (a, b) => if confOk (intsOf (t.extract a b).data.toList) = true then readSnapC t ix tm (intsOf (t.extract a b).data.toList) b else none
theorem readSnap_sealed {s : ByteArray} (h : Uns s ∧ s.size ≤ 20000) : readSnap s = readSnapIn (s.extract 0 (s.size - 4)) := by rw [readSnap, if_pos (snapSealed_iff.2 h)]
theorem rs_sealed {s : ByteArray} (h : ¬ (Uns s ∧ s.size ≤ 20000)) : readSnap s = none := by rw [readSnap, if_neg (fun q => h (snapSealed_iff.1 q))]
theorem rsi1 {t : ByteArray} (h1 : rv (t.data.toList.drop 0) = none) : readSnapIn t = none := by rw [readSnapIn, h1]
theorem rsi2 {t : ByteArray} {ix k1 : Nat} (h1 : rv (t.data.toList.drop 0) = some (ix, k1)) (hi : 1000000 < ix) : readSnapIn t = none := by rw [readSnapIn, h1]; simp only [hi, if_true]
theorem rsi3 {t : ByteArray} {ix k1 : Nat} (h1 : rv (t.data.toList.drop 0) = some (ix, k1)) (hi : ¬ 1000000 < ix) (h2 : rv (t.data.toList.drop k1) = none) : readSnapIn t = none := by rw [readSnapIn, h1]; simp only [hi, if_false, h2]
theorem rsi4 {t : ByteArray} {ix k1 tm k2 : Nat} (h1 : rv (t.data.toList.drop 0) = some (ix, k1)) (hi : ¬ 1000000 < ix) (h2 : rv (t.data.toList.drop k1) = some (tm, k2)) (hm : 100000 < tm) : readSnapIn t = none := by rw [readSnapIn, h1]; simp only [hi, if_false, h2, hm, if_true]
theorem rsi5 {t : ByteArray} {ix k1 tm k2 : Nat} (h1 : rv (t.data.toList.drop 0) = some (ix, k1)) (hi : ¬ 1000000 < ix) (h2 : rv (t.data.toList.drop k1) = some (tm, k2)) (hm : ¬ 100000 < tm) : readSnapIn t = readSnapB t ix tm (k1 + k2) := by rw [readSnapIn, h1]; simp only [hi, if_false, h2, hm]; rfl
theorem rsb1 {t : ByteArray} {ix tm k : Nat} (h : rs t (k : Int) = none) : readSnapB t ix tm k = none := by rw [readSnapB, h]
theorem rsb2 {t : ByteArray} {ix tm k x y : Nat} (h : rs t (k : Int) = some (x, y)) (hc : confOk (intsOf (t.extract x y).data.toList) = false) : readSnapB t ix tm k = none := by rw [readSnapB, h]; simp only [hc, Bool.false_eq_true, if_false]
theorem rsb3 {t : ByteArray} {ix tm k x y : Nat} (h : rs t (k : Int) = some (x, y)) (hc : confOk (intsOf (t.extract x y).data.toList) = true) : readSnapB t ix tm k = readSnapC t ix tm (intsOf (t.extract x y).data.toList) y := by rw [readSnapB, h]; simp only [hc, if_true]
theorem rsc1 {t : ByteArray} {ix tm y : Nat} {zs : List Int} (h : rs t (y : Int) = none) : readSnapC t ix tm zs y = none := by rw [readSnapC, h]
theorem rsc2 {t : ByteArray} {ix tm y x' y' : Nat} {zs : List Int} (h : rs t (y : Int) = some (x', y')) : readSnapC t ix tm zs y = if y' = t.size then some ⟨ix, tm, zs, t.extract x' y'⟩ else none := by rw [readSnapC, h]
theorem ask_sealed {s : ByteArray} (h : Uns s) : askSnapIn s (s.extract 0 (s.size - 4)) (some 0) = readSnap s := by
  by_cases h2 : s.size ≤ 20000
  · rw [readSnap_sealed ⟨h, h2⟩, ask_read h h2]
  · rw [rs_sealed (fun q => h2 q.2)]
    refine if_neg ?_
    rintro ⟨_, q1, q2⟩
    have q3 := (snapOk_iff.1 q1).2.2
    simp only [Int.toNat_natCast] at q3
    have q4 := congrArg ByteArray.size q2
    rw [sealOf_size] at q4
    omega
theorem ask_not {s : ByteArray} (h : ¬ Uns s) : askSnapIn s ByteArray.empty none = readSnap s := by rw [ask_none, rs_sealed (fun q => h q.1)]
theorem shortTxt_size (t : ByteArray) (o : Option Nat) : (shortTxt t o).size ≤ t.size := by
  rw [shortTxt]
  generalize varSt' t o = o1
  cases o1 with
  | none => exact Nat.zero_le _
  | some k =>
    rw [takeTxtN]
    split
    · rw [ByteArray.size_extract]; omega
    · exact Nat.zero_le _
theorem readConf_small (s : ByteArray) : (readConf s).1.length ≤ 4 := by
  cases h : confOk (intsOf s.data.toList) with
  | false => rw [readConf_no h]; exact Nat.zero_le _
  | true => rw [readConf_yes h]; exact (confOk_len h).2
end Go.Proofs.YtohmfmajgehadaaGreatDoor

namespace Go.Proofs.YtohmfmajgehadaaGreatDoor
open Go.RowKit

def entV (t : ByteArray) : EntD := match readEntry t with
  | none => ⟨0, 0, ByteArray.empty⟩
  | some p => p.2
/-- entries as they come, so many at the most -/
def entsTo (s : ByteArray) : Nat → Option Nat → List EntD × Option Nat
  | 0, o => ([], o)
  | _ + 1, none => ([], none)
  | f + 1, some k => (entV (shortTxt s (some k)) :: (entsTo s f (shortSt s (some k))).1, (entsTo s f (shortSt s (some k))).2)
def flagV (s : ByteArray) (o : Option Nat) : Bool := decide (takeTxtN s 1 o = ⟨#[1]⟩)
def mA1 (s : ByteArray) : Option Nat := varSt' s (some 3)
def mA2 (s : ByteArray) : Option Nat := varSt' s (mA1 s)
def mA3 (s : ByteArray) : Option Nat := varSt' s (mA2 s)
def mA4 (s : ByteArray) : Option Nat := varSt' s (mA3 s)
def mA5 (s : ByteArray) : Option Nat := takeStN s 1 (mA4 s)
def mA6 (s : ByteArray) : Option Nat := takeStN s 1 (mA5 s)
def mA7 (s : ByteArray) : Option Nat := varSt' s (mA6 s)
def mEs (s : ByteArray) : List EntD × Option Nat := entsTo s (min (varNum' s (mA6 s)) 5) (mA7 s)
def mA9 (s : ByteArray) : Option Nat := shortSt s (mEs s).2
def mA10 (s : ByteArray) : Option Nat := shortSt s (mA9 s)
def mMsg (s : ByteArray) (b0 b1 b2 : Nat) : MsgD :=
  ⟨b0, b1, b2, varNum' s (some 3), varNum' s (mA1 s), varNum' s (mA2 s), varNum' s (mA3 s), flagV s (mA4 s), (mEs s).1, (readConf (shortTxt s (mEs s).2)).1, shortTxt s (mA9 s), flagV s (mA5 s)⟩
/-- the other way: all is read, and held against what would be written -/
def askMsg (s : ByteArray) (b0 b1 b2 : Nat) : Option MsgD :=
  if (mA10 s).isSome = true ∧ messageOk (mMsg s b0 b1 b2) = true ∧ msgText (mMsg s b0 b1 b2) = s then some (mMsg s b0 b1 b2) else none

theorem sent_back {d : EntD} (h : entryOk d = true) : readEntry (entText 1 d) = some (1, d) := by
  have hb := entryOk_bd h
  have ht : ((d.term.toNat : Nat) : Int) = d.term := by omega
  have hk : (((UInt8.ofNat d.kind.toNat).toNat : Nat) : Int) = d.kind := by rw [UInt8.toNat_ofNat']; omega
  have hd : (⟨d.data.data.toList.toArray⟩ : ByteArray) = d.data := by
    apply ByteArray.ext
    simp
  have hin : within (((1 : Int).toNat : Nat) : Int) 1 1000000 = true := within_iff.2 (by omega)
  have hE : (⟨((d.term.toNat : Nat) : Int), (((UInt8.ofNat d.kind.toNat).toNat : Nat) : Int), ⟨d.data.data.toList.toArray⟩⟩ : EntD) = d := by rw [ht, hk, hd]
  rw [readEntry, entText_list, readE, if_pos rfl, rv_vb (by omega)]
  simp only
  rw [List.drop_left, rv_vb (by omega)]
  simp only
  rw [List.drop_left]
  simp only
  rw [hE, h, hin, Bool.true_and, if_pos rfl]
  rfl
theorem sent_text {t : ByteArray} {i : Nat} {e : EntD} (h : readEntry t = some (i, e)) : t.data.toList = (entText i e).data.toList ∧ entryOk e = true := by
  unfold readEntry at h
  cases hl : t.data.toList with
  | nil => rw [hl] at h; cases h
  | cons x l1 =>
    rw [hl, readE] at h
    split at h
    · next hx =>
      subst hx
      cases h1 : rv l1 with
      | none => rw [h1] at h; cases h
      | some p =>
        obtain ⟨j, m⟩ := p
        rw [h1] at h
        simp only at h
        cases h2 : rv (l1.drop m) with
        | none => rw [h2] at h; cases h
        | some q =>
          obtain ⟨tm, m2⟩ := q
          rw [h2] at h
          simp only at h
          cases h3 : (l1.drop m).drop m2 with
          | nil => rw [h3] at h; cases h
          | cons k r =>
            rw [h3] at h
            simp only at h
            split at h
            · next hok =>
              cases h
              rw [Bool.and_eq_true] at hok
              refine ⟨?_, hok.1⟩
              rw [entText_list]
              simp only [Int.toNat_natCast, UInt8.ofNat_toNat]
              have e1 := (rv_text h1).2
              have e2 := (rv_text h2).2
              rw [h3] at e2
              rw [e2] at e1
              rw [e1]
            · cases h
    · cases h
theorem conf17_back {zs : List Int} (h : confOk zs = true) : readConf (confB zs) = (zs, true) := by
  have hz : ∀ z ∈ zs, 1 ≤ z ∧ z ≤ 4 := by
    intro z hz
    obtain ⟨k, hk, rfl⟩ := List.getElem_of_mem hz
    exact confOk_at h hk
  have hb : ∀ l : List Int, (∀ z ∈ l, 1 ≤ z ∧ z ≤ 4) → intsOf (confBytes l) = l := by
    intro l
    induction l with
    | nil => intro _; rfl
    | cons z zs ih =>
      intro hl
      have hz := hl z List.mem_cons_self
      have := ih (fun x hx => hl x (List.mem_cons_of_mem _ hx))
      simp only [confBytes, intsOf, List.map_cons] at this ⊢
      rw [this]
      congr 1
      rw [UInt8.toNat_ofNat']
      omega
  have e : intsOf ((confB zs).data.toList) = zs := by
    show intsOf ((confBytes zs).toArray.toList) = zs
    exact hb zs hz
  rw [readConf, e, if_pos h]

/-! ### what stands there is read, both ways -/
theorem n2 {s : ByteArray} {k n lim : Nat} {R : List UInt8} (h : From s k (vb n ++ R)) (h1 : n ≤ lim) (h2 : n ≤ 1000000000) : ∃ k', numAt s lim k = some (n, k') ∧ From s k' R ∧ varNum' s (some k) = n ∧ varSt' s (some k) = some k' := by
  refine ⟨k + (vb n).length, ?_, from_add h, ?_, ?_⟩
  · rw [numAt, h.2, rv_vb h2]; simp [h1]
  · rw [varNum', h.2, rv_vb h2]
  · rw [varSt', h.2, rv_vb h2]; rfl
theorem t2 {s t : ByteArray} {k : Nat} {R : List UInt8} (h : From s k (shortL t ++ R)) (ht : t.size ≤ 20000) : ∃ k', txtAt s k = some (t, k') ∧ From s k' R ∧ shortTxt s (some k) = t ∧ shortSt s (some k) = some k' := by
  have h : From s k (vb t.size ++ (t.data.toList ++ R)) := by rw [shortL, List.append_assoc] at h; exact h
  obtain ⟨k1, e1, f1, v1, s1⟩ := n2 (lim := 1000000000) h (by omega) (by omega)
  have hl : t.data.toList.length = t.size := Array.length_toList
  have f2 := from_add f1
  rw [hl] at f2
  obtain ⟨k', e, f⟩ := txt_back h ht
  refine ⟨k', e, f, ?_⟩
  have hx : s.extract k1 (k1 + t.size) = t := by
    apply ByteArray.ext
    apply Array.toList_inj.1
    rw [extract_eq, f1.2, Nat.add_sub_cancel_left, ← hl, List.take_left']
    rfl
  have hk : k' = k1 + t.size := by
    have := congrArg List.length f.2
    have q := congrArg List.length f2.2
    rw [List.length_drop, show s.data.toList.length = s.size by simp] at this q
    have := f.1
    have := f2.1
    omega
  rw [shortTxt, shortSt, v1, s1, takeTxtN, takeStN, if_pos f2.1, if_pos f2.1, hx, hk]
  exact ⟨rfl, rfl⟩
theorem b2 {s : ByteArray} {k : Nat} {b : UInt8} {R : List UInt8} (h : From s k (b :: R)) : byteAt s k = some (b.toNat, k + 1) ∧ From s (k + 1) R ∧ takeStN s 1 (some k) = some (k + 1) ∧ takeTxtN s 1 (some k) = ⟨#[b]⟩ := by
  have f1 : From s (k + 1) R := from_add (A := [b]) h
  have hg : s.data.toList[k]? = some b := by
    have := congrArg (fun l => l[0]?) h.2
    simpa using this
  have hx : s.extract k (k + 1) = ⟨#[b]⟩ := by
    apply ByteArray.ext
    apply Array.toList_inj.1
    rw [extract_eq, h.2, Nat.add_sub_cancel_left]
    rfl
  refine ⟨by rw [byteAt, hg], f1, ?_, ?_⟩
  · rw [takeStN, if_pos f1.1]
  · rw [takeTxtN, if_pos f1.1, hx]
theorem f2 {s : ByteArray} {k : Nat} {x : Bool} {R : List UInt8} (h : From s k (flagL x ++ R)) : ∃ k', flagAt s k = some (x, k') ∧ From s k' R ∧ flagV s (some k) = x ∧ takeStN s 1 (some k) = some k' := by
  cases x with
  | true =>
    obtain ⟨e, f, st, tx⟩ := b2 (b := 1) (R := R) h
    exact ⟨_, by rw [flagAt, e]; rfl, f, by rw [flagV, tx]; rfl, st⟩
  | false =>
    obtain ⟨e, f, st, tx⟩ := b2 (b := 0) (R := R) h
    exact ⟨_, by rw [flagAt, e]; rfl, f, by rw [flagV, tx]; rfl, st⟩
theorem e2 {s : ByteArray} : ∀ (l : List EntD) (k : Nat) (R : List UInt8), From s k (l.flatMap sentL ++ R) → (∀ e ∈ l, entryOk e = true) → ∃ k', sentsAt s l.length k = some (l, k') ∧ From s k' R ∧ entsTo s l.length (some k) = (l, some k')
  | [], k, R, h, _ => ⟨k, rfl, by simpa using h, rfl⟩
  | d :: l, k, R, h, hd => by
    rw [List.flatMap_cons, List.append_assoc] at h
    have hok := hd d (List.mem_cons_self ..)
    have hz := entText_size hok
    obtain ⟨k1, a1, f1, v1, s1⟩ := t2 (t := entText 1 d) h (by omega)
    obtain ⟨k2, a2, f2, s2⟩ := e2 l k1 R f1 (fun x hx => hd x (List.mem_cons_of_mem _ hx))
    refine ⟨k2, ?_, f2, ?_⟩
    · simp [sentsAt, sentAt, a1, sent_back hok, a2]
    · simp [entsTo, v1, s1, s2, entV, sent_back hok]
theorem c2 {s : ByteArray} {k : Nat} {zs : List Int} {R : List UInt8} (h : From s k (shortL (confB zs) ++ R)) (hz : confOk zs = true ∨ zs = []) : ∃ k', confAt17 s k = some (zs, k') ∧ From s k' R ∧ (readConf (shortTxt s (some k))).1 = zs ∧ shortSt s (some k) = some k' := by
  have hl : zs.length ≤ 4 := by
    rcases hz with q | q
    · exact (confOk_len q).2
    · rw [q]; simp
  obtain ⟨k1, a1, f1, v1, s1⟩ := t2 h (by rw [confB_size]; omega)
  refine ⟨k1, ?_, f1, ?_, s1⟩
  · rw [confAt17, a1]
    simp only [Option.bind_some, confB_size]
    rcases hz with q | q
    · have := (confOk_len q).1
      rw [if_neg (by omega), conf17_back q, if_pos rfl]
    · rw [if_pos (by rw [q]; rfl), q]
  · rw [v1]
    rcases hz with q | q
    · rw [conf17_back q]
    · subst q
      rfl
theorem msg_back {d : MsgD} (h : messageOk d = true) : readMsg (msgText d) = some d ∧ ∀ b0 b1 b2 : Nat, (b0 : Int) = d.kind → (b1 : Int) = d.src → (b2 : Int) = d.dst → askMsg (msgText d) b0 b1 b2 = some d := by
  have q := messageOk_facts h
  obtain ⟨kind, src, dst, term, index, logTerm, commit, ok, ents, conf, data, last⟩ := d
  obtain ⟨q1, q2, q3, q4, q5, q6, q7, q8, q9, q10, q11⟩ := q
  dsimp only at q1 q2 q3 q4 q5 q6 q7 q8 q9 q10 q11
  obtain ⟨n1, rfl⟩ : ∃ n : Nat, kind = n := ⟨kind.toNat, by omega⟩
  obtain ⟨n2', rfl⟩ : ∃ n : Nat, src = n := ⟨src.toNat, by omega⟩
  obtain ⟨n3, rfl⟩ : ∃ n : Nat, dst = n := ⟨dst.toNat, by omega⟩
  obtain ⟨n4, rfl⟩ : ∃ n : Nat, term = n := ⟨term.toNat, by omega⟩
  obtain ⟨n5, rfl⟩ : ∃ n : Nat, index = n := ⟨index.toNat, by omega⟩
  obtain ⟨n6, rfl⟩ : ∃ n : Nat, logTerm = n := ⟨logTerm.toNat, by omega⟩
  obtain ⟨n7, rfl⟩ : ∃ n : Nat, commit = n := ⟨commit.toNat, by omega⟩
  obtain ⟨s, hs⟩ : ∃ s, msgText ⟨n1, n2', n3, n4, n5, n6, n7, ok, ents, conf, data, last⟩ = s := ⟨_, rfl⟩
  have f0 : From s 0 (UInt8.ofNat n1 :: UInt8.ofNat n2' :: UInt8.ofNat n3 :: (vb n4 ++ (vb n5 ++ (vb n6 ++ (vb n7 ++ (flagL ok ++ (flagL last ++ (vb ents.length ++ (ents.flatMap sentL ++ (shortL (confB conf) ++ (shortL data ++ []))))))))))) := by
    refine ⟨Nat.zero_le _, ?_⟩
    rw [← hs]
    simp [msgText, msgL, headL]
  rw [hs]
  obtain ⟨a0, f0, _, _⟩ := b2 f0
  obtain ⟨a1, f1, _, _⟩ := b2 f0
  obtain ⟨a2, f2', _, _⟩ := b2 f1
  obtain ⟨k3, a3, f3, v3, s3⟩ := n2 (lim := 100000) f2' (by omega) (by omega)
  obtain ⟨k4, a4, f4, v4, s4⟩ := n2 (lim := 1000000) f3 (by omega) (by omega)
  obtain ⟨k5, a5, f5, v5, s5⟩ := n2 (lim := 100000) f4 (by omega) (by omega)
  obtain ⟨k6, a6, f6, v6, s6⟩ := n2 (lim := 1000000) f5 (by omega) (by omega)
  obtain ⟨k7, a7, f7, v7, s7⟩ := f2 f6
  obtain ⟨k8, a8, f8, v8, s8⟩ := f2 f7
  obtain ⟨k9, a9, f9, v9, s9⟩ := n2 (lim := 4) f8 (by omega) (by omega)
  obtain ⟨k10, a10, f10, s10⟩ := e2 ents k9 _ f9 q9
  obtain ⟨k11, a11, f11, v11, s11⟩ := c2 f10 q10
  obtain ⟨k12, a12, f12, v12, s12⟩ := t2 f11 (by omega)
  have hk : k12 = s.size := by
    have h4 := congrArg List.length f12.2
    rw [List.length_drop, show s.data.toList.length = s.size by simp] at h4
    have := f12.1
    simp at h4
    omega
  have b1' : (UInt8.ofNat n1).toNat = n1 := by rw [UInt8.toNat_ofNat']; omega
  have b2' : (UInt8.ofNat n2').toNat = n2' := by rw [UInt8.toNat_ofNat']; omega
  have b3' : (UInt8.ofNat n3).toNat = n3 := by rw [UInt8.toNat_ofNat']; omega
  rw [b1'] at a0
  rw [b2'] at a1
  rw [b3'] at a2
  constructor
  · have hm : msgAt s = some (⟨n1, n2', n3, n4, n5, n6, n7, ok, ents, conf, data, last⟩, k12) := by
      simp only [msgAt, a0, a1, a2, a3, a4, a5, a6, a7, a8, a9, a10, a11, a12, Option.bind_some]
      rw [if_pos h]
    rw [readMsg, hm]
    simp [hk]
  · intro b0 b1 b2 e0 e1 e2'
    have z0 : b0 = n1 := Int.ofNat_inj.1 e0
    have z1 : b1 = n2' := Int.ofNat_inj.1 e1
    have z2 : b2 = n3 := Int.ofNat_inj.1 e2'
    subst z0 z1 z2
    have c1 : mA1 s = some k3 := s3
    have c2 : mA2 s = some k4 := by rw [mA2, c1, s4]
    have c3 : mA3 s = some k5 := by rw [mA3, c2, s5]
    have c4 : mA4 s = some k6 := by rw [mA4, c3, s6]
    have c5 : mA5 s = some k7 := by rw [mA5, c4, s7]
    have c6 : mA6 s = some k8 := by rw [mA6, c5, s8]
    have c7 : mA7 s = some k9 := by rw [mA7, c6, s9]
    have c8 : mEs s = (ents, some k10) := by rw [mEs, c6, c7, v9, Nat.min_eq_left (by omega), s10]
    have c9 : mA9 s = some k11 := by rw [mA9, c8]; exact s11
    have c10 : mA10 s = some k12 := by rw [mA10, c9, s12]
    have v3' : varNum' s (some 3) = n4 := v3
    have hm : mMsg s b0 b1 b2 = ⟨b0, b1, b2, n4, n5, n6, n7, ok, ents, conf, data, last⟩ := by
      rw [mMsg, c8]
      dsimp only
      rw [c1, c2, c3, c4, c5, c9, v3', v4, v5, v6, v7, v8, v11, v12]
    unfold askMsg
    rw [hm, c10]
    exact if_pos ⟨rfl, h, hs⟩

/-! ### what was read stands there -/
theorem flag_text {s : ByteArray} {k : Nat} {x : Bool} {k' : Nat} (h : flagAt s k = some (x, k')) : k' ≤ s.size ∧ s.data.toList.drop k = flagL x ++ s.data.toList.drop k' := by
  have hk := flagAt_fits h
  unfold flagAt at h
  cases hq : byteAt s k with
  | none => rw [hq] at h; cases h
  | some p =>
    obtain ⟨n, k1⟩ := p
    have q := byteAt_fits hq
    rw [hq] at h
    simp only [Option.bind_some] at h
    split at h
    · next hn =>
      cases h
      refine ⟨hk, ?_⟩
      rw [q.2.2.2, q.2.1]
      have : n = 0 ∨ n = 1 := by omega
      rcases this with rfl | rfl
      · rfl
      · rfl
    · cases h
theorem sentAt_text {s : ByteArray} {k : Nat} {d : EntD} {k' : Nat} (hk : k ≤ s.size) (h : sentAt s k = some (d, k')) : k' ≤ s.size ∧ s.data.toList.drop k = sentL d ++ s.data.toList.drop k' := by
  have hk' := sentAt_fits hk h
  unfold sentAt at h
  cases hq : txtAt s k with
  | none => rw [hq] at h; cases h
  | some p =>
    obtain ⟨t, k1⟩ := p
    have q := txtAt_fits hk hq
    rw [hq] at h
    simp only [Option.bind_some] at h
    cases hr : readEntry t with
    | none => rw [hr] at h; cases h
    | some r =>
      obtain ⟨i, e⟩ := r
      rw [hr] at h
      simp only at h
      split at h
      · next hi =>
        cases h
        subst hi
        have ht := (sent_text hr).1
        have hz : t = entText 1 d := by
          apply ByteArray.ext
          apply Array.toList_inj.1
          exact ht
        refine ⟨hk', ?_⟩
        rw [q.2.2.2, sentL, shortL, ← hz, List.append_assoc]
      · cases h
theorem sentsAt_text {s : ByteArray} : ∀ {n k : Nat} {l : List EntD} {k' : Nat}, k ≤ s.size → sentsAt s n k = some (l, k') → k' ≤ s.size ∧ l.length = n ∧ s.data.toList.drop k = l.flatMap sentL ++ s.data.toList.drop k'
  | 0, k, l, k', hk, h => by
    rw [sentsAt] at h
    cases h
    exact ⟨hk, rfl, rfl⟩
  | n + 1, k, l, k', hk, h => by
    rw [sentsAt] at h
    cases hq : sentAt s k with
    | none => rw [hq] at h; cases h
    | some p =>
      obtain ⟨d, k1⟩ := p
      have q := sentAt_text hk hq
      rw [hq] at h
      simp only [Option.bind_some] at h
      cases hr : sentsAt s n k1 with
      | none => rw [hr] at h; cases h
      | some r =>
        obtain ⟨l1, k2⟩ := r
        have q2 := sentsAt_text q.1 hr
        rw [hr] at h
        cases h
        refine ⟨q2.1, by simp [q2.2.1], ?_⟩
        rw [q.2, q2.2.2, List.flatMap_cons, List.append_assoc]
theorem txt_text {s : ByteArray} {k k' : Nat} {t : ByteArray} (hk : k ≤ s.size) (h : txtAt s k = some (t, k')) : k' ≤ s.size ∧ s.data.toList.drop k = shortL t ++ s.data.toList.drop k' := by
  have q := txtAt_fits hk h
  exact ⟨q.2.2.1, by rw [q.2.2.2, shortL, List.append_assoc]⟩
theorem confAt_text {s : ByteArray} {k : Nat} {zs : List Int} {k' : Nat} (hk : k ≤ s.size) (h : confAt17 s k = some (zs, k')) : k' ≤ s.size ∧ s.data.toList.drop k = shortL (confB zs) ++ s.data.toList.drop k' := by
  unfold confAt17 at h
  cases hq : txtAt s k with
  | none => rw [hq] at h; cases h
  | some p =>
    obtain ⟨t, k1⟩ := p
    have q := txt_text hk hq
    rw [hq] at h
    simp only [Option.bind_some] at h
    split at h
    · next h0 =>
      cases h
      have : t = confB [] := empty_data h0
      rw [← this]
      exact q
    · split at h
      · next hc =>
        cases h
        obtain ⟨c1, c2⟩ := readConf_true hc
        rw [c2]
        have : confB (intsOf t.data.toList) = t := conf_back t
        rw [this]
        exact q
      · cases h
theorem readMsg_ok {s : ByteArray} {d : MsgD} (h : readMsg s = some d) : messageOk d = true ∧ msgText d = s := by
  have h0 := h
  unfold readMsg at h
  cases hm : msgAt s with
  | none => rw [hm] at h; cases h
  | some p =>
  obtain ⟨d', k⟩ := p
  rw [hm] at h
  simp only [Option.bind_some] at h
  split at h
  case isFalse => cases h
  case isTrue hend =>
  cases h
  subst hend
  unfold msgAt at hm
  cases q0 : byteAt s 0 with
  | none => rw [q0] at hm; cases hm
  | some p0 =>
  obtain ⟨x0, j0⟩ := p0
  have r0 := byteAt_fits q0
  rw [q0] at hm
  simp only [Option.bind_some] at hm
  cases q1 : byteAt s j0 with
  | none => rw [q1] at hm; cases hm
  | some p1 =>
  obtain ⟨x1, j1⟩ := p1
  have r1 := byteAt_fits q1
  rw [q1] at hm
  simp only [Option.bind_some] at hm
  cases q2 : byteAt s j1 with
  | none => rw [q2] at hm; cases hm
  | some p2 =>
  obtain ⟨x2, j2⟩ := p2
  have r2 := byteAt_fits q2
  rw [q2] at hm
  simp only [Option.bind_some] at hm
  cases q3 : numAt s 100000 j2 with
  | none => rw [q3] at hm; cases hm
  | some p3 =>
  obtain ⟨x3, j3⟩ := p3
  have r3 := numAt_fits (by omega) q3
  rw [q3] at hm
  simp only [Option.bind_some] at hm
  cases q4 : numAt s 1000000 j3 with
  | none => rw [q4] at hm; cases hm
  | some p4 =>
  obtain ⟨x4, j4⟩ := p4
  have r4 := numAt_fits (by omega) q4
  rw [q4] at hm
  simp only [Option.bind_some] at hm
  cases q5 : numAt s 100000 j4 with
  | none => rw [q5] at hm; cases hm
  | some p5 =>
  obtain ⟨x5, j5⟩ := p5
  have r5 := numAt_fits (by omega) q5
  rw [q5] at hm
  simp only [Option.bind_some] at hm
  cases q6 : numAt s 1000000 j5 with
  | none => rw [q6] at hm; cases hm
  | some p6 =>
  obtain ⟨x6, j6⟩ := p6
  have r6 := numAt_fits (by omega) q6
  rw [q6] at hm
  simp only [Option.bind_some] at hm
  cases q7 : flagAt s j6 with
  | none => rw [q7] at hm; cases hm
  | some p7 =>
  obtain ⟨x7, j7⟩ := p7
  have r7 := flag_text q7
  rw [q7] at hm
  simp only [Option.bind_some] at hm
  cases q8 : flagAt s j7 with
  | none => rw [q8] at hm; cases hm
  | some p8 =>
  obtain ⟨x8, j8⟩ := p8
  have r8 := flag_text q8
  rw [q8] at hm
  simp only [Option.bind_some] at hm
  cases q9 : numAt s 4 j8 with
  | none => rw [q9] at hm; cases hm
  | some p9 =>
  obtain ⟨x9, j9⟩ := p9
  have r9 := numAt_fits (by omega) q9
  rw [q9] at hm
  simp only [Option.bind_some] at hm
  cases qa : sentsAt s x9 j9 with
  | none => rw [qa] at hm; cases hm
  | some pa =>
  obtain ⟨xa, ja⟩ := pa
  have ra := sentsAt_text (by omega) qa
  rw [qa] at hm
  simp only [Option.bind_some] at hm
  cases qb : confAt17 s ja with
  | none => rw [qb] at hm; cases hm
  | some pb =>
  obtain ⟨xb, jb⟩ := pb
  have rb := confAt_text (by omega) qb
  rw [qb] at hm
  simp only [Option.bind_some] at hm
  cases qc : txtAt s jb with
  | none => rw [qc] at hm; cases hm
  | some pc =>
  obtain ⟨xc, jc⟩ := pc
  have rc := txt_text (by omega) qc
  rw [qc] at hm
  simp only [Option.bind_some] at hm
  split at hm
  case isFalse => cases hm
  case isTrue hok =>
  simp only [Option.some.injEq, Prod.mk.injEq] at hm
  obtain ⟨rfl, hj⟩ := hm
  refine ⟨hok, ?_⟩
  apply ByteArray.ext
  apply Array.toList_inj.1
  have e0 : s.data.toList = s.data.toList.drop 0 := rfl
  have hl : s.data.toList.length = s.size := by simp
  have hz : s.data.toList.drop jc = [] := by rw [hj, ← hl, List.drop_length]
  have z0 : j0 = 0 + 1 := r0.2.1
  subst z0
  have z1 : j1 = 0 + 1 + 1 := r1.2.1
  subst z1
  have z2 : j2 = 0 + 1 + 1 + 1 := r2.2.1
  subst z2
  conv => rhs; rw [e0, r0.2.2.2, r1.2.2.2, r2.2.2.2, r3.2.2.2.2, r4.2.2.2.2, r5.2.2.2.2, r6.2.2.2.2, r7.2, r8.2, r9.2.2.2.2, ra.2.2, rb.2, rc.2, hz]
  simp only [msgText, msgL, headL, Int.toNat_natCast, ra.2.1, List.append_assoc, List.append_nil, List.cons_append, List.nil_append]
theorem readMsg_short {s : ByteArray} (h : s.size < 3) : readMsg s = none := by
  cases hr : readMsg s with
  | none => rfl
  | some d =>
    exfalso
    obtain ⟨hok, ht⟩ := readMsg_ok hr
    have := congrArg (fun t => t.data.toList.length) ht
    simp only [msgText, msgL, headL, List.length_append, List.length_cons, List.length_nil] at this
    have e : s.data.toList.length = s.size := by simp
    omega
/-- both ways are one -/
theorem ask_msg {s : ByteArray} (h3 : 3 ≤ s.size) : askMsg s (s[0]'(by omega)).toNat (s[1]'(by omega)).toNat (s[2]'(by omega)).toNat = readMsg s := by
  have heads : ∀ d : MsgD, messageOk d = true → msgText d = s → ((s[0]'(by omega)).toNat : Int) = d.kind ∧ ((s[1]'(by omega)).toNat : Int) = d.src ∧ ((s[2]'(by omega)).toNat : Int) = d.dst := by
    intro d hd ht
    have q := messageOk_facts hd
    have hl := congrArg (fun t => t.data.toList) ht
    simp only [msgText, msgL, headL, List.append_assoc, List.cons_append, List.nil_append] at hl
    have l0 := list_at s 0 (by omega)
    have l1 := list_at s 1 (by omega)
    have l2 := list_at s 2 (by omega)
    rw [List.drop_zero] at l0
    rw [l0, l1, l2] at hl
    simp only [List.cons.injEq] at hl
    obtain ⟨y0, y1, y2, _⟩ := hl
    obtain ⟨g1, g2, g3⟩ := And.intro q.kind (And.intro q.src q.dst)
    have u0 := congrArg UInt8.toNat y0
    have u1 := congrArg UInt8.toNat y1
    have u2 := congrArg UInt8.toNat y2
    rw [UInt8.toNat_ofNat'] at u0 u1 u2
    omega
  cases hr : readMsg s with
  | some d =>
    have q := readMsg_ok hr
    obtain ⟨h0, h1, h2⟩ := heads d q.1 q.2
    have := (msg_back q.1).2 _ _ _ h0 h1 h2
    rw [q.2] at this
    exact this
  | none =>
    cases ha : askMsg s (s[0]'(by omega)).toNat (s[1]'(by omega)).toNat (s[2]'(by omega)).toNat with
    | none => rfl
    | some p =>
      unfold askMsg at ha
      split at ha
      · next q =>
        have := (msg_back q.2.1).1
        rw [q.2.2, hr] at this
        cases this
      · cases ha
end Go.Proofs.YtohmfmajgehadaaGreatDoor

namespace Go.Proofs.YtohmfmajgehadaaGreatDoor
open Go.RowKit Go.Sort

def decDid (o : Option MsgD) (w : World) (e : Ending) (w' : World) : Prop := match o with
  | none => e = .returned (.tuple #[.agg #[.int .i64 0, .int .i64 0, .int .i64 0, .int .i64 0, .int .i64 0, .int .i64 0, .int .i64 0, .bool false, .slice none 0 0, .slice none 0 0, .string ⟨#[]⟩, .bool false], .bool false]) ∧ Below w.heap.size w w'
  | some d => ∃ va vc vb vd, e = .returned (.tuple #[.agg #[.int .i64 d.kind, .int .i64 d.src, .int .i64 d.dst, .int .i64 d.term, .int .i64 d.index, .int .i64 d.logTerm, .int .i64 d.commit, .bool d.ok, .slice va d.ents.length vc, .slice vb d.conf.length vd, .string d.data, .bool d.last], .bool true]) ∧ (w'.ownsRow w.heap.size 57 3 (.slice va d.ents.length vc) d.ents.length (entCells d.ents) ∧ w'.ownsRow w.heap.size 3 1 (.slice vb d.conf.length vd) d.conf.length (intCells d.conf)) ∧ Below w.heap.size w w'
end Go.Proofs.YtohmfmajgehadaaGreatDoor

namespace Go.Proofs.YtohmfmajgehadaaGreatDoor
open Go.RowKit

theorem empty_txt17 (s : ByteArray) : (s.toList == []) = decide (s.size = 0) := by
  rw [ByteArray.toList_eq]
  by_cases h : s.size = 0
  · have : s.data.toList = [] := List.eq_nil_of_length_eq_zero (by simpa using h)
    simp [this, h]
  · have : (s.data.toList == []) = false := by
      rw [beq_eq_false_iff_ne]
      intro e
      exact h (by simpa using congrArg List.length e)
    rw [this]
    simp [h]
end Go.Proofs.YtohmfmajgehadaaGreatDoor

namespace Go.Proofs.YtohmfmajgehadaaGreatDoor
open Go

theorem grown_draws (w : World) (r : Option Nat) (n : Nat) : w.grownBy (w.drewN n) r := ⟨rfl, rfl, rfl, Nat.le_refl _, fun _ _ _ => rfl⟩
end Go.Proofs.YtohmfmajgehadaaGreatDoor

namespace Go.Proofs.YtohmfmajgehadaaGreatDoor
open Go.RowKit

theorem blk_grown {w w' : World} {g r : Nat} {t : TypeId} {cs : List Value} (h : BlockIs w g t cs) (hg : w.grownBy w' (some r)) (hr : g ≠ r) : BlockIs w' g t cs := by
  have hlt := h.lt
  unfold BlockIs at h ⊢
  rw [hg.block g hlt (by simp; omega)]
  exact h
theorem below_grown {n r : Nat} {w w1 w2 : World} (h : Below n w w1) (hg : w1.grownBy w2 (some r)) (hr : n ≤ r) (hs : n ≤ w1.heap.size) : Below n w w2 :=
  h.grown hg hs (fun k e => by simp at e; omega)
theorem grown_none {w w' : World} (h : w.grownBy w' none) (r : Nat) : w.grownBy w' (some r) := by
  obtain ⟨h1, h2, h3, h4, h5⟩ := h
  exact ⟨h1, h2, h3, h4, fun b hb _ => h5 b hb (by simp)⟩
theorem three_blocks (w : World) (o p q : Obj) : Below w.heap.size w (((w.alloc o).alloc p).alloc q) ∧ (((w.alloc o).alloc p).alloc q).heap.size = w.heap.size + 3 ∧ (((w.alloc o).alloc p).alloc q).heap[w.heap.size]? = some o ∧ (((w.alloc o).alloc p).alloc q).heap[w.heap.size + 1]? = some p ∧ (((w.alloc o).alloc p).alloc q).heap[w.heap.size + 1 + 1]? = some q := by
  refine ⟨below_more (below_more (below_more (Below.refl _ w) _) _) _, by simp [World.alloc, -World.alloc_eq], ?_, ?_, ?_⟩
  · show (((w.heap.push o).push p).push q)[w.heap.size]? = some o
    rw [Array.getElem?_push, if_neg (by simp; omega), Array.getElem?_push, if_neg (by simp), Array.getElem?_push, if_pos rfl]
  · show (((w.heap.push o).push p).push q)[w.heap.size + 1]? = some p
    rw [Array.getElem?_push, if_neg (by simp), Array.getElem?_push, if_pos (by simp)]
  · show (((w.heap.push o).push p).push q)[w.heap.size + 1 + 1]? = some q
    rw [Array.getElem?_push, if_pos (by simp)]
theorem two_blocks (w : World) (o p : Obj) : Below w.heap.size w ((w.alloc o).alloc p) ∧ ((w.alloc o).alloc p).heap.size = w.heap.size + 2 ∧ ((w.alloc o).alloc p).heap[w.heap.size]? = some o ∧ ((w.alloc o).alloc p).heap[w.heap.size + 1]? = some p := by
  refine ⟨below_more (below_more (Below.refl _ w) _) _, by simp [World.alloc, -World.alloc_eq], ?_, ?_⟩
  · show ((w.heap.push o).push p)[w.heap.size]? = some o
    rw [Array.getElem?_push, if_neg (by simp), Array.getElem?_push, if_pos rfl]
  · show ((w.heap.push o).push p)[w.heap.size + 1]? = some p
    rw [Array.getElem?_push, if_pos (by simp)]

/-- what hangs on blocks of two types alone -/
def Stays (t1 t2 : TypeId) (Q : World → Prop) : Prop := ∀ x y : World, (∀ g t cs, t = t1 ∨ t = t2 → BlockIs x g t cs → BlockIs y g t cs) → Q x → Q y
theorem Stays.alloc {t1 t2 : TypeId} {Q : World → Prop} (h : Stays t1 t2 Q) {x : World} (q : Q x) (o : Obj) : Q (x.alloc o) :=
  h _ _ (fun _ _ _ _ hb => hb.on (below_more (Below.refl _ _) o) hb.lt) q
theorem Stays.drawn {t1 t2 : TypeId} {Q : World → Prop} (h : Stays t1 t2 Q) {x : World} (q : Q x) (n : Nat) : Q (x.drewN n) := h x (x.drewN n) (fun _ _ _ _ hb => hb) q
theorem Stays.put {t1 t2 tb : TypeId} {Q : World → Prop} {cb : List Value} {b : Nat} (h : Stays t1 t2 Q) {x : World} (q : Q x) (hb : BlockIs x b tb cb) (h1 : tb ≠ t1) (h2 : tb ≠ t2) (j : Nat) (u : Value) : Q (x.setCell ⟨b, j, none⟩ u) :=
  h _ _ (fun _ _ _ ht hg => hg.far (fun e => by subst e; have := (block_one hb hg).1; rcases ht with rfl | rfl; exact h1 this; exact h2 this) u) q
theorem Stays.grown {t1 t2 tb : TypeId} {Q : World → Prop} {cb : List Value} {b : Nat} (h : Stays t1 t2 Q) {x y : World} (q : Q x) (hg : x.grownBy y (some b)) (hb : BlockIs x b tb cb) (h1 : tb ≠ t1) (h2 : tb ≠ t2) : Q y :=
  h _ _ (fun _ _ _ ht hc => blk_grown hc hg (fun e => by subst e; have := (block_one hb hc).1; rcases ht with rfl | rfl; exact h1 this; exact h2 this)) q
end Go.Proofs.YtohmfmajgehadaaGreatDoor

namespace Go.Proofs.YtohmfmajgehadaaGreatDoor
open Go

theorem leaves_put {P : Program} {fn : Func} {j : Nat} {v : Value} {R : Ending → World → Prop} (hr : ∀ t : Array Value, results fn (t.setIfInBounds j v) = results fn t) :
    ∀ (ds : List Deferred) (t : Array Value) (u : FrameMode) (w : World), Leaves P fn (t.setIfInBounds j v) R ds u w → Leaves P fn t R ds u w
  | [], t, .returning, _, h => by
    obtain ⟨x, h1, h2⟩ := h
    rw [hr] at h1
    exact ⟨x, h1, h2⟩
  | [], _, .panicking _, _, h => h
  | [], _, .run, _, h => h
  | _ :: ds, t, _, _, ⟨hu, fv, cap, f, args, e1, e2, e3⟩ => ⟨hu, fv, cap, f, args, e1, e2, e3.mono fun e u' w' hh => by
      cases e with
      | returned _ => exact leaves_put hr ds t _ _ hh
      | panicked _ => exact leaves_put hr ds t _ _ hh
      | outgrown => exact hh⟩
theorem panic_put {P : Program} {fn : Func} {j : Nat} {v : Value} {R : Ending → World → Prop} (hr : ∀ t : Array Value, results fn (t.setIfInBounds j v) = results fn t) (c : List PanicEntry) (a : Act) (w : World) (h : bodyPostD P fn R (.panic c) (a.put (some j) v) w) : bodyPostD P fn R (.panic c) a w :=
  leaves_put hr a.defers a.tmps (.panicking c) w h
end Go.Proofs.YtohmfmajgehadaaGreatDoor
