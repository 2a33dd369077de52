/-
  Plain facts on the bytes of a number in sevens and on rows of bytes in memory; nothing of the program stands here.
  A block of memory of the call's own: its cells as a list; rows of elements of so many cells each.
  Files as data, in memory.
  Plain facts on rows that a call owns; nothing of the program stands here.
  Plain facts on figures; nothing of the program stands here.
  Plain facts on the values of figures; nothing of the program stands here.
  Plain facts on decimal figures; nothing of the program stands here.
  Rows of the call's own that grow: what stands behind an append.
  Rows of the call's own between two sizes of memory; blocks laid one behind the other.
  A number within bounds; nothing of the program stands here.
  Plain facts on confs: when one is right, and their texts; nothing of the program stands here.
  Entries as plain data: when one is right, and its text; nothing of the program stands here.
  Plain facts on reading a number in sevens; nothing of the program stands here.
  Plain facts on reading an entry's text; nothing of the program stands here.
  Logs as plain data: when one is right, its last term, the term of an index, what is put and what is left behind, what two share; nothing of the program stands here.
  Journals as data: which ones are right; nothing of the program stands here.
  Plain facts on check sums of 32 bits; nothing of the program stands here.
  Plain facts on frames (a length, a sum and a text) and on the frames that a text begins with; nothing of the program stands here.
  Numbers in memory, one behind the other.
  Plain facts on the texts of confs; rows of numbers in memory; nothing of the program stands here.
  Plain facts on the text of an entry; nothing of the program stands here.
  Plain facts: a number in sevens is read back; nothing of the program stands here.
  The text of a journal: frames one behind the other; nothing of the program stands here.
  A letter and two numbers, read; nothing of the program stands here.
  Entries as data, in memory, one behind the other.
  Entries in a row of the call's own.
  Entries in memory: cell by cell, and those behind a place.
  An entry's cells and size, as the program tells them.
  Entries that are appended to an empty list of the call's own.
  Memory stands while orders are drawn.
  Two facts that both sums use.
  What a reader of frames answers, and the row that it grows.
  Acts as data.
  Acts in memory.
  Acts in memory, one behind the other.
  Rows of acts of the call's own: they grow.
  Plain facts on reading a short text; nothing of the program stands here.
  Plain facts on sealed texts: what is sealed is unsealed; with one byte turned it is not.
  Snapshots as data, and their texts; nothing of the program stands here.
  What is read of a text as a snapshot; nothing of the program stands here.
  Blocks that stand where others are written or new ones come; nothing of the program stands here.
  What both readers of a snapshot answer; rows of numbers that stand while other blocks are written.
  Disks as plain data: when one is right.
  The name of a snapshot's file; nothing of the program stands here.
  Plain facts on reading figures two by two; nothing of the program stands here.
  Plain facts: what is written is read back; nothing of the program stands here.
  Names that are a letter and a number; nothing of the program stands here.
  Acts that drop files by their names, in the order of a right disk's files; nothing of the program stands here.
  The greatest number of a journal's file on a disk, as data.
  The name of a journal's file; nothing of the program stands here.
  A journal's box is written: what lies in blocks of another kind stays.
  '[]byte(s)': a new row that holds the text's bytes.
  An append of acts, within a region that draws its order.
  Plain facts on four steps of a check sum at once, by a table of sixteen.
  Plain facts on confs: a number held against the one ahead of it; how many of a conf are in a list; nothing of the program stands here.
-/
import Derived.WalkKit
import Derived.RowKit
import Derived.WalkSmall
import Derived.Test.YtbifkpkhpaellaaGreatDoorRows
import Derived.BigQuiet
import Derived.Deep.LoopGhost
import Derived.Maps.AppendAt
import Derived.Laws.AppendOwn
import Derived.OwnWalk
import Derived.Deep.Draws
import Derived.Laws.Cover1
import Derived.Laws.IdiomStrings
import Derived.Deep.RegionLaw
namespace Go.Proofs.YtbifkpkhpaellaaGreatDoor
open Go.RowKit

/-- the bytes of n, seven bits a byte, the least first (with so many steps at the most) -/
def vbF : Nat → Nat → List UInt8
  | 0, n => [UInt8.ofNat n]
  | f + 1, n => if n ≤ 127 then [UInt8.ofNat n] else UInt8.ofNat (n % 128 + 128) :: vbF f (n / 128)
/-- the bytes of n, seven bits a byte, the least first -/
def vb (n : Nat) : List UInt8 := vbF n n

theorem vbF_eq : ∀ (f g n : Nat), n ≤ f → n ≤ g → vbF f n = vbF g n
  | 0, 0, _, _, _ => rfl
  | 0, g + 1, n, h, _ => by
    obtain rfl : n = 0 := by omega
    rw [vbF, vbF, if_pos (by omega)]
  | f + 1, 0, n, _, h => by
    obtain rfl : n = 0 := by omega
    rw [vbF, vbF, if_pos (by omega)]
  | f + 1, g + 1, n, h1, h2 => by
    rw [vbF, vbF]
    by_cases h : n ≤ 127
    · rw [if_pos h, if_pos h]
    · rw [if_neg h, if_neg h, vbF_eq f g (n / 128) (by omega) (by omega)]
theorem vb_small {n : Nat} (h : n ≤ 127) : vb n = [UInt8.ofNat n] := by
  rw [vb, vbF_eq n (n + 1) n (Nat.le_refl _) (by omega), vbF, if_pos h]
theorem vb_big {n : Nat} (h : 127 < n) : vb n = UInt8.ofNat (n % 128 + 128) :: vb (n / 128) := by
  rw [vb, vbF_eq n (n + 1) n (Nat.le_refl _) (by omega), vbF, if_neg (by omega), vb, vbF_eq n (n / 128) (n / 128) (by omega) (Nat.le_refl _)]

theorem vb_pos (n : Nat) : 0 < (vb n).length := by
  by_cases h : n ≤ 127
  · rw [vb_small h]; simp
  · rw [vb_big (by omega)]; simp

theorem vb_le (n : Nat) : (vb n).length ≤ n + 1 := by
  induction n using Nat.strongRecOn with
  | _ n ih =>
    by_cases h : n ≤ 127
    · rw [vb_small h]; simp
    · rw [vb_big (by omega)]
      have := ih (n / 128) (by omega)
      simp only [List.length_cons]
      omega

/-- bytes as the cells of a row -/
def cs (l : List UInt8) : List Value := l.map fun b => Value.int .u8 (b.toNat : Int)

theorem cs_append (l r : List UInt8) : cs (l ++ r) = cs l ++ cs r := by simp [cs]
theorem cs_length (l : List UInt8) : (cs l).length = l.length := by simp [cs]
theorem cs_one {x : Int} (h0 : 0 ≤ x) (h1 : x ≤ 255) : [Value.int .u8 x] = cs [UInt8.ofNat x.toNat] := by
  simp [cs]
  omega

/-- a row that the call owns, turned into a text -/
theorem text_of_row {P : Program} {w : World} {base : Nat} {v : Value} {l : List UInt8} {src dst e : TypeId} (hs : P.underlying src = some (.slice e)) (he : P.underlying e = some (.int .u8)) (hd : P.underlying dst = some .string)
    (h : w.ownsRow base e 1 v l.length (cs l)) : (convert src dst v).run P w = .ok (.string ⟨l.toArray⟩) w := by
  obtain ⟨h1, h2⟩ := h
  rcases h2 with ⟨hv, hn⟩ | ⟨g, cap, cur, hv, hg, hh, hle, hm, hsz, hx⟩
  · have hl : l = [] := by cases l with | nil => rfl | cons a r => simp at hn
    subst hl hv
    exact run_convert_bytes_nil w src e hs he 0 0 dst hd
  · subst hv
    refine run_convert_bytes_back w src dst e ⟨g, 0, none⟩ cap l hs he hd fun j hj => ?_
    have hu : (cs l)[j]? = some (.int .u8 (l[j].toNat : Int)) := by simp [cs, hj]
    exact World.ownsRow.cells (w := w) (base := base) (e := e) (size := 1) ⟨h1, Or.inr ⟨g, cap, cur, rfl, hg, hh, hle, hm, hsz, hx⟩⟩ rfl j _ hu

/-- a piece of a text, its bounds as whole numbers -/
theorem slice_nat {P : Program} {t : TypeId} (h : P.underlying t = some .string) (s : ByteArray) (a b : Nat) (x y : Int) (hx : x = a) (hy : y = b) (hab : a ≤ b) (hb : b ≤ s.size) (w : World) :
    (Instr.slice t (.string s) (some (.int .i64 x)) (some (.int .i64 y)) none).run P w = .ok (.string (s.extract a b)) w := by
  subst hx hy
  rw [run_slice_string w t s .i64 .i64 a b h (by omega) (by omega) (by omega)]
  simp

theorem extract_eq (s : ByteArray) (a b : Nat) : (s.extract a b).data.toList = (s.data.toList.drop a).take (b - a) := by
  simp [ByteArray.extract, ByteArray.copySlice]

theorem var_step {n m : Nat} {acc : List UInt8} {w wr w1 : World} {v v' : Value} (hm : 127 < m) (hacc : acc ++ vb m = vb n) (hown : wr.ownsRow w.heap.size 5 1 v acc.length (cs acc))
    (hown' : w1.ownsRow w.heap.size 5 1 v' (acc.length + 1) (cs acc ++ [.int .u8 ((m : Int) % 128 + 128)])) (hgrow : (wr.alloc (.cells #[.int .u8 ((m : Int) % 128 + 128)] 5)).grownBy w1 v.ownBlock) (hb : Below w.heap.size w wr) :
    (acc ++ [UInt8.ofNat (m % 128 + 128)]) ++ vb (m / 128) = vb n ∧ w1.ownsRow w.heap.size 5 1 v' (acc ++ [UInt8.ofNat (m % 128 + 128)]).length (cs (acc ++ [UInt8.ofNat (m % 128 + 128)])) ∧ Below w.heap.size w w1 := by
  refine ⟨by rw [← hacc, vb_big hm]; simp, ?_, (hb.alloc hb.size _).grown hgrow (by have := hb.size; simp; omega) (fun k hk => (hown.lt k hk).1)⟩
  have e : [Value.int .u8 ((m : Int) % 128 + 128)] = cs [UInt8.ofNat (m % 128 + 128)] := by
    rw [cs_one (by omega) (by omega)]
    have : ((m : Int) % 128 + 128).toNat = m % 128 + 128 := by omega
    rw [this]
  rw [e, ← cs_append] at hown'
  simpa using hown'

theorem var_end {n m : Nat} {acc : List UInt8} {w wr w1 : World} {v v' : Value} (hm : m ≤ 127) (hacc : acc ++ vb m = vb n) (hown : wr.ownsRow w.heap.size 5 1 v acc.length (cs acc))
    (hown' : w1.ownsRow w.heap.size 5 1 v' (acc.length + 1) (cs acc ++ [.int .u8 (m : Int)])) (hgrow : (wr.alloc (.cells #[.int .u8 (m : Int)] 5)).grownBy w1 v.ownBlock) (hb : Below w.heap.size w wr) :
    w1.ownsRow w.heap.size 5 1 v' (vb n).length (cs (vb n)) ∧ Below w.heap.size w w1 := by
  refine ⟨?_, (hb.alloc hb.size _).grown hgrow (by have := hb.size; simp; omega) (fun k hk => (hown.lt k hk).1)⟩
  have e : [Value.int .u8 (m : Int)] = cs [UInt8.ofNat m] := by
    rw [cs_one (by omega) (by omega)]
    simp
  rw [e, ← cs_append, ← vb_small hm, hacc] at hown'
  have hl : acc.length + 1 = (vb n).length := by rw [← hacc, vb_small hm]; simp
  rw [hl] at hown'
  exact hown'

end Go.Proofs.YtbifkpkhpaellaaGreatDoor

namespace Go.Proofs.YtbifkpkhpaellaaGreatDoor
open Go.RowKit

/-- hidden from the walk -/
theorem hid {p : Prop} (h : p) : Hid p := h
theorem below_more {w w' : World} (h : Below w.heap.size w w') (o : Obj) : Below w.heap.size w (w'.alloc o) := h.alloc h.size o
theorem below_via {w w1 w2 : World} (h : Below w.heap.size w w1) (h2 : Below w1.heap.size w1 w2) : Below w.heap.size w w2 := h.trans (h2.mono h.size)

/-- block g holds just these cells, of elements of type t -/
def BlockIs (w : World) (g : Nat) (t : TypeId) (cs : List Value) : Prop := w.heap[g]? = some (.cells cs.toArray t (0, 0))

theorem BlockIs.lt {w : World} {g : Nat} {t : TypeId} {cs : List Value} (h : BlockIs w g t cs) : g < w.heap.size := by
  rcases Nat.lt_or_ge g w.heap.size with q | q
  · exact q
  · rw [BlockIs, Array.getElem?_eq_none q] at h; cases h
theorem BlockIs.cell {w : World} {g : Nat} {t : TypeId} {cs : List Value} (h : BlockIs w g t cs) {j : Nat} {v : Value} (hj : cs[j]? = some v) : w.cell? ⟨g, j, none⟩ = some v := by
  unfold BlockIs at h
  simp [World.cell?, h, hj]
theorem BlockIs.thaw {w : World} {g : Nat} {t : TypeId} {cs : List Value} (h : BlockIs w g t cs) (j : Nat) : w.frozen? ⟨g, j, none⟩ = false := by
  unfold BlockIs at h
  simp [World.frozen?, h]
theorem BlockIs.set {w : World} {g : Nat} {t : TypeId} {cs : List Value} (h : BlockIs w g t cs) (j : Nat) (v : Value) : BlockIs (w.setCell ⟨g, j, none⟩ v) g t (cs.set j v) := by
  unfold BlockIs at h ⊢
  simp only [World.setCell]
  rw [Array.getElem?_modify, if_pos rfl, h]
  simp [Array.setIfInBounds]
  exact fun hj => (List.set_eq_of_length_le hj).symm
theorem BlockIs.far {w : World} {g : Nat} {t : TypeId} {cs : List Value} (h : BlockIs w g t cs) {b j : Nat} (hb : b ≠ g) (v : Value) : BlockIs (w.setCell ⟨b, j, none⟩ v) g t cs := by
  unfold BlockIs at h ⊢
  simp only [World.setCell]
  rw [Array.getElem?_modify, if_neg hb]
  exact h
theorem BlockIs.on {w w' : World} {g : Nat} {t : TypeId} {cs : List Value} (h : BlockIs w g t cs) {B : Nat} (hb : Below B w w') (hg : g < B) : BlockIs w' g t cs := by
  unfold BlockIs
  rw [hb.block g hg]
  exact h
theorem BlockIs.made {w' : World} {g base : Nat} {t : TypeId} {n size : Nat} {xs : List Value} (h : w'.ownsRow base t size (.slice (some ⟨g, 0, none⟩) n n) n xs) : BlockIs w' g t xs := by
  obtain ⟨hx, (⟨h1, _⟩ | ⟨g', cap, cur, h1, _, hg, _, _, hs, ht⟩)⟩ := h
  · cases h1
  · cases h1
    unfold BlockIs
    rw [hg]
    have : cur.toList = xs := by rw [← ht, List.take_of_length_le (by simp [hs])]
    rw [← this]

/-- a cell of a row of elements of m cells each -/
theorem row_at {α : Type} (enc : α → List Value) (m : Nat) (hm : ∀ a, (enc a).length = m) (l : List α) (r : List Value) (j c : Nat) (hj : j < l.length) (hc : c < m) : (l.flatMap enc ++ r)[j * m + c]? = (enc l[j])[c]? := by
  induction l generalizing j with
  | nil => simp at hj
  | cons a l ih =>
    cases j with
    | zero =>
      simp only [List.flatMap_cons, Nat.zero_mul, Nat.zero_add, List.getElem_cons_zero, List.append_assoc]
      rw [List.getElem?_append_left (by rw [hm]; exact hc)]
    | succ j =>
      simp only [List.flatMap_cons, List.getElem_cons_succ, List.append_assoc]
      rw [List.getElem?_append_right (by rw [hm, Nat.succ_mul]; omega), hm, show (j + 1) * m + c - m = j * m + c by rw [Nat.succ_mul]; omega]
      exact ih j (by simpa using hj)
theorem row_length {α : Type} (enc : α → List Value) (m : Nat) (hm : ∀ a, (enc a).length = m) (l : List α) : (l.flatMap enc).length = l.length * m := by
  induction l with
  | nil => simp
  | cons a l ih => simp only [List.flatMap_cons, List.length_append, hm, ih, List.length_cons, Nat.succ_mul]; omega
/-- three cells of a list, written -/
theorem set_three (p : List Value) (a b c x y z : Value) (r : List Value) : (((p ++ x :: y :: z :: r).set p.length a).set (p.length + 1) b).set (p.length + 2) c = p ++ a :: b :: c :: r := by
  rw [List.set_append_right _ _ (Nat.le_refl _), List.set_append_right _ _ (by omega), List.set_append_right _ _ (by omega)]
  simp
end Go.Proofs.YtbifkpkhpaellaaGreatDoor

namespace Go.Proofs.YtbifkpkhpaellaaGreatDoor
open Go.RowKit

/-- a file as data -/
structure FileD where
  name : ByteArray
  text : ByteArray
  kept : Int

def FileD.value (f : FileD) : Value := .agg #[.string f.name, .string f.text, .int .i64 f.kept]

/-- the cells of files -/
def fileEnc (f : FileD) : List Value := [.string f.name, .string f.text, .int .i64 f.kept]
def fileCells (l : List FileD) : List Value := l.flatMap fileEnc
theorem fileCells_length (l : List FileD) : (fileCells l).length = l.length * 3 := row_length fileEnc 3 (fun _ => rfl) l
theorem fileCells_take (l : List FileD) (k : Nat) (h : k < l.length) : fileCells (l.take (k + 1)) = fileCells (l.take k) ++ fileEnc l[k] := by
  rw [List.take_succ_eq_append_getElem h, fileCells, fileCells, List.flatMap_append]
  simp
/-- how many letters and files -/
def fileBulk : List FileD → Int
  | [] => 0
  | f :: l => f.name.size + f.text.size + fileBulk l
theorem fileBulk_nonneg (l : List FileD) : 0 ≤ fileBulk l := by
  induction l with
  | nil => exact Int.le_refl 0
  | cons f l ih => simp only [fileBulk]; omega
theorem fileBulk_take (l : List FileD) (k : Nat) (h : k < l.length) : fileBulk (l.take (k + 1)) = fileBulk (l.take k) + l[k].name.size + l[k].text.size := by
  induction l generalizing k with
  | nil => simp at h
  | cons f l ih =>
    cases k with
    | zero => simp [fileBulk]
    | succ k =>
      have := ih k (by simpa using h)
      simp only [List.take_succ_cons, fileBulk, List.getElem_cons_succ] at this ⊢
      omega

theorem fileBulk_le (l : List FileD) (k : Nat) : fileBulk (l.take k) ≤ fileBulk l := by
  induction l generalizing k with
  | nil => simp [fileBulk]
  | cons f l ih =>
    cases k with
    | zero => have := fileBulk_nonneg (f :: l); simpa [fileBulk] using this
    | succ k => have := ih k; simp only [List.take_succ_cons, fileBulk]; omega

theorem file_le_bulk {l : List FileD} {f : FileD} (h : f ∈ l) : (f.name.size : Int) + f.text.size ≤ fileBulk l := by
  induction l with
  | nil => cases h
  | cons g l ih =>
    simp only [fileBulk]
    have := fileBulk_nonneg l
    rcases List.mem_cons.1 h with e | e
    · subst e; omega
    · have := ih e; omega
theorem filesSmall {l : List FileD} (h : 0 ≤ (1048576 : Int) - l.length - fileBulk l) : l.length ≤ 1048576 ∧ ∀ f ∈ l, f.name.size ≤ 1048576 ∧ f.text.size ≤ 1048576 := by
  have := fileBulk_nonneg l
  exact ⟨by omega, fun f hf => by have := file_le_bulk hf; omega⟩

/-- files lie at an address, one behind the other -/
def FilesAt (w : World) (ao : Option Addr) (l : List FileD) : Prop :=
  l ≠ [] → ∃ b off, ao = some ⟨b, off, none⟩ ∧ ∀ j (hj : j < l.length), w.cell? ⟨b, off + j * 3, none⟩ = some (.string l[j].name) ∧ w.cell? ⟨b, off + j * 3 + 1, none⟩ = some (.string l[j].text) ∧ w.cell? ⟨b, off + j * 3 + 2, none⟩ = some (.int .i64 l[j].kept)
theorem filesAt_of {w : World} {g : Nat} {t : TypeId} {l : List FileD} {r : List Value} (h : BlockIs w g t (fileCells l ++ r)) : FilesAt w (some ⟨g, 0, none⟩) l := by
  intro _
  refine ⟨g, 0, rfl, fun j hj => ?_⟩
  rw [Nat.zero_add]
  exact ⟨h.cell (row_at fileEnc 3 (fun _ => rfl) l r j 0 hj (by omega)), h.cell (row_at fileEnc 3 (fun _ => rfl) l r j 1 hj (by omega)), h.cell (row_at fileEnc 3 (fun _ => rfl) l r j 2 hj (by omega))⟩
/-- texts that fit -/
def FilesFit (l : List FileD) : Prop := ∀ j (hj : j < l.length), l[j].name.size ≤ 9223372036854775807 ∧ l[j].text.size ≤ 9223372036854775807
theorem FilesAt.on {w w' : World} {ao : Option Addr} {l : List FileD} (h : FilesAt w ao l) (hb : Below w.heap.size w w') : FilesAt w' ao l := by
  intro h0
  obtain ⟨b, off, e1, e2⟩ := h h0
  refine ⟨b, off, e1, fun j hj => ?_⟩
  obtain ⟨x, y, z⟩ := e2 j hj
  exact ⟨(hb.cell (p := ⟨b, off + j * 3, none⟩) (World.block_lt_of_cell? w _ x)).trans x, (hb.cell (p := ⟨b, off + j * 3 + 1, none⟩) (World.block_lt_of_cell? w _ y)).trans y, (hb.cell (p := ⟨b, off + j * 3 + 2, none⟩) (World.block_lt_of_cell? w _ z)).trans z⟩
end Go.Proofs.YtbifkpkhpaellaaGreatDoor

namespace Go.Proofs.YtbifkpkhpaellaaGreatDoor
open Go.RowKit

theorem grown_of_below {w w' : World} (h : Below w.heap.size w w') (row : Option Nat) : w.grownBy w' row := ⟨h.os, h.tape, h.output, h.size, fun k hk _ => h.block k hk⟩

theorem add_at (g j : Nat) : (⟨g, 0, none⟩ : Addr).add j = ⟨g, j, none⟩ := by
  simp only [Addr.add]
  split
  · simp_all
  · simp

/-- where an owned row lies -/
theorem row_lie {w : World} {base : Nat} {e : TypeId} {v : Value} {n : Nat} {xs : List Value} (h : w.ownsRow base e 1 v n xs) :
    xs.length = n ∧ ∃ ao cap, v = .slice ao n cap ∧ (0 < n → ∃ g, ao = some ⟨g, 0, none⟩ ∧ base ≤ g ∧ g < w.heap.size ∧ n ≤ cap ∧ v.ownBlock = some g ∧ (∀ (j : Nat) u, xs[j]? = some u → w.cell? ⟨g, j, none⟩ = some u) ∧ ∀ j, w.frozen? ⟨g, j, none⟩ = false) := by
  have h' := h
  obtain ⟨h1, h2⟩ := h
  refine ⟨by omega, ?_⟩
  rcases h2 with ⟨hv, hn⟩ | ⟨g, cap, cur, hv, hgb, hh, hle, hmx, hsz, hx⟩
  · exact ⟨none, 0, by rw [hv, hn], fun h0 => by omega⟩
  · refine ⟨_, cap, hv, fun _ => ⟨g, rfl, hgb, (h'.lt g (by rw [hv]; rfl)).2, hle, by rw [hv]; rfl, fun j u hu => ?_, fun j => ?_⟩⟩
    · have := h'.cells (g := g) (by rw [hv]; rfl) j _ hu
      rw [add_at] at this
      exact this
    · simp [World.frozen?, hh]

/-- an owned row, one of its cells written -/
theorem ownsRow_set {w : World} {base : Nat} {e : TypeId} {v : Value} {n : Nat} {xs : List Value} (h : w.ownsRow base e 1 v n xs) {g : Nat} (hg : v.ownBlock = some g) (k : Nat) (u : Value) :
    (w.setCell ⟨g, k, none⟩ u).ownsRow base e 1 v n (xs.set k u) := by
  obtain ⟨h1, h2⟩ := h
  rcases h2 with ⟨hv, hn⟩ | ⟨g', cap, cur, hv, hgb, hh, hle, hmx, hsz, hx⟩
  · rw [hv] at hg; cases hg
  · rw [hv] at hg
    simp only [Value.ownBlock, Option.some.injEq] at hg
    subst hg
    refine ⟨by simpa using h1, Or.inr ⟨g', cap, cur.setIfInBounds k u, hv, hgb, ?_, hle, hmx, by simpa using hsz, ?_⟩⟩
    · simp only [World.setCell]
      rw [Array.getElem?_modify, if_pos rfl, hh]
      rfl
    · rw [Array.toList_setIfInBounds, ← hx, List.take_set]

/-- a place of an owned row may be written -/
theorem at_row {w : World} {base : Nat} {e : TypeId} {g n c : Nat} {xs : List Value} (h : w.ownsRow base e 1 (.slice (some ⟨g, 0, none⟩) n c) n xs) (k : Nat) (hk : k < n) : ∃ u, w.cell? ⟨g, k, none⟩ = some u ∧ w.frozen? ⟨g, k, none⟩ = false := by
  obtain ⟨hl, ao, cap, hv, hf⟩ := row_lie h
  obtain ⟨g', e1, _, _, _, _, hc, hz⟩ := hf (by omega)
  simp only [Value.slice.injEq] at hv
  obtain ⟨rfl, _, _⟩ := hv
  simp only [Option.some.injEq, Addr.mk.injEq, and_true] at e1
  subst e1
  have hk' : k < xs.length := by omega
  exact ⟨xs[k], hc k _ (List.getElem?_eq_getElem hk'), hz k⟩

theorem grownBy_set (w : World) (g k : Nat) (u : Value) : w.grownBy (w.setCell ⟨g, k, none⟩ u) (some g) :=
  ⟨rfl, rfl, rfl, by simp [World.setCell], fun j _ hj => Below.heap_setCell _ _ _ _ (fun e => hj (by simp [e]))⟩

/-- the one cell of a new block -/
theorem one_new (w : World) (x : Value) (t : TypeId) : ∀ (j : Nat) u, [x][j]? = some u → (w.alloc (.cells #[x] t)).cell? ((⟨w.heap.size, 0, none⟩ : Addr).add j) = some u := by
  intro j u hj
  match j, hj with
  | 0, hj => simp at hj; subst hj; simp [Addr.add]

/-- texts as the cells of a row -/
def st (l : List ByteArray) : List Value := l.map Value.string
theorem st_append (l r : List ByteArray) : st (l ++ r) = st l ++ st r := by simp [st]
theorem st_length (l : List ByteArray) : (st l).length = l.length := by simp [st]
theorem st_at (l : List ByteArray) (k : Nat) (h : k < l.length) : (st l)[k]? = some (.string l[k]) := by simp [st, h]
end Go.Proofs.YtbifkpkhpaellaaGreatDoor

namespace Go.Proofs.YtbifkpkhpaellaaGreatDoor
open Go.RowKit

/-- the figure of x, as a byte -/
def fig (x : Int) : Int := if x < 10 then 48 + x else 87 + x

theorem fig_bd {x : Int} (h0 : 0 ≤ x) (h1 : x ≤ 15) : 48 ≤ fig x ∧ fig x ≤ 102 := by unfold fig; split <;> omega

def hexOf : List UInt8 → List UInt8
  | [] => []
  | b :: r => UInt8.ofNat (fig (b.toNat / 16)).toNat :: UInt8.ofNat (fig (b.toNat % 16)).toNat :: hexOf r

theorem hexOf_append (l r : List UInt8) : hexOf (l ++ r) = hexOf l ++ hexOf r := by
  induction l with
  | nil => rfl
  | cons b l ih => simp [hexOf, ih]

theorem hexOf_length (l : List UInt8) : (hexOf l).length = 2 * l.length := by
  induction l with
  | nil => rfl
  | cons b l ih => simp [hexOf, ih]; omega

theorem take_snoc (s : ByteArray) (k : Nat) (h : k < s.size) : s.data.toList.take (k + 1) = s.data.toList.take k ++ [s[k]] := by
  rw [List.take_succ_eq_append_getElem (by simpa using h)]; rfl

theorem take_len (s : ByteArray) (k : Nat) (h : k ≤ s.size) : (s.data.toList.take k).length = k := by
  have : s.data.toList.length = s.size := by simp
  rw [List.length_take]; omega

theorem two_cs (b : UInt8) : [Value.int .u8 (fig ((b.toNat : Int) / 16)), .int .u8 (fig ((b.toNat : Int) % 16))] = cs (hexOf [b]) := by
  have hb := b.toNat_lt
  have h1 := fig_bd (x := (b.toNat : Int) / 16) (by omega) (by omega)
  have h2 := fig_bd (x := (b.toNat : Int) % 16) (by omega) (by omega)
  simp only [hexOf, cs, List.map_cons, List.map_nil, UInt8.toNat_ofNat', List.cons.injEq, and_true, Value.int.injEq, true_and]
  omega

theorem hex_step {s : ByteArray} {k : Nat} {w wr w1 : World} {v : Value} {g cap : Nat} {B : Obj} (hk : k < s.size) (hown : wr.ownsRow w.heap.size 5 1 v (2 * k) (cs (hexOf (s.data.toList.take k))))
    (hown' : w1.ownsRow w.heap.size 5 1 (.slice (some ⟨g, 0, none⟩) (2 * k + 2) cap) (2 * k + 2) (cs (hexOf (s.data.toList.take k)) ++ [.int .u8 (fig ((s[k].toNat : Int) / 16)), .int .u8 (fig ((s[k].toNat : Int) % 16))]))
    (hgrow : (wr.alloc B).drew.grownBy w1 v.ownBlock) (hb : Below w.heap.size w wr) :
    w1.ownsRow w.heap.size 5 1 (.slice (some ⟨g, 0, none⟩) (2 * k + 2) cap) (2 * (k + 1)) (cs (hexOf (s.data.toList.take (k + 1)))) ∧ Below w.heap.size w w1 := by
  refine ⟨?_, ((hb.alloc hb.size _).drew).grown hgrow (by have := hb.size; simp; omega) (fun j hj => (hown.lt j hj).1)⟩
  rw [two_cs, ← cs_append, ← hexOf_append, ← take_snoc s k hk] at hown'
  exact hown'

theorem i64_id {x : Int} (h0 : -9223372036854775808 ≤ x) (h1 : x ≤ 9223372036854775807) : IntKind.i64.wrap x = x := by
  simp [IntKind.wrap, IntKind.signed, IntKind.bits]; omega
theorem u8_id {x : Int} (h0 : 0 ≤ x) (h1 : x ≤ 255) : IntKind.u8.wrap x = x := by
  simp [IntKind.wrap, IntKind.signed, IntKind.bits]; omega

theorem wrap_quo (b : UInt8) : IntKind.i64.wrap ((IntKind.i64.wrap (b.toNat : Int)).tdiv 16) = (b.toNat : Int) / 16 := by
  have hb := b.toNat_lt
  have e : IntKind.i64.wrap (b.toNat : Int) = (b.toNat : Int) := by simp [IntKind.wrap, IntKind.signed, IntKind.bits]; omega
  rw [e, Int.tdiv_eq_ediv_of_nonneg (by omega)]
  simp [IntKind.wrap, IntKind.signed, IntKind.bits]; omega
theorem wrap_rem (b : UInt8) : (IntKind.i64.wrap (b.toNat : Int)).tmod 16 = (b.toNat : Int) % 16 := by
  have hb := b.toNat_lt
  have e : IntKind.i64.wrap (b.toNat : Int) = (b.toNat : Int) := by simp [IntKind.wrap, IntKind.signed, IntKind.bits]; omega
  rw [e, Int.tmod_eq_emod_of_nonneg (by omega)]
end Go.Proofs.YtbifkpkhpaellaaGreatDoor

namespace Go.Proofs.YtbifkpkhpaellaaGreatDoor
open Go.RowKit

/-- what the byte c counts as a figure; -1 where it is none -/
def lv (c : Int) : Int := if 48 ≤ c ∧ c ≤ 57 then c - 48 else if 97 ≤ c ∧ c ≤ 102 then c - 87 else -1

theorem lv_bd (c : Int) : -1 ≤ lv c ∧ lv c ≤ 15 := by unfold lv; split <;> (try split) <;> omega

theorem fig_lv {c j : Int} (h0 : 0 ≤ j) (h1 : j ≤ 15) : c = fig j ↔ lv c = j := by
  unfold lv fig
  split <;> split <;> (try split) <;> omega

/-- the values of a text's figures -/
def lvs (l : List UInt8) : List Int := l.map fun c => lv (c.toNat : Int)

def Figs (b : Nat) (l : List UInt8) : Prop := ∀ c ∈ l, 0 ≤ lv (c.toNat : Int) ∧ lv (c.toNat : Int) < b

theorem Figs.snoc {b : Nat} {l : List UInt8} {c : UInt8} (h : Figs b l) (hc : 0 ≤ lv (c.toNat : Int) ∧ lv (c.toNat : Int) < b) : Figs b (l ++ [c]) := by
  intro x hx
  rcases List.mem_append.1 hx with hx | hx
  · exact h x hx
  · simp at hx; subst hx; exact hc

/-- ints as the cells of a row -/
def ns (l : List Int) : List Value := l.map (Value.int .i64)

theorem mem_at (s : ByteArray) (k : Nat) (h : k < s.size) : s[k] ∈ s.data.toList := by
  have h1 : k < s.data.toList.length := by simpa using h
  have h2 := List.getElem_mem h1
  have h3 : s.data.toList[k] = s[k] := by rw [Array.getElem_toList]; rfl
  rw [h3] at h2
  exact h2

theorem lvs_append (l r : List UInt8) : lvs (l ++ r) = lvs l ++ lvs r := by simp [lvs]
theorem lvs_length (l : List UInt8) : (lvs l).length = l.length := by simp [lvs]
theorem ns_append (l r : List Int) : ns (l ++ r) = ns l ++ ns r := by simp [ns]

theorem fv_step {s : ByteArray} {k : Nat} {w wr w1 : World} {v v' : Value} {B : Obj} {j : Int} (hk : k < s.size) (hj : lv (s[k].toNat : Int) = j) (hown : wr.ownsRow w.heap.size 3 1 v k (ns (lvs (s.data.toList.take k))))
    (hown' : w1.ownsRow w.heap.size 3 1 v' (k + 1) (ns (lvs (s.data.toList.take k)) ++ [.int .i64 j])) (hgrow : (wr.alloc B).grownBy w1 v.ownBlock) (hb : Below w.heap.size w wr) :
    w1.ownsRow w.heap.size 3 1 v' (k + 1) (ns (lvs (s.data.toList.take (k + 1)))) ∧ Below w.heap.size w w1 := by
  refine ⟨?_, (hb.alloc hb.size _).grown hgrow (by have := hb.size; simp; omega) (fun j hj => (hown.lt j hj).1)⟩
  have e : [Value.int .i64 j] = ns (lvs [s[k]]) := by simp [ns, lvs, hj]
  rw [e, ← ns_append, ← lvs_append, ← take_snoc s k hk] at hown'
  exact hown'

/-- where the values lie -/
theorem values_lie {w w1 : World} {s : ByteArray} {v : Value} (h : w1.ownsRow w.heap.size 3 1 v s.size (ns (lvs s.data.toList))) :
    ∃ ao cap, v = .slice ao s.size cap ∧ (0 < s.size → ∃ g, ao = some ⟨g, 0, none⟩ ∧ g < w1.heap.size ∧ s.size ≤ cap ∧ ∀ j (hj : j < s.size), w1.cell? ⟨g, j, none⟩ = some (.int .i64 (lv (s[j].toNat : Int)))) := by
  have h' := h
  obtain ⟨h1, h2⟩ := h
  rcases h2 with ⟨hv, hn⟩ | ⟨g, cap, cur, hv, hgb, hh, hle, hmx, hsz, hx⟩
  · exact ⟨none, 0, by rw [hv, hn], fun h0 => by omega⟩
  · refine ⟨_, cap, hv, fun _ => ⟨g, rfl, (h'.lt g (by rw [hv]; rfl)).2, hle, fun j hj => ?_⟩⟩
    have hu : (ns (lvs s.data.toList))[j]? = some (.int .i64 (lv (s[j].toNat : Int))) := by
      have hj' : j < s.data.toList.length := by simpa using hj
      have e : s.data.toList[j] = s[j] := by rw [Array.getElem_toList]; rfl
      simp only [ns, lvs, List.getElem?_map, List.getElem?_eq_getElem hj', Option.map_some, e]
    have := h'.cells (g := g) (by rw [hv]; rfl) j _ hu
    have ea : (⟨g, 0, none⟩ : Addr).add j = ⟨g, j, none⟩ := by
      simp only [Addr.add]
      split
      · simp_all
      · simp
    rw [ea] at this
    exact this
end Go.Proofs.YtbifkpkhpaellaaGreatDoor

namespace Go.Proofs.YtbifkpkhpaellaaGreatDoor
open Go.RowKit

/-- the decimal figures of n, none for 0 (with so many steps at the most) -/
def ddF : Nat → Nat → List UInt8
  | 0, _ => []
  | f + 1, n => if n = 0 then [] else ddF f (n / 10) ++ [UInt8.ofNat (48 + n % 10)]
/-- the decimal figures of n, none for 0 -/
def dd (n : Nat) : List UInt8 := ddF n n

theorem ddF_eq : ∀ (f g n : Nat), n ≤ f → n ≤ g → ddF f n = ddF g n
  | 0, 0, _, _, _ => rfl
  | 0, g + 1, n, h, _ => by
    obtain rfl : n = 0 := by omega
    rw [ddF, ddF, if_pos rfl]
  | f + 1, 0, n, _, h => by
    obtain rfl : n = 0 := by omega
    rw [ddF, ddF, if_pos rfl]
  | f + 1, g + 1, n, h1, h2 => by
    rw [ddF, ddF]
    by_cases h : n = 0
    · rw [if_pos h, if_pos h]
    · rw [if_neg h, if_neg h, ddF_eq f g (n / 10) (by omega) (by omega)]
theorem dd_zero : dd 0 = [] := rfl
theorem dd_pos {n : Nat} (h : 0 < n) : dd n = dd (n / 10) ++ [UInt8.ofNat (48 + n % 10)] := by
  rw [dd, ddF_eq n (n + 1) n (Nat.le_refl _) (by omega), ddF, if_neg (by omega), dd, ddF_eq n (n / 10) (n / 10) (by omega) (Nat.le_refl _)]

theorem dd_len (k : Nat) : ∀ n, n < 10 ^ k → (dd n).length ≤ k := by
  induction k with
  | zero => intro n h; have : n = 0 := by simp at h; omega
            subst this; rw [dd_zero]; simp
  | succ k ih =>
    intro n h
    by_cases h0 : n = 0
    · subst h0; rw [dd_zero]; simp
    · rw [dd_pos (by omega), List.length_append]
      have := ih (n / 10) (by rw [Nat.pow_succ] at h; omega)
      simp only [List.length_cons, List.length_nil]
      omega

/-- n in decimal -/
def dec (n : Int) : List UInt8 := if n = 0 then [48] else if n < 0 then 45 :: dd n.natAbs else dd n.natAbs

/-- what figures make -/
def num (l : List UInt8) : Nat := l.foldl (fun n c => 10 * n + (c.toNat - 48)) 0

theorem num_nil : num [] = 0 := rfl
theorem num_snoc (l : List UInt8) (c : UInt8) : num (l ++ [c]) = 10 * num l + (c.toNat - 48) := by simp [num, List.foldl_append]

def Digits (l : List UInt8) : Prop := ∀ c ∈ l, 48 ≤ c.toNat ∧ c.toNat ≤ 57

theorem Digits.init {l : List UInt8} {c : UInt8} (h : Digits (l ++ [c])) : Digits l ∧ 48 ≤ c.toNat ∧ c.toNat ≤ 57 :=
  ⟨fun x hx => h x (List.mem_append.2 (Or.inl hx)), h c (by simp)⟩
theorem Digits.snoc {l : List UInt8} {c : UInt8} (h : Digits l) (hc : 48 ≤ c.toNat ∧ c.toNat ≤ 57) : Digits (l ++ [c]) := by
  intro x hx
  rcases List.mem_append.1 hx with hx | hx
  · exact h x hx
  · simp at hx; subst hx; exact hc

theorem snoc_cases (l : List UInt8) : l = [] ∨ ∃ r c, l = r ++ [c] := by
  rcases h : l.reverse with _ | ⟨c, r⟩
  · exact Or.inl (by simpa using h)
  · exact Or.inr ⟨r.reverse, c, by have := congrArg List.reverse h; simpa using this⟩

theorem num_lt : ∀ (k : Nat) (l : List UInt8), l.length = k → Digits l → num l < 10 ^ k
  | 0, l, h, _ => by
    have : l = [] := List.eq_nil_of_length_eq_zero h
    subst this; simp [num]
  | k + 1, l, h, hd => by
    rcases snoc_cases l with rfl | ⟨r, c, rfl⟩
    · simp at h
    · have h1 := hd.init
      have := num_lt k r (by simpa using h) h1.1
      rw [num_snoc, Nat.pow_succ]
      omega

theorem num_lead (c : UInt8) (hc : c ≠ 48) (hc1 : 48 ≤ c.toNat ∧ c.toNat ≤ 57) : ∀ (k : Nat) (r : List UInt8), r.length = k → Digits r → 0 < num (c :: r) ∧ dd (num (c :: r)) = c :: r
  | 0, r, h, _ => by
    have : r = [] := List.eq_nil_of_length_eq_zero h
    subst this
    have h48 : c.toNat ≠ 48 := fun e => hc (UInt8.toNat_inj.1 (by simpa using e))
    have e : num [c] = c.toNat - 48 := by simp [num]
    rw [e]
    refine ⟨by omega, ?_⟩
    rw [dd_pos (by omega), show (c.toNat - 48) / 10 = 0 by omega, dd_zero, show 48 + (c.toNat - 48) % 10 = c.toNat by omega]
    simp
  | k + 1, r, h, hd => by
    rcases snoc_cases r with rfl | ⟨r', x, rfl⟩
    · simp at h
    · have h1 := hd.init
      obtain ⟨i1, i2⟩ := num_lead c hc hc1 k r' (by simpa using h) h1.1
      have e : num (c :: (r' ++ [x])) = 10 * num (c :: r') + (x.toNat - 48) := num_snoc (c :: r') x
      rw [e]
      refine ⟨by omega, ?_⟩
      rw [dd_pos (by omega), show (10 * num (c :: r') + (x.toNat - 48)) / 10 = num (c :: r') by omega, show 48 + (10 * num (c :: r') + (x.toNat - 48)) % 10 = x.toNat by omega, i2]
      simp

/-- figures of a number do not begin with a nought -/
theorem dd_head : ∀ (n : Nat), 0 < n → ∃ c r, dd n = c :: r ∧ c ≠ 48 := by
  intro n
  induction n using Nat.strongRecOn with
  | _ n ih =>
    intro h
    rw [dd_pos h]
    by_cases h1 : n / 10 = 0
    · rw [h1, dd_zero]
      refine ⟨_, [], rfl, ?_⟩
      intro e
      have := congrArg UInt8.toNat e
      simp only [UInt8.toNat_ofNat', UInt8.toNat_ofNat] at this
      omega
    · obtain ⟨c, r, e, hc⟩ := ih (n / 10) (by omega) (by omega)
      exact ⟨c, r ++ [UInt8.ofNat (48 + n % 10)], by rw [e]; rfl, hc⟩

/-- a text of figures is how its number is written, just when it has some and no needless nought ahead -/
theorem dec_num (l : List UInt8) (hd : Digits l) : dec (num l : Int) = l ↔ l ≠ [] ∧ ¬ (l.head? = some 48 ∧ 1 < l.length) := by
  match l, hd with
  | [], _ => simp [num, dec]
  | c :: r, hd =>
    have hc := hd c (by simp)
    have hr : Digits r := fun x hx => hd x (by simp [hx])
    by_cases h48 : c = 48
    · subst h48
      match r, hr with
      | [], _ => simp [num, dec]
      | x :: r', hr =>
        simp only [List.head?_cons, List.length_cons, ne_eq, reduceCtorEq, not_false_eq_true, true_and]
        constructor
        · intro e
          unfold dec at e
          split at e
          · simp at e
          · rename_i hz
            rw [if_neg (by omega), Int.natAbs_natCast] at e
            obtain ⟨y, q, e1, e2⟩ := dd_head (num (48 :: x :: r')) (by omega)
            rw [e1] at e
            simp only [List.cons.injEq] at e
            exact absurd e.1 e2
        · intro h
          exact absurd (by omega) h
    · obtain ⟨i1, i2⟩ := num_lead c h48 hc r.length r rfl hr
      unfold dec
      rw [if_neg (by omega), if_neg (by omega), Int.natAbs_natCast, i2]
      simp [h48]

theorem digits_figs (l : List UInt8) : Digits l ↔ Figs 10 l := by
  constructor
  · intro h c hc
    have := h c hc
    unfold lv
    rw [if_pos (by omega)]
    omega
  · intro h c hc
    have := h c hc
    unfold lv at this
    split at this
    · omega
    · split at this <;> omega
theorem lv_digit {c : UInt8} (h : 48 ≤ c.toNat ∧ c.toNat ≤ 57) : lv (c.toNat : Int) = ((c.toNat - 48 : Nat) : Int) := by
  unfold lv; rw [if_pos (by omega)]; omega

/-- a text that ReadDecimal takes -/
def DecOk (l : List UInt8) : Prop := Digits l ∧ num l ≤ 1000000000 ∧ l ≠ [] ∧ ¬ (l.head? = some 48 ∧ 1 < l.length)

theorem digits_at {s : ByteArray} {k : Nat} (hk : k < s.size) (h : ¬ (48 ≤ s[k].toNat ∧ s[k].toNat ≤ 57)) : ¬ DecOk s.data.toList := fun hd => h (hd.1 s[k] (mem_at s k hk))

theorem num_step {s : ByteArray} {k : Nat} (hk : k < s.size) (h : 48 ≤ (s[k].toNat : Int)) : ((num (s.data.toList.take (k + 1)) : Nat) : Int) = 10 * (num (s.data.toList.take k) : Int) + (s[k].toNat : Int) - 48 := by
  rw [take_snoc s k hk, num_snoc]
  omega

theorem ret_num {a b : Nat} (h : a = b) : Ending.returned (.tuple #[.int .i64 a, .bool true]) = .returned (.tuple #[.int .i64 b, .bool true]) := by rw [h]

theorem same_dec {s : ByteArray} {l : List UInt8} : (!l == s.toList) = false ↔ l = s.data.toList := by
  rw [ByteArray.toList_eq]; simp
end Go.Proofs.YtbifkpkhpaellaaGreatDoor

namespace Go.Proofs.YtbifkpkhpaellaaGreatDoor
open Go.RowKit

theorem row_shape {w : World} {base size n : Nat} {t : TypeId} {v : Value} {xs : List Value} (h : w.ownsRow base t size v n xs) : ∃ a c, v = .slice a n c := by
  obtain ⟨_, (⟨rfl, rfl⟩ | ⟨g, cap, _, rfl, _⟩)⟩ := h
  · exact ⟨_, _, rfl⟩
  · exact ⟨_, _, rfl⟩
theorem row_down {w : World} {base base' size n : Nat} {t : TypeId} {v : Value} {xs : List Value} (h : w.ownsRow base t size v n xs) (hb : base' ≤ base) : w.ownsRow base' t size v n xs :=
  ⟨h.1, h.2.imp id fun ⟨g, cap, cur, a, b, r⟩ => ⟨g, cap, cur, a, Nat.le_trans hb b, r⟩⟩
/-- behind an append to a row of the call's own: all that was there ahead of the row stands -/
theorem behind_append {w wr w1 : World} {v : Value} {base n : Nat} {t : TypeId} {size : Nat} {xs : List Value} {o : Obj} (hB : w.heap.size ≤ base) (BR : Below w.heap.size w wr) (OR : wr.ownsRow base t size v n xs) (hz : base ≤ wr.heap.size) (hg : (wr.alloc o).drew.grownBy w1 v.ownBlock) :
    Below w.heap.size w w1 ∧ base ≤ w1.heap.size ∧ ∀ j tj cs, j < base → BlockIs wr j tj cs → BlockIs w1 j tj cs := by
  have hown : ∀ j, v.ownBlock = some j → base ≤ j := fun j hj => (OR.lt j hj).1
  have hd : Below wr.heap.size wr (wr.alloc o).drew := below_drewN (below_more (Below.refl _ wr) o) 1
  have h1 : Below base wr w1 := ((hd.mono hz).grown hg (Nat.le_trans hz hd.size) hown)
  refine ⟨BR.trans (h1.mono hB), Nat.le_trans hz h1.size, fun j tj cs hj hb => hb.on h1 hj⟩
end Go.Proofs.YtbifkpkhpaellaaGreatDoor

namespace Go.Proofs.YtbifkpkhpaellaaGreatDoor
open Go.RowKit

/-- four blocks laid one behind the other -/
theorem four_log (w : World) (o p q : Obj) : Below w.heap.size w (((w.alloc o).alloc p).alloc q) ∧ (((w.alloc o).alloc p).alloc q).heap[w.heap.size]? = some o ∧ (((w.alloc o).alloc p).alloc q).heap[w.heap.size + 1]? = some p ∧ (((w.alloc o).alloc p).alloc q).heap[w.heap.size + 1 + 1]? = some q := by
  refine ⟨below_more (below_more (below_more (Below.refl _ w) _) _) _, ?_, ?_, ?_⟩
  · show (((w.heap.push o).push p).push q)[w.heap.size]? = some o
    rw [Array.getElem?_push, if_neg (by simp; omega), Array.getElem?_push, if_neg (by simp), Array.getElem?_push, if_pos rfl]
  · show (((w.heap.push o).push p).push q)[w.heap.size + 1]? = some p
    rw [Array.getElem?_push, if_neg (by simp), Array.getElem?_push, if_pos (by simp)]
  · show (((w.heap.push o).push p).push q)[w.heap.size + 1 + 1]? = some q
    rw [Array.getElem?_push, if_pos (by simp)]

/-- a row of the call's own, made between two sizes of memory -/
def OwnAt (w : World) (t : TypeId) (cs : List Value) (n : Nat) (va : Option Addr) (lo hi : Nat) : Prop :=
  n = 0 ∨ ∃ g r, va = some ⟨g, 0, none⟩ ∧ lo ≤ g ∧ g < hi ∧ BlockIs w g t (cs ++ r)
theorem OwnAt.on {w w' : World} {t : TypeId} {cs : List Value} {n : Nat} {va : Option Addr} {lo hi : Nat} (h : OwnAt w t cs n va lo hi) (hb : Below w.heap.size w w') : OwnAt w' t cs n va lo hi :=
  h.imp id fun ⟨g, r, a, b, c, d⟩ => ⟨g, r, a, b, c, d.on hb d.lt⟩
theorem OwnAt.down {w : World} {t : TypeId} {cs : List Value} {n : Nat} {va : Option Addr} {lo hi lo' hi' : Nat} (h : OwnAt w t cs n va lo hi) (h1 : lo' ≤ lo) (h2 : hi ≤ hi') : OwnAt w t cs n va lo' hi' :=
  h.imp id fun ⟨g, r, a, b, c, d⟩ => ⟨g, r, a, Nat.le_trans h1 b, Nat.lt_of_lt_of_le c h2, d⟩
/-- a cell below is written -/
theorem OwnAt.far {w : World} {t : TypeId} {cs : List Value} {n : Nat} {va : Option Addr} {lo b j : Nat} (h : OwnAt w t cs n va lo w.heap.size) (hb : b < lo) (v : Value) : OwnAt (w.setCell ⟨b, j, none⟩ v) t cs n va lo (w.setCell ⟨b, j, none⟩ v).heap.size := by
  rw [World.size_setCell]
  exact h.imp id fun ⟨g, r, a, c, d, e⟩ => ⟨g, r, a, c, d, e.far (by omega) v⟩
/-- nothing but blocks between two sizes has turned -/
def KeptBut (lo hi : Nat) (w w' : World) : Prop := ∀ j t cs, ¬ (lo ≤ j ∧ j < hi) → BlockIs w j t cs → BlockIs w' j t cs
theorem OwnAt.kept {w w' : World} {t : TypeId} {cs : List Value} {n : Nat} {va : Option Addr} {lo hi lo2 hi2 : Nat} (h : OwnAt w t cs n va lo hi) (hk : KeptBut lo2 hi2 w w') (ho : hi ≤ lo2 ∨ hi2 ≤ lo) : OwnAt w' t cs n va lo hi :=
  h.imp id fun ⟨g, r, a, b, c, d⟩ => ⟨g, r, a, b, c, hk _ _ _ (by omega) d⟩
theorem BlockIs.kept {w w' : World} {g lo hi : Nat} {t : TypeId} {cs : List Value} (h : BlockIs w g t cs) (hk : KeptBut lo hi w w') (ho : g < lo ∨ hi ≤ g) : BlockIs w' g t cs := hk _ _ _ (by omega) h
theorem row_ext {x y : World} {base size n : Nat} {t : TypeId} {v : Value} {xs : List Value} (h : x.ownsRow base t size v n xs) (hb : ∀ g cs, BlockIs x g t cs → BlockIs y g t cs) : y.ownsRow base t size v n xs := by
  refine ⟨h.1, h.2.imp id ?_⟩
  rintro ⟨g, cap, cur, a, b, c, r⟩
  have := hb g cur.toList (by unfold BlockIs; rw [c])
  unfold BlockIs at this
  exact ⟨g, cap, cur, a, b, by rw [this], r⟩
theorem OwnAt.ext {x y : World} {t : TypeId} {cs : List Value} {n : Nat} {va : Option Addr} {lo : Nat} (h : OwnAt x t cs n va lo x.heap.size) (hs : x.heap.size ≤ y.heap.size) (hb : ∀ g r, BlockIs x g t (cs ++ r) → BlockIs y g t (cs ++ r)) : OwnAt y t cs n va lo y.heap.size :=
  h.imp id fun ⟨g, r, a, b, c, d⟩ => ⟨g, r, a, b, Nat.lt_of_lt_of_le c hs, hb g r d⟩
theorem row_block {w : World} {base size n : Nat} {t : TypeId} {v : Value} {xs : List Value} (h : w.ownsRow base t size v n xs) {g : Nat} (hg : v.ownBlock = some g) : ∃ cs, BlockIs w g t cs ∧ base ≤ g := by
  obtain ⟨_, (⟨rfl, _⟩ | ⟨g', cap, cur, rfl, hb, hc, _⟩)⟩ := h
  · cases hg
  · cases hg
    exact ⟨cur.toList, by unfold BlockIs; rw [hc], hb⟩
theorem block_one {w : World} {g : Nat} {t t' : TypeId} {cs cs' : List Value} (h : BlockIs w g t cs) (h' : BlockIs w g t' cs') : t = t' ∧ cs = cs' := by
  unfold BlockIs at h h'
  rw [h] at h'
  simp only [Option.some.injEq, Obj.cells.injEq] at h'
  exact ⟨h'.2.1, by simpa using h'.1⟩
end Go.Proofs.YtbifkpkhpaellaaGreatDoor

namespace Go.Proofs.YtbifkpkhpaellaaGreatDoor
open Go.RowKit

/-- a number within bounds -/
def within (x a b : Int) : Bool := decide (a ≤ x) && decide (x ≤ b)
theorem within_yes {x a b : Int} (h1 : a ≤ x) (h2 : x ≤ b) : within x a b = true := by simp [within, h1, h2]
theorem within_no {x a b : Int} (h : x < a ∨ b < x) : within x a b = false := by
  simp only [within, Bool.and_eq_false_imp, decide_eq_true_eq, decide_eq_false_iff_not]
  omega
theorem within_iff {x a b : Int} : within x a b = true ↔ a ≤ x ∧ x ≤ b := by simp [within]
end Go.Proofs.YtbifkpkhpaellaaGreatDoor

namespace Go.Proofs.YtbifkpkhpaellaaGreatDoor
open Go.RowKit

/-- a number stands behind the one ahead of it -/
def behindI (zs : List Int) (k : Nat) (x : Int) : Bool := match k with
  | 0 => true
  | j + 1 => match zs[j]? with
    | none => true
    | some y => decide (y < x)
/-- the first k numbers are in their bounds, and ascend -/
def riseTo (zs : List Int) : Nat → Bool
  | 0 => true
  | k + 1 => riseTo zs k && match zs[k]? with
    | none => true
    | some x => within x 1 4 && behindI zs k x
def confOk (zs : List Int) : Bool := within zs.length 1 4 && riseTo zs zs.length

theorem riseTo_step {zs : List Int} {k : Nat} (hk : k < zs.length) : riseTo zs (k + 1) = (riseTo zs k && (within zs[k] 1 4 && behindI zs k zs[k])) := by
  rw [riseTo, List.getElem?_eq_getElem hk]
theorem behindI_step {zs : List Int} {j : Nat} (hj : j + 1 < zs.length) : behindI zs (j + 1) zs[j + 1] = decide (zs[j] < zs[j + 1]) := by
  rw [behindI, List.getElem?_eq_getElem (show j < zs.length by omega)]
theorem riseTo_down {zs : List Int} {n k : Nat} (h : riseTo zs n = true) (hk : k ≤ n) : riseTo zs k = true := by
  induction n with
  | zero => obtain rfl : k = 0 := by omega
            rfl
  | succ n ih =>
    rcases Nat.lt_or_ge k (n + 1) with q | q
    · rw [riseTo, Bool.and_eq_true] at h
      exact ih h.1 (by omega)
    · obtain rfl : k = n + 1 := by omega
      exact h
theorem not_rise {zs : List Int} {k : Nat} (hk : k < zs.length) (h : (within zs[k] 1 4 && behindI zs k zs[k]) = false) : riseTo zs zs.length = false := by
  cases hd : riseTo zs zs.length with
  | false => rfl
  | true =>
    have := riseTo_down hd (show k + 1 ≤ zs.length by omega)
    rw [riseTo_step hk, h] at this
    simp at this
theorem rise_at {zs : List Int} (h : riseTo zs zs.length = true) {k : Nat} (hk : k < zs.length) : 1 ≤ zs[k] ∧ zs[k] ≤ 4 := by
  have := riseTo_down h (show k + 1 ≤ zs.length by omega)
  rw [riseTo_step hk, Bool.and_eq_true, Bool.and_eq_true] at this
  exact within_iff.1 this.2.1
theorem confOk_len {zs : List Int} (h : confOk zs = true) : 1 ≤ zs.length ∧ zs.length ≤ 4 := by
  rw [confOk, Bool.and_eq_true] at h
  have := within_iff.1 h.1
  omega
theorem confOk_big {zs : List Int} (h : zs.length < 1 ∨ 4 < zs.length) : confOk zs = false := by
  rw [confOk, within_no (by omega)]
  rfl
theorem confOk_of {zs : List Int} (h : 1 ≤ zs.length) (h4 : zs.length ≤ 4) : confOk zs = riseTo zs zs.length := by
  rw [confOk, within_yes (by omega) (by omega), Bool.true_and]
theorem confOk_at {zs : List Int} (h : confOk zs = true) {k : Nat} (hk : k < zs.length) : 1 ≤ zs[k] ∧ zs[k] ≤ 4 := by
  have hl := confOk_len h
  rw [confOk_of hl.1 hl.2] at h
  exact rise_at h hk

/-- the bytes of a conf, and the numbers of bytes -/
def confBytes (zs : List Int) : List UInt8 := zs.map fun x => UInt8.ofNat x.toNat
def intsOf (l : List UInt8) : List Int := l.map fun b => (b.toNat : Int)
theorem confBytes_length (zs : List Int) : (confBytes zs).length = zs.length := by simp [confBytes]
theorem intsOf_length (l : List UInt8) : (intsOf l).length = l.length := by simp [intsOf]
theorem confBytes_take (zs : List Int) (k : Nat) (hk : k < zs.length) : confBytes (zs.take (k + 1)) = confBytes (zs.take k) ++ [UInt8.ofNat zs[k].toNat] := by
  simp only [confBytes]
  rw [List.take_succ_eq_append_getElem hk, List.map_append]
  rfl
theorem intsOf_take (l : List UInt8) (k : Nat) (hk : k < l.length) : intsOf (l.take (k + 1)) = intsOf (l.take k) ++ [(l[k].toNat : Int)] := by
  simp only [intsOf]
  rw [List.take_succ_eq_append_getElem hk, List.map_append]
  rfl
/-- what is read of a text -/
def readConf (s : ByteArray) : List Int × Bool := if confOk (intsOf s.data.toList) = true then (intsOf s.data.toList, true) else ([], false)
def confText (zs : List Int) : ByteArray × Bool := if confOk zs = true then (⟨(confBytes zs).toArray⟩, true) else (ByteArray.empty, false)
end Go.Proofs.YtbifkpkhpaellaaGreatDoor

namespace Go.Proofs.YtbifkpkhpaellaaGreatDoor
open Go.RowKit

structure EntD where
  term : Int
  kind : Int
  data : ByteArray

def EntD.value (e : EntD) : Value := .agg #[.int .i64 e.term, .int .i64 e.kind, .string e.data]

/-- an entry is right -/
def entryOk (e : EntD) : Bool :=
  within e.term 0 100000 && (if e.kind = 1 then decide (e.data.size = 0) else if e.kind = 2 then (readConf e.data).2 else if e.kind = 3 then decide (e.data.size ≤ 120) else false)

/-- the text of an entry -/
def entText (i : Int) (e : EntD) : ByteArray := ⟨#[69]⟩ ++ ⟨(vb i.toNat).toArray⟩ ++ ⟨(vb e.term.toNat).toArray⟩ ++ ⟨#[UInt8.ofNat e.kind.toNat]⟩ ++ e.data
def entryText (i : Int) (e : EntD) : ByteArray × Bool := if (entryOk e && within i 1 1000000) = true then (entText i e, true) else (ByteArray.empty, false)

theorem entryOk_term {e : EntD} (h : within e.term 0 100000 = false) : entryOk e = false := by rw [entryOk, h]; rfl
theorem entryOk_one {e : EntD} (h : within e.term 0 100000 = true) (hk : e.kind = 1) : entryOk e = decide (e.data.size = 0) := by rw [entryOk, h, if_pos hk, Bool.true_and]
theorem entryOk_two {e : EntD} (h : within e.term 0 100000 = true) (hk : e.kind = 2) : entryOk e = (readConf e.data).2 := by rw [entryOk, h, if_neg (by omega), if_pos hk, Bool.true_and]
theorem entryOk_three {e : EntD} (h : within e.term 0 100000 = true) (hk : e.kind = 3) : entryOk e = decide (e.data.size ≤ 120) := by rw [entryOk, h, if_neg (by omega), if_neg (by omega), if_pos hk, Bool.true_and]
theorem entryOk_else {e : EntD} (h : within e.term 0 100000 = true) (h1 : e.kind ≠ 1) (h2 : e.kind ≠ 2) (h3 : e.kind ≠ 3) : entryOk e = false := by rw [entryOk, h, if_neg h1, if_neg h2, if_neg h3, Bool.true_and]
theorem entryOk_bd {e : EntD} (h : entryOk e = true) : 0 ≤ e.term ∧ e.term ≤ 100000 ∧ 1 ≤ e.kind ∧ e.kind ≤ 3 ∧ e.data.size ≤ 120 := by
  rw [entryOk, Bool.and_eq_true] at h
  obtain ⟨h1, h2⟩ := h
  have ht := within_iff.1 h1
  refine ⟨ht.1, ht.2, ?_⟩
  by_cases k1 : e.kind = 1
  · rw [if_pos k1] at h2
    have : e.data.size = 0 := by simpa using h2
    omega
  · rw [if_neg k1] at h2
    by_cases k2 : e.kind = 2
    · rw [if_pos k2] at h2
      have hc : confOk (intsOf e.data.data.toList) = true := by
        cases hA : confOk (intsOf e.data.data.toList) with
        | true => rfl
        | false => rw [readConf, if_neg (by simp [hA])] at h2; cases h2
      have hl := confOk_len hc
      rw [intsOf_length] at hl
      have : e.data.data.toList.length = e.data.size := by simp
      omega
    · rw [if_neg k2] at h2
      by_cases k3 : e.kind = 3
      · rw [if_pos k3] at h2
        have : e.data.size ≤ 120 := by simpa using h2
        omega
      · rw [if_neg k3] at h2
        cases h2
end Go.Proofs.YtbifkpkhpaellaaGreatDoor

namespace Go.Proofs.YtbifkpkhpaellaaGreatDoor
open Go.RowKit

/-- what the low seven bits of the bytes make, the least first -/
def val : List UInt8 → Nat
  | [] => 0
  | b :: r => b.toNat % 128 + 128 * val r

theorem val_snoc (p : List UInt8) (b : UInt8) : val (p ++ [b]) = val p + b.toNat % 128 * 128 ^ p.length := by
  induction p with
  | nil => simp [val]
  | cons x p ih =>
    simp only [List.cons_append, val, ih, List.length_cons, Nat.pow_succ, Nat.mul_add]
    rw [show b.toNat % 128 * (128 ^ p.length * 128) = 128 * (b.toNat % 128 * 128 ^ p.length) from by rw [Nat.mul_comm (128 ^ p.length) 128, Nat.mul_left_comm]]
    omega

theorem val_lt (p : List UInt8) : val p < 128 ^ p.length := by
  induction p with
  | nil => simp [val]
  | cons x p ih =>
    simp only [val, List.length_cons, Nat.pow_succ]
    omega

theorem val_zero_last (p : List UInt8) (b : UInt8) (hb : b.toNat < 128) (h : val (p ++ [b]) = 0) : b = 0 := by
  rw [val_snoc] at h
  have h1 : b.toNat % 128 * 128 ^ p.length = 0 := by omega
  have h2 : 0 < 128 ^ p.length := Nat.pow_pos (by omega)
  rcases Nat.mul_eq_zero.1 h1 with h | h
  · apply UInt8.toNat_inj.1
    rw [Nat.mod_eq_of_lt hb] at h
    simpa using h
  · omega

/-- bytes that go on, then one that ends: they are just what would be written, unless the last is a needless nought -/
theorem vb_val (p : List UInt8) (b : UInt8) (hp : ∀ x ∈ p, 128 ≤ x.toNat) (hb : b.toNat < 128) : (vb (val (p ++ [b])) = p ++ [b]) ↔ ¬ (b = 0 ∧ p ≠ []) := by
  induction p with
  | nil =>
    have : vb (val [b]) = [b] := by
      have e : val [b] = b.toNat := by simp [val]; omega
      rw [e, vb_small (by omega)]; simp
    simp [this]
  | cons x p ih =>
    have hx := hp x (by simp)
    have hx2 := x.toNat_lt
    have ih' := ih fun y hy => hp y (by simp [hy])
    simp only [List.cons_append, val]
    by_cases hv : val (p ++ [b]) = 0
    · have hb0 := val_zero_last p b hb hv
      rw [hv, vb_small (by omega)]
      constructor
      · intro h
        have := congrArg List.length h
        simp at this
      · intro h
        exact absurd ⟨hb0, by simp⟩ h
    · rw [vb_big (by omega)]
      have e1 : (x.toNat % 128 + 128 * val (p ++ [b])) % 128 + 128 = x.toNat := by omega
      have e2 : (x.toNat % 128 + 128 * val (p ++ [b])) / 128 = val (p ++ [b]) := by omega
      rw [e1, e2]
      simp only [UInt8.ofNat_toNat, List.cons.injEq, true_and]
      rw [ih']
      constructor
      · rintro h ⟨h1, _⟩
        apply h
        refine ⟨h1, ?_⟩
        rintro rfl
        apply hv
        simp [val, h1]
      · rintro h ⟨h1, _⟩
        exact h ⟨h1, by simp⟩

/-- reading on: p has been read, l is what is left -/
def rvFrom (p : List UInt8) : List UInt8 → Option (Nat × Nat)
  | [] => none
  | b :: r => if 5 ≤ p.length then none else if b.toNat < 128 then (if 1000000000 < val (p ++ [b]) ∨ (b = 0 ∧ p ≠ []) then none else some (val (p ++ [b]), p.length + 1)) else rvFrom (p ++ [b]) r

def rv (l : List UInt8) : Option (Nat × Nat) := rvFrom [] l

theorem rvFrom_full (p l : List UInt8) (h : 5 ≤ p.length) : rvFrom p l = none := by cases l <;> simp [rvFrom, h]
theorem rvFrom_on (p r : List UInt8) (b : UInt8) (h : p.length < 5) (hb : 128 ≤ b.toNat) : rvFrom p (b :: r) = rvFrom (p ++ [b]) r := by
  rw [rvFrom, if_neg (by omega), if_neg (by omega)]
theorem rvFrom_no (p r : List UInt8) (b : UInt8) (h : p.length < 5) (hb : b.toNat < 128) (hv : 1000000000 < val (p ++ [b]) ∨ (b = 0 ∧ p ≠ [])) : rvFrom p (b :: r) = none := by
  rw [rvFrom, if_neg (by omega), if_pos hb, if_pos hv]
theorem rvFrom_yes (p r : List UInt8) (b : UInt8) (h : p.length < 5) (hb : b.toNat < 128) (hv : ¬ (1000000000 < val (p ++ [b]) ∨ (b = 0 ∧ p ≠ []))) : rvFrom p (b :: r) = some (val (p ++ [b]), p.length + 1) := by
  rw [rvFrom, if_neg (by omega), if_pos hb, if_neg hv]

theorem rvFrom_some {p l : List UInt8} {n c : Nat} (h : rvFrom p l = some (n, c)) : n ≤ 1000000000 ∧ p.length < c ∧ c ≤ p.length + l.length := by
  induction l generalizing p with
  | nil => simp [rvFrom] at h
  | cons b r ih =>
    rw [rvFrom] at h
    split at h
    · cases h
    · split at h
      · split at h
        · cases h
        · simp only [Option.some.injEq, Prod.mk.injEq] at h
          obtain ⟨rfl, rfl⟩ := h
          simp only [List.length_cons]
          omega
      · have := ih h
        simp only [List.length_append, List.length_cons, List.length_nil] at this ⊢
        omega

/-- what both readers answer -/
def rvAns (a : Nat) : Option (Nat × Nat) → Value
  | none => .tuple #[.int .i64 0, .int .i64 0, .bool false]
  | some (n, c) => .tuple #[.int .i64 n, .int .i64 ((a + c : Nat) : Int), .bool true]

/-- the round's state: k bytes of the text from a on have been read, all of them go on -/
structure RvAt (s : ByteArray) (a k : Nat) (p : List UInt8) : Prop where
  lo : a ≤ k
  hi : k ≤ s.size
  five : k ≤ a + 5
  len : p.length = k - a
  on : ∀ x ∈ p, 128 ≤ x.toNat
  left : p = (s.data.toList.drop a).take (k - a)
  rv : rv (s.data.toList.drop a) = rvFrom p (s.data.toList.drop k)

theorem RvAt.start (s : ByteArray) (a : Nat) (h : a ≤ s.size) : RvAt s a a [] :=
  ⟨Nat.le_refl _, h, by omega, by simp, by simp, by simp, rfl⟩

theorem drop_cons (s : ByteArray) (k : Nat) (h : k < s.size) : s.data.toList.drop k = s[k] :: s.data.toList.drop (k + 1) := by
  rw [List.drop_eq_getElem_cons (by simpa using h)]; rfl

theorem RvAt.take {s : ByteArray} {a k : Nat} {p : List UInt8} (h : RvAt s a k p) (hk : k < s.size) : p ++ [s[k]] = (s.data.toList.drop a).take (k + 1 - a) := by
  have h1 := h.lo
  have e : k + 1 - a = (k - a) + 1 := by omega
  rw [e, List.take_succ_eq_append_getElem (by simp only [List.length_drop, Array.length_toList]; have : s.data.size = s.size := rfl; omega), ← h.left]
  congr 2
  simp only [List.getElem_drop, Array.getElem_toList, show a + (k - a) = k by omega]
  rfl

theorem RvAt.step {s : ByteArray} {a k : Nat} {p : List UInt8} (h : RvAt s a k p) (hk : k < s.size) (h5 : k < a + 5) (hb : 128 ≤ s[k].toNat) : RvAt s a (k + 1) (p ++ [s[k]]) := by
  have h1 := h.lo
  have h2 := h.len
  refine ⟨by omega, by omega, by omega, by simp; omega, ?_, h.take hk, ?_⟩
  · intro x hx
    rcases List.mem_append.1 hx with hx | hx
    · exact h.on x hx
    · simp at hx; subst hx; exact hb
  · rw [h.rv, drop_cons s k hk, rvFrom_on _ _ _ (by omega) hb]

theorem RvAt.none_end {s : ByteArray} {a k : Nat} {p : List UInt8} (h : RvAt s a k p) (he : s.size ≤ k ∨ a + 5 ≤ k) : Go.Proofs.YtbifkpkhpaellaaGreatDoor.rv (s.data.toList.drop a) = none := by
  rw [h.rv]
  rcases he with he | he
  · have : s.data.toList.drop k = [] := List.drop_eq_nil_of_le (by simpa using he)
    rw [this]; rfl
  · exact rvFrom_full _ _ (by have := h.len; omega)

theorem RvAt.no {s : ByteArray} {a k : Nat} {p : List UInt8} (h : RvAt s a k p) (hk : k < s.size) (h5 : k < a + 5) (hb : s[k].toNat < 128) (hv : 1000000000 < val (p ++ [s[k]]) ∨ (s[k] = 0 ∧ a < k)) :
    Go.Proofs.YtbifkpkhpaellaaGreatDoor.rv (s.data.toList.drop a) = none := by
  have h1 := h.lo
  have h2 := h.len
  rw [h.rv, drop_cons s k hk]
  refine rvFrom_no _ _ _ (by omega) hb ?_
  rcases hv with hv | ⟨hv, hk'⟩
  · exact Or.inl hv
  · exact Or.inr ⟨hv, by rintro rfl; simp at h2; omega⟩

theorem RvAt.yes {s : ByteArray} {a k : Nat} {p : List UInt8} (h : RvAt s a k p) (hk : k < s.size) (h5 : k < a + 5) (hb : s[k].toNat < 128) (hv : val (p ++ [s[k]]) ≤ 1000000000) (hz : ¬ (s[k] = 0 ∧ a < k)) :
    Go.Proofs.YtbifkpkhpaellaaGreatDoor.rv (s.data.toList.drop a) = some (val (p ++ [s[k]]), k + 1 - a) := by
  have h1 := h.lo
  have h2 := h.len
  rw [h.rv, drop_cons s k hk, rvFrom_yes _ _ _ (by omega) hb, show k + 1 - a = p.length + 1 by omega]
  rintro (h | ⟨h, h'⟩)
  · omega
  · exact hz ⟨h, by rcases Nat.lt_or_ge a k with q | q; exact q; exact absurd (List.eq_nil_of_length_eq_zero (by omega)) h'⟩

/-- the bounds of a round -/
theorem RvAt.bounds {s : ByteArray} {a k : Nat} {p : List UInt8} (h : RvAt s a k p) (h5 : k < a + 5) (b : Nat) : val p < 268435456 ∧ 1 ≤ 128 ^ (k - a) ∧ 128 ^ (k - a) ≤ 268435456 ∧ b % 128 * 128 ^ (k - a) ≤ 34091302912 := by
  have h1 := h.lo
  have h2 : 128 ^ (k - a) ≤ 128 ^ 4 := Nat.pow_le_pow_right (by omega) (by omega)
  have h3 : 0 < 128 ^ (k - a) := Nat.pow_pos (by omega)
  have h4 := val_lt p
  rw [h.len] at h4
  have h6 : b % 128 * 128 ^ (k - a) ≤ 127 * 128 ^ 4 := Nat.mul_le_mul (by omega) h2
  simp only [show (128 : Nat) ^ 4 = 268435456 from rfl] at h2 h6
  omega

theorem RvAt.val_step {s : ByteArray} {a k W : Nat} {p : List UInt8} (h : RvAt s a k p) (hW : W = 128 ^ (k - a)) (b : UInt8) : ((val (p ++ [b]) : Nat) : Int) = (val p : Int) + (b.toNat : Int) % 128 * (W : Int) := by
  rw [val_snoc, h.len, ← hW]
  simp

theorem RvAt.W_step {s : ByteArray} {a k W : Nat} {p : List UInt8} (h : RvAt s a k p) (hW : W = 128 ^ (k - a)) : W * 128 = 128 ^ (k + 1 - a) := by
  have := h.lo
  rw [hW, show k + 1 - a = (k - a) + 1 by omega, Nat.pow_succ]

theorem RvAt.same {s : ByteArray} {a k : Nat} {p : List UInt8} (h : RvAt s a k p) (hk : k < s.size) (hb : s[k].toNat < 128) : (vb (val (p ++ [s[k]])) = (s.extract a (k + 1)).toList) ↔ ¬ (s[k] = 0 ∧ a < k) := by
  rw [ByteArray.toList_eq, extract_eq, ← h.take hk, vb_val _ _ h.on hb]
  have h1 := h.lo
  have h2 := h.len
  constructor
  · rintro h3 ⟨h4, h5⟩
    exact h3 ⟨h4, by rintro rfl; simp at h2; omega⟩
  · rintro h3 ⟨h4, h5⟩
    exact h3 ⟨h4, by rcases Nat.lt_or_ge a k with q | q; exact q; exact absurd (List.eq_nil_of_length_eq_zero (by omega)) h5⟩
theorem RvAt.differs {s : ByteArray} {a k : Nat} {p : List UInt8} (h : RvAt s a k p) (hk : k < s.size) (hb : s[k].toNat < 128) (hn : (!vb (val (p ++ [s[k]])) == (s.extract a (k + 1)).toList) = true) : s[k] = 0 ∧ a < k := by
  simp only [Bool.not_eq_true', beq_eq_false_iff_ne, ne_eq] at hn
  exact Decidable.byContradiction fun h3 => hn ((h.same hk hb).2 h3)
theorem RvAt.meets {s : ByteArray} {a k : Nat} {p : List UInt8} (h : RvAt s a k p) (hk : k < s.size) (hb : s[k].toNat < 128) (hn : (!vb (val (p ++ [s[k]])) == (s.extract a (k + 1)).toList) = false) : ¬ (s[k] = 0 ∧ a < k) := by
  simp only [Bool.not_eq_false', beq_iff_eq] at hn
  exact (h.same hk hb).1 hn

theorem rvAns_none {a : Nat} {o : Option (Nat × Nat)} (h : o = none) : Ending.returned (.tuple #[.int .i64 0, .int .i64 0, .bool false]) = .returned (rvAns a o) := by subst h; rfl
theorem rvAns_some {a k n : Nat} {x y : Int} {o : Option (Nat × Nat)} (h : o = some (n, k + 1 - a)) (hk : a ≤ k) (hx : (n : Int) = x) (hy : (k : Int) + 1 = y) : Ending.returned (.tuple #[.int .i64 x, .int .i64 y, .bool true]) = .returned (rvAns a o) := by
  subst h hx hy
  simp only [rvAns]
  rw [show ((a + (k + 1 - a) : Nat) : Int) = (k : Int) + 1 by omega]
theorem zero_of_toNat {b : UInt8} (h : (b.toNat : Int) ≤ 0) : b = 0 := by
  apply UInt8.toNat_inj.1
  simp
  omega
theorem not_zero {b : UInt8} (h : ¬ (b.toNat : Int) ≤ 0) : b ≠ 0 := by
  rintro rfl
  simp at h
end Go.Proofs.YtbifkpkhpaellaaGreatDoor

namespace Go.Proofs.YtbifkpkhpaellaaGreatDoor
open Go.RowKit

/-- what was read as a number is just what would be written -/
theorem rvFrom_text {p l : List UInt8} {n c : Nat} (hp : ∀ x ∈ p, 128 ≤ x.toNat) (h : rvFrom p l = some (n, c)) : (vb n).length = c ∧ p ++ l = vb n ++ (p ++ l).drop c := by
  induction l generalizing p with
  | nil => simp [rvFrom] at h
  | cons b r ih =>
    rw [rvFrom] at h
    split at h
    · cases h
    · split at h
      · rename_i hb
        split at h
        · cases h
        · rename_i hv
          simp only [Option.some.injEq, Prod.mk.injEq] at h
          obtain ⟨rfl, rfl⟩ := h
          have e := (vb_val p b hp hb).2 (fun q => hv (Or.inr q))
          rw [e]
          have e2 : p ++ b :: r = (p ++ [b]) ++ r := by simp
          refine ⟨by simp, ?_⟩
          rw [e2, List.drop_left' (by simp)]
      · rename_i hb
        have := ih (p := p ++ [b]) (by
          intro x hx
          rcases List.mem_append.1 hx with hx | hx
          · exact hp x hx
          · simp at hx; subst hx; omega) h
        simpa using this
theorem rv_text {l : List UInt8} {n c : Nat} (h : rv l = some (n, c)) : (vb n).length = c ∧ l = vb n ++ l.drop c := by
  simpa using rvFrom_text (p := []) (by simp) h
theorem rv_bd {l : List UInt8} {n c : Nat} (h : rv l = some (n, c)) : n ≤ 1000000000 ∧ 0 < c ∧ c ≤ l.length := by
  have := rvFrom_some h
  simpa using this

/-- what is read of the bytes of an entry -/
def readE (l : List UInt8) : Option (Nat × EntD) := match l with
  | [] => none
  | h :: l1 => if h = 69 then
      match rv l1 with
      | none => none
      | some (i, m) => match rv (l1.drop m) with
        | none => none
        | some (t, m2) => match (l1.drop m).drop m2 with
          | [] => none
          | k :: r => if (entryOk ⟨t, k.toNat, ⟨r.toArray⟩⟩ && within i 1 1000000) = true then some (i, ⟨t, k.toNat, ⟨r.toArray⟩⟩) else none
    else none

def readEntry (s : ByteArray) : Option (Nat × EntD) := readE s.data.toList
/-- what both readers answer -/
def reAns : Option (Nat × EntD) → Value
  | none => .tuple #[.int .i64 0, .agg #[.int .i64 0, .int .i64 0, .string ByteArray.empty], .bool false]
  | some (i, e) => .tuple #[.int .i64 i, .agg #[.int .i64 e.term, .int .i64 e.kind, .string e.data], .bool true]

theorem list_at (s : ByteArray) (k : Nat) (h : k < s.size) : s.data.toList.drop k = s[k] :: s.data.toList.drop (k + 1) := drop_cons s k h
theorem list_head (s : ByteArray) (h : 0 < s.size) : s.data.toList = s[0] :: s.data.toList.drop 1 := by
  have := drop_cons s 0 h
  simpa using this

theorem readE_empty {s : ByteArray} (h : s.size = 0) : readEntry s = none := by
  have : s.data.toList = [] := List.eq_nil_of_length_eq_zero (by simpa using h)
  rw [readEntry, this, readE]
theorem readE_head {s : ByteArray} (h : 0 < s.size) (h0 : s[0] ≠ 69) : readEntry s = none := by
  rw [readEntry, list_head s h, readE, if_neg h0]
theorem readE_one {s : ByteArray} (h1 : rv (s.data.toList.drop 1) = none) : readEntry s = none := by
  rcases Nat.eq_zero_or_pos s.size with q | q
  · exact readE_empty q
  · by_cases h0 : s[0] = 69
    · rw [readEntry, list_head s q, readE, if_pos h0, h1]
    · exact readE_head q h0
theorem readE_two {s : ByteArray} {i m : Nat} (h1 : rv (s.data.toList.drop 1) = some (i, m)) (h2 : rv (s.data.toList.drop (1 + m)) = none) : readEntry s = none := by
  rcases Nat.eq_zero_or_pos s.size with q | q
  · exact readE_empty q
  · by_cases h0 : s[0] = 69
    · rw [readEntry, list_head s q, readE, if_pos h0, h1]
      simp only
      rw [List.drop_drop, h2]
    · exact readE_head q h0
theorem readE_end {s : ByteArray} {i m t c : Nat} (h1 : rv (s.data.toList.drop 1) = some (i, m)) (h2 : rv (s.data.toList.drop (1 + m)) = some (t, c)) (h3 : s.size ≤ 1 + m + c) : readEntry s = none := by
  rcases Nat.eq_zero_or_pos s.size with q | q
  · exact readE_empty q
  · by_cases h0 : s[0] = 69
    · rw [readEntry, list_head s q, readE, if_pos h0, h1]
      simp only
      rw [List.drop_drop, h2]
      simp only
      rw [List.drop_drop, List.drop_eq_nil_of_le (by simp; omega)]
    · exact readE_head q h0
/-- the data behind a place -/
theorem data_from (s : ByteArray) (k : Nat) : (⟨(s.data.toList.drop k).toArray⟩ : ByteArray) = s.extract k s.size := by
  apply ByteArray.ext
  apply Array.toList_inj.1
  rw [extract_eq, List.take_of_length_le (by simp)]
theorem readE_go {s : ByteArray} {i m t c : Nat} (q : 0 < s.size) (h0 : s[0] = 69) (h1 : rv (s.data.toList.drop 1) = some (i, m)) (h2 : rv (s.data.toList.drop (1 + m)) = some (t, c)) (h3 : 1 + m + c < s.size) :
    readEntry s = if (entryOk ⟨t, s[1 + m + c].toNat, s.extract (1 + m + c + 1) s.size⟩ && within i 1 1000000) = true then some (i, ⟨t, s[1 + m + c].toNat, s.extract (1 + m + c + 1) s.size⟩) else none := by
  rw [readEntry, list_head s q, readE, if_pos h0, h1]
  simp only
  rw [List.drop_drop, h2]
  simp only
  rw [List.drop_drop, list_at s _ h3]
  simp only [data_from]

theorem readE_at {s : ByteArray} {i m t c a : Nat} (q : 0 < s.size) (h0 : s[0] = 69) (h1 : rv (s.data.toList.drop 1) = some (i, m)) (h2 : rv (s.data.toList.drop (1 + m)) = some (t, c)) (ha : 1 + m + c = a) (h3 : a < s.size) :
    readEntry s = if (entryOk ⟨t, s[a].toNat, s.extract (a + 1) s.size⟩ && within i 1 1000000) = true then some (i, ⟨t, s[a].toNat, s.extract (a + 1) s.size⟩) else none := by
  subst ha
  exact readE_go q h0 h1 h2 h3
theorem readE_index {s : ByteArray} {i m : Nat} (h1 : rv (s.data.toList.drop 1) = some (i, m)) (hi : within i 1 1000000 = false) : readEntry s = none := by
  rcases Nat.eq_zero_or_pos s.size with q | q
  · exact readE_empty q
  · by_cases h0 : s[0] = 69
    · cases h2 : rv (s.data.toList.drop (1 + m)) with
      | none => exact readE_two h1 h2
      | some p =>
        obtain ⟨t, c⟩ := p
        by_cases h3 : s.size ≤ 1 + m + c
        · exact readE_end h1 h2 h3
        · rw [readE_go q h0 h1 h2 (by omega), if_neg (by simp [hi])]
    · exact readE_head q h0

/-- the whole text, out of what was read of it -/
theorem text_read {s : ByteArray} {i m t c : Nat} (q : 0 < s.size) (h1 : rv (s.data.toList.drop 1) = some (i, m)) (h2 : rv (s.data.toList.drop (1 + m)) = some (t, c)) (h3 : 1 + m + c < s.size) :
    s.data.toList = s[0] :: (vb i ++ (vb t ++ (s[1 + m + c] :: (s.extract (1 + m + c + 1) s.size).data.toList))) := by
  have e1 := (rv_text h1).2
  have e2 := (rv_text h2).2
  rw [List.drop_drop] at e1 e2
  rw [list_at s _ h3] at e2
  rw [e2] at e1
  have e0 := list_head s q
  rw [e1] at e0
  rw [e0]
  congr 4
  rw [extract_eq, List.take_of_length_le (by simp)]
theorem entText_list (i : Int) (e : EntD) : (entText i e).data.toList = 69 :: (vb i.toNat ++ (vb e.term.toNat ++ (UInt8.ofNat e.kind.toNat :: e.data.data.toList))) := by
  simp [entText, ByteArray.data_append]
/-- what is written of what was read is the text itself, just when it begins as an entry does -/
theorem back_same {s : ByteArray} {i m t c : Nat} (q : 0 < s.size) (h1 : rv (s.data.toList.drop 1) = some (i, m)) (h2 : rv (s.data.toList.drop (1 + m)) = some (t, c)) (h3 : 1 + m + c < s.size) :
    ((entText i ⟨t, s[1 + m + c].toNat, s.extract (1 + m + c + 1) s.size⟩).toList == s.toList) = decide (s[0] = 69) := by
  rw [ByteArray.toList_eq, ByteArray.toList_eq, entText_list, text_read q h1 h2 h3]
  simp only [Int.toNat_natCast, UInt8.ofNat_toNat]
  by_cases h : s[0] = 69
  · simp [h]
  · have h' : ¬ (69 : UInt8) = s[0] := fun x => h x.symm
    simp [h, h']
end Go.Proofs.YtbifkpkhpaellaaGreatDoor

namespace Go.Proofs.YtbifkpkhpaellaaGreatDoor
open Go.RowKit

/-- the term of the last entry, or the one that it begins with -/
def lastT : Int → List EntD → Int
  | t, [] => t
  | _, e :: r => lastT e.term r
/-- entries that are right, their terms never falling -/
def termsOk : Int → List EntD → Bool
  | _, [] => true
  | t, e :: r => entryOk e && decide (t ≤ e.term) && termsOk e.term r
theorem lastT_append (t : Int) (a b : List EntD) : lastT t (a ++ b) = lastT (lastT t a) b := by
  induction a generalizing t with
  | nil => rfl
  | cons e a ih => exact ih e.term
theorem termsOk_append (t : Int) (a b : List EntD) : termsOk t (a ++ b) = (termsOk t a && termsOk (lastT t a) b) := by
  induction a generalizing t with
  | nil => simp [termsOk, lastT]
  | cons e a ih => simp only [List.cons_append, termsOk, lastT, ih, Bool.and_assoc]
theorem lastT_take (t : Int) (l : List EntD) (k : Nat) (h : k < l.length) : lastT t (l.take (k + 1)) = l[k].term := by
  rw [List.take_succ_eq_append_getElem h, lastT_append]
  rfl
theorem lastT_last (t : Int) (l : List EntD) (h : 0 < l.length) : lastT t l = l[l.length - 1].term := by
  have := lastT_take t l (l.length - 1) (by omega)
  rw [List.take_of_length_le (by omega)] at this
  exact this
theorem termsOk_take (t : Int) (l : List EntD) (k : Nat) (h : k < l.length) : termsOk t (l.take (k + 1)) = (termsOk t (l.take k) && (entryOk l[k] && decide (lastT t (l.take k) ≤ l[k].term))) := by
  rw [List.take_succ_eq_append_getElem h, termsOk_append]
  simp [termsOk]
theorem termsOk_not (t : Int) (l : List EntD) (k : Nat) (h : termsOk t (l.take k) = false) : termsOk t l = false := by
  have := termsOk_append t (l.take k) (l.drop k)
  rw [List.take_append_drop, h] at this
  simpa using this
theorem termsOk_each (t : Int) (l : List EntD) (h : termsOk t l = true) : ∀ e ∈ l, entryOk e = true := by
  induction l generalizing t with
  | nil => intro e he; cases he
  | cons a l ih =>
    intro e he
    simp only [termsOk, Bool.and_eq_true] at h
    rcases List.mem_cons.1 he with rfl | he
    · exact h.1.1
    · exact ih _ h.2 e he

/-- a log is right -/
def logOk (s t : Int) (l : List EntD) : Bool := within s 0 1000000 && within t 0 100000 && decide (l.length ≤ 60) && decide (s + l.length ≤ 1000000) && termsOk t l
theorem logOk_iff {s t : Int} {l : List EntD} : logOk s t l = true ↔ (0 ≤ s ∧ s ≤ 1000000) ∧ (0 ≤ t ∧ t ≤ 100000) ∧ l.length ≤ 60 ∧ s + l.length ≤ 1000000 ∧ termsOk t l = true := by
  simp only [logOk, Bool.and_eq_true, within_iff, decide_eq_true_eq, and_assoc]
theorem logOk_start {s t : Int} {l : List EntD} (h : ¬ (0 ≤ s ∧ s ≤ 1000000)) : logOk s t l = false := by
  cases hq : logOk s t l with
  | false => rfl
  | true => exact absurd (logOk_iff.1 hq).1 h
theorem logOk_term {s t : Int} {l : List EntD} (h : ¬ (0 ≤ t ∧ t ≤ 100000)) : logOk s t l = false := by
  cases hq : logOk s t l with
  | false => rfl
  | true => exact absurd (logOk_iff.1 hq).2.1 h
theorem logOk_len {s t : Int} {l : List EntD} (h : ¬ l.length ≤ 60) : logOk s t l = false := by
  cases hq : logOk s t l with
  | false => rfl
  | true => exact absurd (logOk_iff.1 hq).2.2.1 h
theorem logOk_sum {s t : Int} {l : List EntD} (h : ¬ s + l.length ≤ 1000000) : logOk s t l = false := by
  cases hq : logOk s t l with
  | false => rfl
  | true => exact absurd (logOk_iff.1 hq).2.2.2.1 h
theorem logOk_ents {s t : Int} {l : List EntD} (h : termsOk t l = false) : logOk s t l = false := by
  rw [logOk, h, Bool.and_false]
theorem logOk_of {s t : Int} {l : List EntD} (hs : 0 ≤ s ∧ s ≤ 1000000) (ht : 0 ≤ t ∧ t ≤ 100000) (hl : l.length ≤ 60) (h2 : s + l.length ≤ 1000000) (h : termsOk t l = true) : logOk s t l = true := logOk_iff.2 ⟨hs, ht, hl, h2, h⟩

/-- the term of an index -/
def logTerm (s t : Int) (l : List EntD) (i : Int) : Int := if i = s then t else if s < i ∧ i ≤ s + l.length then (l.getD (i - s - 1).toNat ⟨0, 0, ByteArray.empty⟩).term else -1
/-- the log has the index -/
def logHas (s : Int) (n : Nat) (i : Int) : Bool := decide (s ≤ i ∧ i ≤ s + n)
/-- the log in which an entry has an index -/
def putAns (s t : Int) (l : List EntD) (i : Int) (e : EntD) : (Int × Int × List EntD) × Bool :=
  if logOk s t l = true ∧ (s + 1 ≤ i ∧ i ≤ s + l.length + 1) ∧ logOk s t (l.take (i - s - 1).toNat ++ [e]) = true then ((s, t, l.take (i - s - 1).toNat ++ [e]), true) else ((0, 0, []), false)
/-- the log that begins behind an index -/
def behindAns (s t : Int) (l : List EntD) (b tm : Int) : List EntD :=
  if logOk s t l = true ∧ (s ≤ b ∧ b ≤ s + l.length) ∧ logTerm s t l b = tm then l.drop (b - s).toNat else []
/-- how many entries two lists begin with alike -/
def alike : List EntD → List EntD → Nat
  | a :: l, b :: r => if a.term = b.term ∧ a.kind = b.kind ∧ a.data = b.data then alike l r + 1 else 0
  | _, _ => 0
/-- what two logs share -/
def sharedAns (s t : Int) (l : List EntD) (s' t' : Int) (l' : List EntD) : Int :=
  if logOk s t l = true ∧ logOk s' t' l' = true then
    if logHas s l.length (max s s') = true ∧ logHas s' l'.length (max s s') = true ∧ logTerm s t l (max s s') = logTerm s' t' l' (max s s') then max s s' + alike (l.drop (max s s' - s).toNat) (l'.drop (max s s' - s').toNat) else -1
  else -1
end Go.Proofs.YtbifkpkhpaellaaGreatDoor

namespace Go.Proofs.YtbifkpkhpaellaaGreatDoor

/-- a journal: a number, a term, a vote, a log's start and its term, its entries -/
abbrev jourV (n tm vt s t : Int) (v : Value) : Value := .agg #[.int .i64 n, .int .i64 tm, .int .i64 vt, .int .i64 s, .int .i64 t, v]
/-- a right journal -/
def jourOk (n tm vt s t : Int) (l : List EntD) : Bool := within n 0 999 && (within tm 0 100000 && within vt 0 4) && logOk s t l
theorem jourOk_iff {n tm vt s t : Int} {l : List EntD} : jourOk n tm vt s t l = true ↔ (0 ≤ n ∧ n ≤ 999) ∧ ((0 ≤ tm ∧ tm ≤ 100000) ∧ (0 ≤ vt ∧ vt ≤ 4)) ∧ logOk s t l = true := by
  simp only [jourOk, Bool.and_eq_true, within_iff, and_assoc]
end Go.Proofs.YtbifkpkhpaellaaGreatDoor

namespace Go.Proofs.YtbifkpkhpaellaaGreatDoor
open Go.RowKit

/-- one of the eight steps -/
def half (x : Nat) : Nat := if x % 2 = 1 then x / 2 ^^^ 3558460437 else x / 2

theorem half_lt {x : Nat} (h : x < 4294967296) : half x < 4294967296 := by
  unfold half
  split
  · exact Nat.xor_lt_two_pow (n := 32) (by omega) (by omega)
  · omega

theorem top_bit {a : Nat} (h : a < 2147483648) : 2147483648 ≤ a ^^^ 3558460437 := by
  have h1 : (a ^^^ 3558460437).testBit 31 = true := by
    rw [Nat.testBit_xor, Nat.testBit_lt_two_pow (x := a) (i := 31) (by omega)]
    decide
  exact Nat.ge_two_pow_of_testBit h1

theorem xor_cancel {a b c : Nat} (h : a ^^^ c = b ^^^ c) : a = b := by
  have := congrArg (· ^^^ c) h
  simpa [Nat.xor_assoc] using this

theorem half_inj {x y : Nat} (hx : x < 4294967296) (hy : y < 4294967296) (h : half x = half y) : x = y := by
  unfold half at h
  have tx := top_bit (a := x / 2) (by omega)
  have ty := top_bit (a := y / 2) (by omega)
  split at h <;> split at h
  · have := xor_cancel h; omega
  · omega
  · omega
  · omega

/-- k steps -/
def hsN : Nat → Nat → Nat
  | 0, x => x
  | k + 1, x => half (hsN k x)

theorem hsN_lt (k : Nat) {x : Nat} (h : x < 4294967296) : hsN k x < 4294967296 := by
  induction k with
  | zero => exact h
  | succ k ih => exact half_lt ih
theorem hsN_inj (k : Nat) {x y : Nat} (hx : x < 4294967296) (hy : y < 4294967296) (h : hsN k x = hsN k y) : x = y := by
  induction k with
  | zero => exact h
  | succ k ih => exact ih (half_inj (hsN_lt k hx) (hsN_lt k hy) h)

/-- a sum and one byte more -/
def crc1 (s : Nat) (b : UInt8) : Nat := hsN 8 (s ^^^ b.toNat)

theorem xb_lt {s : Nat} (h : s < 4294967296) (b : UInt8) : s ^^^ b.toNat < 4294967296 := Nat.xor_lt_two_pow (n := 32) (by omega) (by have := b.toNat_lt; omega)
theorem crc1_lt {s : Nat} (h : s < 4294967296) (b : UInt8) : crc1 s b < 4294967296 := hsN_lt 8 (xb_lt h b)
theorem crc1_inj {s t : Nat} (hs : s < 4294967296) (ht : t < 4294967296) {b : UInt8} (h : crc1 s b = crc1 t b) : s = t :=
  xor_cancel (hsN_inj 8 (xb_lt hs b) (xb_lt ht b) h)
theorem crc1_byte {s : Nat} (hs : s < 4294967296) {b c : UInt8} (h : crc1 s b = crc1 s c) : b = c := by
  have h1 := hsN_inj 8 (xb_lt hs b) (xb_lt hs c) h
  rw [Nat.xor_comm s, Nat.xor_comm s] at h1
  exact UInt8.toNat_inj.1 (xor_cancel h1)

/-- a sum and more bytes -/
def crc (s : Nat) (l : List UInt8) : Nat := l.foldl crc1 s

theorem crc_append (s : Nat) (l r : List UInt8) : crc s (l ++ r) = crc (crc s l) r := by simp [crc]
theorem crc_snoc (s : Nat) (l : List UInt8) (b : UInt8) : crc s (l ++ [b]) = crc1 (crc s l) b := by simp [crc]
theorem crc_lt {s : Nat} (h : s < 4294967296) (l : List UInt8) : crc s l < 4294967296 := by
  induction l generalizing s with
  | nil => exact h
  | cons b l ih => exact ih (crc1_lt h b)
theorem crc_inj {s t : Nat} (hs : s < 4294967296) (ht : t < 4294967296) (l : List UInt8) (h : crc s l = crc t l) : s = t := by
  induction l generalizing s t with
  | nil => exact h
  | cons b l ih => exact crc1_inj hs ht (ih (crc1_lt hs b) (crc1_lt ht b) h)
/-- one byte turned turns the sum -/
theorem crc_turned {s : Nat} (hs : s < 4294967296) (p q : List UInt8) {b c : UInt8} (h : crc s (p ++ b :: q) = crc s (p ++ c :: q)) : b = c := by
  rw [crc_append, crc_append] at h
  have hp := crc_lt hs p
  have h1 : crc (crc1 (crc s p) b) q = crc (crc1 (crc s p) c) q := h
  exact crc1_byte hp (crc_inj (crc1_lt hp b) (crc1_lt hp c) q h1)

/-- a sum in four bytes, the highest first -/
def four (x : Nat) : List UInt8 := [UInt8.ofNat (x / 16777216), UInt8.ofNat (x / 65536), UInt8.ofNat (x / 256), UInt8.ofNat x]
theorem four_length (x : Nat) : (four x).length = 4 := rfl
theorem four_inj {x y : Nat} (hx : x < 4294967296) (hy : y < 4294967296) (h : four x = four y) : x = y := by
  simp only [four, List.cons.injEq, and_true] at h
  obtain ⟨h1, h2, h3, h4⟩ := h
  have e1 := congrArg UInt8.toNat h1
  have e2 := congrArg UInt8.toNat h2
  have e3 := congrArg UInt8.toNat h3
  have e4 := congrArg UInt8.toNat h4
  simp only [UInt8.toNat_ofNat'] at e1 e2 e3 e4
  omega

def sumOf (l : List UInt8) : Nat := crc 4294967295 l
theorem sumOf_lt (l : List UInt8) : sumOf l < 4294967296 := crc_lt (by omega) l

/-- a sealed text with one byte turned is the sealed text of none of its length -/
theorem seal_turned (l m : List UInt8) (p q : List UInt8) (b c : UInt8) (h1 : l ++ four (sumOf l) = p ++ b :: q) (h2 : m ++ four (sumOf m) = p ++ c :: q) : b = c := by
  have hlen : l.length = m.length := by
    have e1 := congrArg List.length h1
    have e2 := congrArg List.length h2
    simp only [List.length_append, List.length_cons, four_length] at e1 e2
    omega
  have tl : l = (p ++ b :: q).take l.length := by rw [← h1, List.take_left]
  have tm : m = (p ++ c :: q).take l.length := by rw [← h2, hlen, List.take_left]
  have dl : four (sumOf l) = (p ++ b :: q).drop l.length := by rw [← h1, List.drop_left]
  have dm : four (sumOf m) = (p ++ c :: q).drop l.length := by rw [← h2, hlen, List.drop_left]
  rw [List.take_append] at tl tm
  rw [List.drop_append] at dl dm
  rcases Nat.lt_or_ge p.length l.length with hp | hp
  · -- the byte lies in the text: the sums' bytes are alike
    obtain ⟨k, hk⟩ : ∃ k, l.length - p.length = k + 1 := ⟨l.length - p.length - 1, by omega⟩
    rw [hk, List.take_of_length_le (by omega), List.take_succ_cons] at tl tm
    rw [hk, List.drop_of_length_le (by omega), List.drop_succ_cons] at dl dm
    have hs := four_inj (sumOf_lt l) (sumOf_lt m) (dl.trans dm.symm)
    rw [tl, tm] at hs
    exact crc_turned (by omega) p (q.take k) hs
  · -- the byte lies in the sum: the texts are alike
    have hk : l.length - p.length = 0 := by omega
    rw [hk, List.take_zero, List.append_nil] at tl tm
    have e : l = m := tl.trans tm.symm
    have h3 : p ++ b :: q = p ++ c :: q := by rw [← h1, ← h2, e]
    have h4 := List.append_cancel_left h3
    simp only [List.cons.injEq] at h4
    exact h4.1

/-- a text that is sealed -/
def Uns (s : ByteArray) : Prop := 4 ≤ s.size ∧ s.size ≤ 20004 ∧ s.data.toList.drop (s.size - 4) = four (sumOf (s.data.toList.take (s.size - 4)))

theorem slice_from {P : Program} {t : TypeId} (h : P.underlying t = some .string) (s : ByteArray) (a : Nat) (x : Int) (hx : x = a) (ha : a ≤ s.size) (w : World) :
    (Instr.slice t (.string s) (some (.int .i64 x)) none none).run P w = .ok (.string (s.extract a s.size)) w := by
  subst hx
  rw [run_slice_string_l w t s h .i64 a (by omega) (by omega)]
  simp
theorem slice_upto {P : Program} {t : TypeId} (h : P.underlying t = some .string) (s : ByteArray) (a : Nat) (x : Int) (hx : x = a) (ha : a ≤ s.size) (w : World) :
    (Instr.slice t (.string s) none (some (.int .i64 x)) none).run P w = .ok (.string (s.extract 0 a)) w := by
  subst hx
  rw [run_slice_string_h w t s h .i64 a (by omega) (by omega)]
  simp

theorem head_list (s : ByteArray) (a : Nat) : (s.extract 0 a).data.toList = s.data.toList.take a := by rw [extract_eq]; simp
theorem tail_list (s : ByteArray) (a : Nat) : (s.extract a s.size).data.toList = s.data.toList.drop a := by
  rw [extract_eq, List.take_of_length_le (by simp)]

theorem uns_same {s : ByteArray} (h4 : 4 ≤ s.size) (h2 : s.size ≤ 20004) : (s.extract (s.size - 4) s.size).toList = four (sumOf (s.extract 0 (s.size - 4)).data.toList) ↔ Uns s := by
  rw [ByteArray.toList_eq, tail_list s _, head_list]
  exact ⟨fun h => ⟨h4, h2, h⟩, fun h => h.2.2⟩
end Go.Proofs.YtbifkpkhpaellaaGreatDoor

namespace Go.Proofs.YtbifkpkhpaellaaGreatDoor
open Go.RowKit

/-- a fact under its own name, out of the walk's sight -/
theorem hid0 {p : Prop} (h : p) : Hid p := h

/-- the frame of a text -/
def frm (t : ByteArray) : ByteArray := ⟨(vb t.size).toArray⟩ ++ ⟨(four (sumOf t.data.toList)).toArray⟩ ++ t

theorem frm_list (t : ByteArray) : (frm t).data.toList = vb t.size ++ four (sumOf t.data.toList) ++ t.data.toList := by
  simp [frm, ByteArray.data_append]

/-- the frame that a text has at a place: where its record begins and where it ends -/
def rf (s : ByteArray) (a : Nat) : Option (Nat × Nat) :=
  match rv (s.data.toList.drop a) with
  | none => none
  | some (n, c) => if a + c + 4 + n ≤ s.size ∧ 1 ≤ n ∧ n ≤ 9000 ∧ frm (s.extract (a + c + 4) (a + c + 4 + n)) = s.extract a (a + c + 4 + n) then some (a + c + 4, a + c + 4 + n) else none

theorem rf_no {s : ByteArray} {a : Nat} (h : rv (s.data.toList.drop a) = none) : rf s a = none := by simp [rf, h]
theorem rf_not {s : ByteArray} {a n c : Nat} (h : rv (s.data.toList.drop a) = some (n, c)) (h2 : ¬ (a + c + 4 + n ≤ s.size ∧ 1 ≤ n ∧ n ≤ 9000 ∧ frm (s.extract (a + c + 4) (a + c + 4 + n)) = s.extract a (a + c + 4 + n))) : rf s a = none := by simp only [rf, h]; rw [if_neg h2]
theorem rf_yes {s : ByteArray} {a n c : Nat} (h : rv (s.data.toList.drop a) = some (n, c)) (h1 : a + c + 4 + n ≤ s.size) (h2 : 1 ≤ n) (h3 : n ≤ 9000) (h4 : frm (s.extract (a + c + 4) (a + c + 4 + n)) = s.extract a (a + c + 4 + n)) : rf s a = some (a + c + 4, a + c + 4 + n) := by simp only [rf, h]; rw [if_pos ⟨h1, h2, h3, h4⟩]

theorem rf_bd {s : ByteArray} {a st en : Nat} (h : rf s a = some (st, en)) : a < st ∧ st < en ∧ en ≤ s.size := by
  cases hr : rv (s.data.toList.drop a) with
  | none => rw [rf_no hr] at h; cases h
  | some p =>
    obtain ⟨n, c⟩ := p
    by_cases h2 : a + c + 4 + n ≤ s.size ∧ 1 ≤ n ∧ n ≤ 9000 ∧ frm (s.extract (a + c + 4) (a + c + 4 + n)) = s.extract a (a + c + 4 + n)
    · obtain ⟨h3, h4, h5, h6⟩ := h2
      rw [rf_yes hr h3 h4 h5 h6] at h
      simp only [Option.some.injEq, Prod.mk.injEq] at h
      omega
    · rw [rf_not hr h2] at h; cases h

/-- the frames from a place on, up to the first that is torn (so many at the most) -/
def ufsF (s : ByteArray) : Nat → Nat → List (Nat × Nat)
  | 0, _ => []
  | f + 1, a => match rf s a with
    | none => []
    | some p => p :: ufsF s f p.2
/-- the frames from a place on, up to the first that is torn -/
def ufs (s : ByteArray) (a : Nat) : List (Nat × Nat) := ufsF s (s.size - a + 1) a

theorem ufsF_eq {s : ByteArray} : ∀ (f g a : Nat), s.size - a < f → s.size - a < g → ufsF s f a = ufsF s g a
  | 0, _, _, h, _ => by omega
  | _ + 1, 0, _, _, h => by omega
  | f + 1, g + 1, a, h1, h2 => by
    rw [ufsF, ufsF]
    cases hr : rf s a with
    | none => rfl
    | some p =>
      have hb := rf_bd (st := p.1) (en := p.2) hr
      show p :: ufsF s f p.2 = p :: ufsF s g p.2
      rw [ufsF_eq f g p.2 (by omega) (by omega)]
theorem ufs_none {s : ByteArray} {a : Nat} (h : rf s a = none) : ufs s a = [] := by rw [ufs, ufsF, h]
theorem ufs_some {s : ByteArray} {a st en : Nat} (h : rf s a = some (st, en)) : ufs s a = (st, en) :: ufs s en := by
  have hb := rf_bd h
  rw [ufs, ufsF, h]
  show (st, en) :: ufsF s (s.size - a) en = (st, en) :: ufsF s (s.size - en + 1) en
  rw [ufsF_eq (s.size - a) (s.size - en + 1) en (by omega) (by omega)]

/-- behind the last frame -/
def endOf (l : List (Nat × Nat)) : Nat := match l.getLast? with | none => 0 | some p => p.2
theorem endOf_snoc (l : List (Nat × Nat)) (p : Nat × Nat) : endOf (l ++ [p]) = p.2 := by simp [endOf]

/-- the records of frames -/
def recs (s : ByteArray) (l : List (Nat × Nat)) : List ByteArray := l.map fun p => s.extract p.1 p.2
theorem recs_snoc (s : ByteArray) (l : List (Nat × Nat)) (p : Nat × Nat) : recs s (l ++ [p]) = recs s l ++ [s.extract p.1 p.2] := by simp [recs]
theorem recs_length (s : ByteArray) (l : List (Nat × Nat)) : (recs s l).length = l.length := by simp [recs]

/-- reading goes on: pre have come, the next begins at a -/
structure UfAt (s : ByteArray) (a : Nat) (pre : List (Nat × Nat)) : Prop where
  all : ufs s 0 = pre ++ ufs s a
  at_ : a = endOf pre
  hi : a ≤ s.size
  len : pre.length ≤ a

theorem UfAt.start (s : ByteArray) : UfAt s 0 [] := ⟨rfl, rfl, Nat.zero_le _, Nat.le_refl _⟩
theorem UfAt.step {s : ByteArray} {a st en : Nat} {pre : List (Nat × Nat)} (h : UfAt s a pre) (hr : rf s a = some (st, en)) : UfAt s en (pre ++ [(st, en)]) := by
  have hb := rf_bd hr
  have hl := h.len
  refine ⟨by rw [h.all, ufs_some hr]; simp, by rw [endOf_snoc], hb.2.2, by simp; omega⟩
theorem UfAt.stop {s : ByteArray} {a : Nat} {pre : List (Nat × Nat)} (h : UfAt s a pre) (hr : rf s a = none) : ufs s 0 = pre := by
  rw [h.all, ufs_none hr]; simp
theorem UfAt.full {s : ByteArray} {a : Nat} {pre : List (Nat × Nat)} (h : UfAt s a pre) (ha : s.size ≤ a) : ufs s 0 = pre := by
  refine h.stop (rf_no ?_)
  have : s.data.toList.drop a = [] := List.drop_eq_nil_of_le (by simpa using ha)
  rw [this]; rfl

/-- what is read of a whole file -/
def ufT (s : ByteArray) : List ByteArray := if 20000 < s.size then [] else recs s (ufs s 0)
def ufE (s : ByteArray) : Nat := if 20000 < s.size then 0 else endOf (ufs s 0)

/-- what both readers of one frame answer -/
def rfAns (s : ByteArray) : Option (Nat × Nat) → Value
  | none => .tuple #[.string ByteArray.empty, .int .i64 0, .bool false]
  | some (st, en) => .tuple #[.string (s.extract st en), .int .i64 en, .bool true]
theorem ufs_len (s : ByteArray) : ∀ a, (ufs s a).length ≤ s.size - a := by
  intro a
  induction hm : s.size - a using Nat.strongRecOn generalizing a with
  | _ m ih =>
    cases hr : rf s a with
    | none => rw [ufs_none hr]; simp
    | some p =>
      obtain ⟨st, en⟩ := p
      have hb := rf_bd hr
      rw [ufs_some hr]
      have := ih (s.size - en) (by omega) en rfl
      simp only [List.length_cons]
      omega
theorem ufT_len (s : ByteArray) : (ufT s).length ≤ 20000 := by
  unfold ufT
  split
  · simp
  · rw [recs_length]; have := ufs_len s 0; omega
end Go.Proofs.YtbifkpkhpaellaaGreatDoor

namespace Go.Proofs.YtbifkpkhpaellaaGreatDoor
open Go.RowKit

/-- numbers lie at an address, one behind the other -/
def IntsAt (w : World) (ao : Option Addr) (zs : List Int) : Prop := zs ≠ [] → ∃ b off, ao = some ⟨b, off, none⟩ ∧ ∀ j (hj : j < zs.length), w.cell? ⟨b, off + j, none⟩ = some (.int .i64 zs[j])
theorem IntsAt.on {w w' : World} {ao : Option Addr} {zs : List Int} (h : IntsAt w ao zs) (hb : Below w.heap.size w w') : IntsAt w' ao zs := by
  intro h0
  obtain ⟨b, off, e1, e2⟩ := h h0
  exact ⟨b, off, e1, fun j hj => (hb.cell (p := ⟨b, off + j, none⟩) (World.block_lt_of_cell? w _ (e2 j hj))).trans (e2 j hj)⟩
/-- numbers in their cells -/
def intCells (zs : List Int) : List Value := zs.map (Value.int .i64)
theorem intsAt_of {w : World} {g : Nat} {t : TypeId} {zs : List Int} {r : List Value} (h : BlockIs w g t (intCells zs ++ r)) : IntsAt w (some ⟨g, 0, none⟩) zs := by
  intro _
  refine ⟨g, 0, rfl, fun j hj => ?_⟩
  rw [Nat.zero_add]
  refine h.cell ?_
  rw [List.getElem?_append_left (by simpa [intCells] using hj)]
  simp [intCells, hj]
/-- a cell of a list, written -/
theorem set_one (p : List Value) (a x : Value) (r : List Value) : (p ++ x :: r).set p.length a = p ++ a :: r := by
  rw [List.set_append_right _ _ (Nat.le_refl _)]
  simp
end Go.Proofs.YtbifkpkhpaellaaGreatDoor

namespace Go.Proofs.YtbifkpkhpaellaaGreatDoor
open Go.RowKit

theorem confText_yes {zs : List Int} (h : confOk zs = true) : confText zs = (⟨(confBytes zs).toArray⟩, true) := by rw [confText, if_pos h]
theorem confText_no {zs : List Int} (h : confOk zs = false) : confText zs = (ByteArray.empty, false) := by rw [confText, if_neg (by simp [h])]
theorem readConf_yes {s : ByteArray} (h : confOk (intsOf s.data.toList) = true) : readConf s = (intsOf s.data.toList, true) := by rw [readConf, if_pos h]
theorem readConf_no {s : ByteArray} (h : confOk (intsOf s.data.toList) = false) : readConf s = ([], false) := by rw [readConf, if_neg (by simp [h])]

theorem conf_byte {x : Int} (h1 : 1 ≤ x) (h4 : x ≤ 4) : IntKind.u8.wrap x = x := by
  rw [IntKind.wrap_u8]
  omega
/-- what both answer -/
def readConfAns (s : ByteArray) (w : World) (e : Ending) (w' : World) : Prop :=
  ∃ v, e = .returned (.tuple #[v, .bool (readConf s).2]) ∧ w'.ownsRow w.heap.size 3 1 v (readConf s).1.length (intCells (readConf s).1) ∧ Below w.heap.size w w'

theorem ints_row {w : World} {base : Nat} {ao : Option Addr} {n c : Nat} {zs : List Int} (hn : zs.length = n) (h : w.ownsRow base 3 1 (.slice ao n c) n (intCells zs)) : IntsAt w ao zs := by
  intro hne
  obtain ⟨_, va, vc, hv, hf⟩ := row_lie h
  simp only [Value.slice.injEq] at hv
  obtain ⟨rfl, _, _⟩ := hv
  have hp : 0 < zs.length := List.length_pos_iff.2 hne
  obtain ⟨g, e1, _, _, _, _, hc, _⟩ := hf (by omega)
  refine ⟨g, 0, e1, fun j hj => ?_⟩
  rw [Nat.zero_add]
  exact hc j _ (by simp [intCells, hj])

theorem readConf_none {s : ByteArray} {w w' : World} {v : Value} (h : confOk (intsOf s.data.toList) = false) (ho : w'.ownsRow w.heap.size 3 1 v 0 []) (hb : Below w.heap.size w w') : readConfAns s w (.returned (.tuple #[v, .bool false])) w' := by
  refine ⟨v, by rw [readConf_no h], ?_, hb⟩
  rw [readConf_no h]
  exact ho

theorem readConf_some {s : ByteArray} {w w' : World} {v : Value} (h : confOk (intsOf s.data.toList) = true) (ho : w'.ownsRow w.heap.size 3 1 v s.size (intCells (intsOf s.data.toList))) (hb : Below w.heap.size w w') : readConfAns s w (.returned (.tuple #[v, .bool true])) w' := by
  refine ⟨v, by rw [readConf_yes h], ?_, hb⟩
  rw [readConf_yes h]
  have : (intsOf s.data.toList).length = s.size := by rw [intsOf_length]; simp
  rw [this]
  exact ho

theorem kept_conf {w w2 : World} {base : Nat} {e : TypeId} {v : Value} {n : Nat} {xs : List Value} (h : w.ownsRow base e 1 v n xs) (hb : Below w.heap.size w w2) : w2.ownsRow base e 1 v n xs := by
  refine h.kept (grown_of_below hb none) ?_
  cases v.ownBlock with
  | none => exact Or.inl rfl
  | some g => exact Or.inr (by simp)
end Go.Proofs.YtbifkpkhpaellaaGreatDoor

namespace Go.Proofs.YtbifkpkhpaellaaGreatDoor
open Go.RowKit

theorem entryText_yes {i : Int} {d : EntD} (h : entryOk d = true) (hi : within i 1 1000000 = true) : entryText i d = (entText i d, true) := by rw [entryText, if_pos (by rw [h, hi]; rfl)]
theorem entryText_no {i : Int} {d : EntD} (h : entryOk d = false ∨ within i 1 1000000 = false) : entryText i d = (ByteArray.empty, false) := by
  rw [entryText, if_neg]
  rcases h with h | h <;> simp [h]
theorem confBytes_intsOf (l : List UInt8) : confBytes (intsOf l) = l := by
  simp only [confBytes, intsOf, List.map_map]
  conv => rhs; rw [← List.map_id l]
  apply List.map_congr_left
  intro b _
  simp
theorem readConf_true {s : ByteArray} (h : (readConf s).2 = true) : confOk (intsOf s.data.toList) = true ∧ (readConf s).1 = intsOf s.data.toList := by
  cases hA : confOk (intsOf s.data.toList) with
  | true => rw [readConf_yes hA]; exact ⟨rfl, rfl⟩
  | false => rw [readConf_no hA] at h; cases h
theorem size_E (V : ByteArray) : ((⟨#[69]⟩ : ByteArray) ++ V).size = 1 + V.size := by rw [ByteArray.size_append]; rfl
theorem size_one (A : ByteArray) (k : UInt8) : (A ++ ⟨#[k]⟩).size = A.size + 1 := by rw [ByteArray.size_append]; rfl
theorem entText_none (n t : Nat) : entText n ⟨t, 1, ByteArray.empty⟩ = (⟨#[69]⟩ : ByteArray) ++ ⟨(vb n).toArray⟩ ++ ⟨(vb t).toArray⟩ ++ ⟨#[1]⟩ := by
  simp only [entText, ByteArray.append_empty, Int.toNat_natCast]
  rfl
theorem empty_data {s : ByteArray} (h : s.size = 0) : s = ByteArray.empty := by
  apply ByteArray.ext
  exact Array.eq_empty_of_size_eq_zero h
theorem entText_of (n t q : Nat) (s : ByteArray) : entryText n ⟨t, q, s⟩ = (entText n ⟨t, q, s⟩, true) ↔ entryText n ⟨t, q, s⟩ = ((⟨#[69]⟩ : ByteArray) ++ ⟨(vb n).toArray⟩ ++ ⟨(vb t).toArray⟩ ++ ⟨#[UInt8.ofNat q]⟩ ++ s, true) := Iff.rfl
theorem vb_size (n : Nat) (h : n ≤ 1000000) : (⟨(vb n).toArray⟩ : ByteArray).size ≤ 1000001 := by
  have := vb_le n
  show (vb n).toArray.size ≤ 1000001
  simp
  omega
end Go.Proofs.YtbifkpkhpaellaaGreatDoor

namespace Go.Proofs.YtbifkpkhpaellaaGreatDoor
open Go.RowKit

theorem val_append (p q : List UInt8) : val (p ++ q) = val p + val q * 128 ^ p.length := by
  induction p with
  | nil => simp [val]
  | cons x p ih =>
    simp only [List.cons_append, val, ih, List.length_cons, Nat.pow_succ, Nat.mul_add]
    rw [show val q * (128 ^ p.length * 128) = 128 * (val q * 128 ^ p.length) from by rw [Nat.mul_comm (128 ^ p.length) 128, Nat.mul_left_comm]]
    omega

theorem val_vb (n : Nat) : val (vb n) = n := by
  induction n using Nat.strongRecOn with
  | _ n ih =>
    by_cases h : n ≤ 127
    · rw [vb_small h]; simp [val]; omega
    · rw [vb_big (by omega)]
      simp only [val, ih (n / 128) (by omega), UInt8.toNat_ofNat']
      omega

theorem vb_len {n : Nat} (h : n ≤ 1000000000) : (vb n).length ≤ 5 := by
  by_cases h1 : n ≤ 127
  · rw [vb_small h1]; simp
  rw [vb_big (by omega)]
  by_cases h2 : n / 128 ≤ 127
  · rw [vb_small h2]; simp
  rw [vb_big (by omega)]
  by_cases h3 : n / 128 / 128 ≤ 127
  · rw [vb_small h3]; simp
  rw [vb_big (by omega)]
  by_cases h4 : n / 128 / 128 / 128 ≤ 127
  · rw [vb_small h4]; simp
  rw [vb_big (by omega), vb_small (by omega)]; simp

theorem rvFrom_vb (m : Nat) : ∀ (p r : List UInt8), p.length + (vb m).length ≤ 5 → val (p ++ vb m) ≤ 1000000000 → (p = [] ∨ 0 < m) → rvFrom p (vb m ++ r) = some (val (p ++ vb m), p.length + (vb m).length) := by
  induction m using Nat.strongRecOn with
  | _ m ih =>
    intro p r h5 hv hp
    by_cases h : m ≤ 127
    · rw [vb_small h] at h5 hv ⊢
      have hb : (UInt8.ofNat m).toNat = m := by rw [UInt8.toNat_ofNat']; omega
      simp only [List.length_cons, List.length_nil] at h5 ⊢
      simp only [List.cons_append, List.nil_append]
      rw [rvFrom_yes _ _ _ (by omega) (by omega)]
      rintro (q | ⟨q1, q2⟩)
      · omega
      · rcases hp with hp | hp
        · exact q2 hp
        · have := congrArg UInt8.toNat q1
          rw [hb] at this
          simp at this
          omega
    · have e := vb_big (n := m) (by omega)
      have hb : (UInt8.ofNat (m % 128 + 128)).toNat = m % 128 + 128 := by rw [UInt8.toNat_ofNat']; omega
      have hp1 := vb_pos (m / 128)
      rw [e] at h5 hv ⊢
      simp only [List.length_cons] at h5 ⊢
      simp only [List.cons_append]
      have e2 : p ++ UInt8.ofNat (m % 128 + 128) :: vb (m / 128) = (p ++ [UInt8.ofNat (m % 128 + 128)]) ++ vb (m / 128) := by simp
      rw [e2] at hv ⊢
      rw [rvFrom_on _ _ _ (by omega) (by omega), ih (m / 128) (by omega) _ r (by simp; omega) hv (Or.inr (by omega))]
      simp only [List.length_append, List.length_cons, List.length_nil]
      congr 2
      omega

theorem rv_vb {n : Nat} (h : n ≤ 1000000000) (r : List UInt8) : rv (vb n ++ r) = some (n, (vb n).length) := by
  have := rvFrom_vb n [] r (by simpa using vb_len h) (by simpa [val_vb] using h) (Or.inl rfl)
  simpa [rv, val_vb] using this
end Go.Proofs.YtbifkpkhpaellaaGreatDoor

namespace Go.Proofs.YtbifkpkhpaellaaGreatDoor
open Go.RowKit

/-- a letter and two numbers -/
def rec2 (c : UInt8) (a b : Int) : ByteArray := ⟨#[c]⟩ ++ ⟨(vb a.toNat).toArray⟩ ++ ⟨(vb b.toNat).toArray⟩
/-- the frames of entries, from an index on -/
def frms : Int → List EntD → ByteArray
  | _, [] => ⟨#[]⟩
  | i, d :: l => frm (entText i d) ++ frms (i + 1) l
theorem ba_nil (s : ByteArray) : (⟨#[]⟩ : ByteArray) ++ s = s := ByteArray.empty_append
theorem frms_append (i : Int) (a b : List EntD) : frms i (a ++ b) = frms i a ++ frms (i + a.length) b := by
  induction a generalizing i with
  | nil => rw [List.nil_append, frms, ba_nil]; simp
  | cons d a ih => rw [List.cons_append, frms, frms, ih, ByteArray.append_assoc, List.length_cons, show i + 1 + (a.length : Int) = i + ((a.length + 1 : Nat) : Int) by omega]
theorem frms_one (i : Int) (d : EntD) : frms i [d] = frm (entText i d) := by rw [frms, frms]; exact ByteArray.append_empty
theorem frms_take (i : Int) (l : List EntD) (k : Nat) (h : k < l.length) : frms i (l.take (k + 1)) = frms i (l.take k) ++ frm (entText (i + k) l[k]) := by
  rw [List.take_succ_eq_append_getElem h, frms_append, frms_one, List.length_take, show min k l.length = k by omega]
theorem vb5 (n : Int) (h : n ≤ 1000000) : (⟨(vb n.toNat).toArray⟩ : ByteArray).size ≤ 5 := by
  show (vb n.toNat).toArray.size ≤ 5
  rw [List.size_toArray]
  exact vb_len (by omega)
theorem rec2_size (c : UInt8) {a b : Int} (ha : a ≤ 1000000) (hb : b ≤ 1000000) : 1 ≤ (rec2 c a b).size ∧ (rec2 c a b).size ≤ 11 := by
  have h1 := vb5 a ha
  have h2 := vb5 b hb
  rw [rec2, ByteArray.size_append, ByteArray.size_append, show (⟨#[c]⟩ : ByteArray).size = 1 from rfl]
  omega
theorem entText_size {i : Int} {d : EntD} (hi : i ≤ 1000000) (hd : entryOk d = true) : 1 ≤ (entText i d).size ∧ (entText i d).size ≤ 140 := by
  have hb := entryOk_bd hd
  have h1 := vb5 i hi
  have h2 := vb5 d.term (by omega)
  rw [entText, ByteArray.size_append, ByteArray.size_append, ByteArray.size_append, ByteArray.size_append, show (⟨#[69]⟩ : ByteArray).size = 1 from rfl, show (⟨#[UInt8.ofNat d.kind.toNat]⟩ : ByteArray).size = 1 from rfl]
  omega
theorem frm_len {t : ByteArray} (h : t.size ≤ 9000) : (frm t).size ≤ t.size + 9 := by
  have h1 := vb5 t.size (by omega)
  rw [frm, ByteArray.size_append, ByteArray.size_append, show (⟨(four (sumOf t.data.toList)).toArray⟩ : ByteArray).size = 4 from rfl]
  rw [Int.toNat_natCast] at h1
  omega
theorem termsOk_at {t : Int} {l : List EntD} (h : termsOk t l = true) (k : Nat) (hk : k < l.length) : entryOk l[k] = true := by
  induction l generalizing t k with
  | nil => simp at hk
  | cons e l ih =>
    rw [termsOk, Bool.and_eq_true, Bool.and_eq_true] at h
    cases k with
    | zero => exact h.1.1
    | succ k => exact ih h.2 k (by simpa using hk)
theorem termsOk_mem {t : Int} {l : List EntD} (h : termsOk t l = true) : ∀ d ∈ l, entryOk d = true := by
  intro d hd
  obtain ⟨k, hk, rfl⟩ := List.mem_iff_getElem.1 hd
  exact termsOk_at h k hk
theorem frms_len {L : List EntD} (h : ∀ d ∈ L, entryOk d = true) (i : Int) (hi : i + L.length ≤ 1000001) : (frms i L).size ≤ L.length * 150 := by
  induction L generalizing i with
  | nil => simp [frms]; rfl
  | cons d L ih =>
    have hl : (d :: L).length = L.length + 1 := rfl
    have h1 := ih (fun e he => h e (List.mem_cons_of_mem _ he)) (i + 1) (by omega)
    have h2 := entText_size (i := i) (by omega) (h d List.mem_cons_self)
    have h3 := frm_len (t := entText i d) (by omega)
    rw [frms, ByteArray.size_append]
    omega
/-- the text of a right journal -/
def jText (tm vt s t : Int) (l : List EntD) : ByteArray := frm (rec2 66 s t) ++ frm (rec2 72 tm vt) ++ frms (s + 1) l
/-- the text of a journal -/
def jourText (n tm vt s t : Int) (l : List EntD) : ByteArray × Bool := if jourOk n tm vt s t l = true then (jText tm vt s t l, true) else (⟨#[]⟩, false)
theorem jourText_yes {n tm vt s t : Int} {l : List EntD} (h : jourOk n tm vt s t l = true) : jourText n tm vt s t l = (jText tm vt s t l, true) := by rw [jourText, if_pos h]
theorem jourText_no {n tm vt s t : Int} {l : List EntD} (h : jourOk n tm vt s t l = false) : jourText n tm vt s t l = (⟨#[]⟩, false) := by rw [jourText, h]; rfl
end Go.Proofs.YtbifkpkhpaellaaGreatDoor

namespace Go.Proofs.YtbifkpkhpaellaaGreatDoor
open Go.RowKit

/-- the two numbers behind a letter, if that is all -/
def readTwo (c : UInt8) (s : ByteArray) : Option (Nat × Nat) :=
  match s.data.toList with
  | [] => none
  | h :: _ => if h = c then (match rv (s.data.toList.drop 1) with
    | none => none
    | some (a, m) => match rv (s.data.toList.drop (1 + m)) with
      | none => none
      | some (b, k) => if 1 + m + k = s.size then some (a, b) else none) else none
theorem readTwo_empty {c : UInt8} {s : ByteArray} (h : s.size = 0) : readTwo c s = none := by
  have : s.data.toList = [] := List.eq_nil_of_length_eq_zero (by simpa using h)
  rw [readTwo, this]
theorem readTwo_head {c : UInt8} {s : ByteArray} (h : 0 < s.size) (h0 : s[0] ≠ c) : readTwo c s = none := by
  rw [readTwo, list_head s h]
  simp [h0]
theorem readTwo_at {c : UInt8} {s : ByteArray} (h : 0 < s.size) (h0 : s[0] = c) : readTwo c s = (match rv (s.data.toList.drop 1) with
    | none => none
    | some (a, m) => match rv (s.data.toList.drop (1 + m)) with
      | none => none
      | some (b, k) => if 1 + m + k = s.size then some (a, b) else none) := by
  rw [readTwo]
  conv => lhs; rw [list_head s h]
  simp only [h0, if_true]
  rw [← h0, ← list_head s h]
theorem readTwo_one {c : UInt8} {s : ByteArray} (h1 : rv (s.data.toList.drop 1) = none) : readTwo c s = none := by
  rcases Nat.eq_zero_or_pos s.size with h | h
  · exact readTwo_empty h
  · by_cases h0 : s[0] = c
    · rw [readTwo_at h h0, h1]
    · exact readTwo_head h h0
theorem readTwo_two {c : UInt8} {s : ByteArray} {a m : Nat} (h1 : rv (s.data.toList.drop 1) = some (a, m)) (h2 : rv (s.data.toList.drop (1 + m)) = none) : readTwo c s = none := by
  rcases Nat.eq_zero_or_pos s.size with h | h
  · exact readTwo_empty h
  · by_cases h0 : s[0] = c
    · rw [readTwo_at h h0, h1]; simp only [h2]
    · exact readTwo_head h h0
theorem readTwo_go {c : UInt8} {s : ByteArray} {a m b k : Nat} (h : 0 < s.size) (h0 : s[0] = c) (h1 : rv (s.data.toList.drop 1) = some (a, m)) (h2 : rv (s.data.toList.drop (1 + m)) = some (b, k)) : readTwo c s = if 1 + m + k = s.size then some (a, b) else none := by
  rw [readTwo_at h h0, h1]
  simp only [h2]
/-- what a text of this form is -/
theorem two_text {c : UInt8} {s : ByteArray} {a m b k : Nat} (h : 0 < s.size) (h1 : rv (s.data.toList.drop 1) = some (a, m)) (h2 : rv (s.data.toList.drop (1 + m)) = some (b, k)) : rec2 c a b = s ↔ s[0] = c ∧ 1 + m + k = s.size := by
  obtain ⟨l1, e1⟩ := rv_text h1
  obtain ⟨l2, e2⟩ := rv_text h2
  rw [List.drop_drop] at e1 e2
  have hl : s.data.toList.length = s.size := by simp
  have hs : s.data.toList = s[0] :: (vb a ++ (vb b ++ s.data.toList.drop (1 + m + k))) := by
    conv => lhs; rw [list_head s h, e1, e2]
  have hr : (rec2 c a b).data.toList = c :: (vb a ++ vb b) := by simp [rec2, ByteArray.data_append]
  have hb2 := rv_bd h2
  have hle : 1 + m + k ≤ s.size := by
    have h3 := hb2.2.2
    rw [List.length_drop, hl] at h3
    have := hb2.2.1
    omega
  constructor
  · intro e
    rw [e, hs] at hr
    simp only [List.cons.injEq] at hr
    refine ⟨hr.1, ?_⟩
    have := congrArg List.length hr.2
    simp only [List.length_append, List.length_drop, hl] at this
    omega
  · rintro ⟨e0, e3⟩
    apply ByteArray.ext
    apply Array.toList_inj.1
    rw [hr, hs, e0, e3, ← hl, List.drop_length, List.append_nil]
def twoAns : Option (Nat × Nat) → Value
  | none => .tuple #[.int .i64 0, .int .i64 0, .bool false]
  | some (a, b) => .tuple #[.int .i64 a, .int .i64 b, .bool true]
end Go.Proofs.YtbifkpkhpaellaaGreatDoor

namespace Go.Proofs.YtbifkpkhpaellaaGreatDoor
open Go.RowKit

/-- numbers that are numbers, a text that is a text -/
def EntD.Fits (e : EntD) : Prop := (-9223372036854775808 ≤ e.term ∧ e.term ≤ 9223372036854775807) ∧ (-9223372036854775808 ≤ e.kind ∧ e.kind ≤ 9223372036854775807) ∧ e.data.size ≤ maxLen
def entEnc (e : EntD) : List Value := [.int .i64 e.term, .int .i64 e.kind, .string e.data]
/-- the cells of entries -/
def entCells (l : List EntD) : List Value := l.flatMap entEnc
theorem entCells_length (l : List EntD) : (entCells l).length = l.length * 3 := row_length entEnc 3 (fun _ => rfl) l
theorem entCells_take (l : List EntD) (k : Nat) (h : k < l.length) : entCells (l.take (k + 1)) = entCells (l.take k) ++ entEnc l[k] := by
  rw [List.take_succ_eq_append_getElem h, entCells, entCells, List.flatMap_append]
  simp
/-- how many letters -/
def entBulk : List EntD → Int
  | [] => 0
  | f :: l => f.data.size + entBulk l
theorem entBulk_nonneg (l : List EntD) : 0 ≤ entBulk l := by
  induction l with
  | nil => exact Int.le_refl 0
  | cons f l ih => simp only [entBulk]; omega
theorem entBulk_take (l : List EntD) (k : Nat) (h : k < l.length) : entBulk (l.take (k + 1)) = entBulk (l.take k) + l[k].data.size := by
  induction l generalizing k with
  | nil => simp at h
  | cons f l ih =>
    cases k with
    | zero => simp [entBulk]
    | succ k =>
      have := ih k (by simpa using h)
      simp only [List.take_succ_cons, entBulk, List.getElem_cons_succ] at this ⊢
      omega
theorem entBulk_le (l : List EntD) (k : Nat) : entBulk (l.take k) ≤ entBulk l := by
  induction l generalizing k with
  | nil => simp [entBulk]
  | cons f l ih =>
    cases k with
    | zero => have := entBulk_nonneg (f :: l); simpa [entBulk] using this
    | succ k => have := ih k; simp only [List.take_succ_cons, entBulk]; omega
theorem ent_le_bulk {l : List EntD} {f : EntD} (h : f ∈ l) : (f.data.size : Int) ≤ entBulk l := by
  induction l with
  | nil => cases h
  | cons g l ih =>
    simp only [entBulk]
    have := entBulk_nonneg l
    rcases List.mem_cons.1 h with e | e
    · subst e; omega
    · have := ih e; omega
/-- entries that are few and short -/
def EntsSmall (l : List EntD) : Prop := l.length ≤ 1048576 ∧ ∀ f ∈ l, f.data.size ≤ 1048576
theorem entsSmall {l : List EntD} (h : 0 ≤ (1048576 : Int) - l.length - entBulk l) : EntsSmall l := by
  have := entBulk_nonneg l
  exact ⟨by omega, fun f hf => by have := ent_le_bulk hf; omega⟩

/-- entries lie at an address, one behind the other -/
def EntsAt (w : World) (ao : Option Addr) (l : List EntD) : Prop :=
  l ≠ [] → ∃ b off, ao = some ⟨b, off, none⟩ ∧ ∀ j (hj : j < l.length), w.cell? ⟨b, off + j * 3, none⟩ = some (.int .i64 l[j].term) ∧ w.cell? ⟨b, off + j * 3 + 1, none⟩ = some (.int .i64 l[j].kind) ∧ w.cell? ⟨b, off + j * 3 + 2, none⟩ = some (.string l[j].data)
theorem entsAt_of {w : World} {g : Nat} {t : TypeId} {l : List EntD} {r : List Value} (h : BlockIs w g t (entCells l ++ r)) : EntsAt w (some ⟨g, 0, none⟩) l := by
  intro _
  refine ⟨g, 0, rfl, fun j hj => ?_⟩
  rw [Nat.zero_add]
  exact ⟨h.cell (row_at entEnc 3 (fun _ => rfl) l r j 0 hj (by omega)), h.cell (row_at entEnc 3 (fun _ => rfl) l r j 1 hj (by omega)), h.cell (row_at entEnc 3 (fun _ => rfl) l r j 2 hj (by omega))⟩
def EntsFit (l : List EntD) : Prop := ∀ j (hj : j < l.length), l[j].Fits
theorem EntsAt.on {w w' : World} {ao : Option Addr} {l : List EntD} (h : EntsAt w ao l) (hb : Below w.heap.size w w') : EntsAt w' ao l := by
  intro h0
  obtain ⟨b, off, e1, e2⟩ := h h0
  refine ⟨b, off, e1, fun j hj => ?_⟩
  obtain ⟨x, y, z⟩ := e2 j hj
  exact ⟨(hb.cell (p := ⟨b, off + j * 3, none⟩) (World.block_lt_of_cell? w _ x)).trans x, (hb.cell (p := ⟨b, off + j * 3 + 1, none⟩) (World.block_lt_of_cell? w _ y)).trans y, (hb.cell (p := ⟨b, off + j * 3 + 2, none⟩) (World.block_lt_of_cell? w _ z)).trans z⟩
/-- a log as data -/
structure LogD where
  start : Int
  sterm : Int
  ents : List EntD
end Go.Proofs.YtbifkpkhpaellaaGreatDoor

namespace Go.Proofs.YtbifkpkhpaellaaGreatDoor
open Go.RowKit

theorem OwnAt.ents {w : World} {l : List EntD} {va : Option Addr} {lo hi : Nat} (h : OwnAt w 110 (entCells l) l.length va lo hi) : EntsAt w va l := by
  rcases h with h | ⟨g, r, rfl, _, _, h⟩
  · intro h0
    exact absurd (List.length_eq_zero_iff.1 h) h0
  · exact entsAt_of h
theorem own_of_ents {w : World} {base g : Nat} {l : List EntD} (hb : base ≤ g) (hk : BlockIs w g 110 (entCells l)) : OwnAt w 110 (entCells l) l.length (some ⟨g, 0, none⟩) base w.heap.size :=
  Or.inr ⟨g, [], rfl, hb, hk.lt, by rw [List.append_nil]; exact hk⟩
/-- entries in a row of the call's own -/
theorem own_of_row {w : World} {base : Nat} {v : Value} {l : List EntD} (h : w.ownsRow base 110 3 v l.length (entCells l)) : ∃ va vc, v = .slice va l.length vc ∧ l.length ≤ vc ∧ OwnAt w 110 (entCells l) l.length va base w.heap.size := by
  obtain ⟨_, (⟨rfl, h0⟩ | ⟨g, cap, cur, rfl, hb, hg, hc, _, _, ht⟩)⟩ := h
  · exact ⟨none, 0, by rw [h0], by omega, Or.inl h0⟩
  · have hcur : cur.toList = entCells l ++ cur.toList.drop (l.length * 3) := by rw [← ht, List.take_append_drop]
    have hk : BlockIs w g 110 (entCells l ++ cur.toList.drop (l.length * 3)) := by
      unfold BlockIs
      rw [hg, ← hcur]
    exact ⟨_, _, rfl, hc, Or.inr ⟨g, _, rfl, hb, hk.lt, hk⟩⟩
end Go.Proofs.YtbifkpkhpaellaaGreatDoor

namespace Go.Proofs.YtbifkpkhpaellaaGreatDoor
open Go.RowKit

theorem EntsAt.drop {w : World} {b off : Nat} {l : List EntD} (h : EntsAt w (some ⟨b, off, none⟩) l) (k : Nat) : EntsAt w (some ⟨b, off + k * 3, none⟩) (l.drop k) := by
  intro hne
  obtain ⟨b', off', e, hc⟩ := h (by intro e; rw [e] at hne; simp at hne)
  simp only [Option.some.injEq, Addr.mk.injEq, and_true] at e
  obtain ⟨rfl, rfl⟩ := e
  refine ⟨b, off + k * 3, rfl, fun j hj => ?_⟩
  have hj2 : k + j < l.length := by simp at hj; omega
  have := hc (k + j) hj2
  simp only [List.getElem_drop]
  rw [show off + k * 3 + j * 3 = off + (k + j) * 3 by omega]
  exact this

theorem entCells_one (l : List EntD) : ∀ u ∈ entCells l, u.oneCell' = true := by
  intro u hu
  simp only [entCells, List.mem_flatMap] at hu
  obtain ⟨e, _, hu⟩ := hu
  simp only [entEnc, List.mem_cons, List.not_mem_nil, or_false] at hu
  rcases hu with rfl | rfl | rfl <;> rfl
/-- a cell of entries that lie in memory -/
theorem ents_cells {w : World} {b off : Nat} {l : List EntD} (h : ∀ j (hj : j < l.length), w.cell? ⟨b, off + j * 3, none⟩ = some (.int .i64 l[j].term) ∧ w.cell? ⟨b, off + j * 3 + 1, none⟩ = some (.int .i64 l[j].kind) ∧ w.cell? ⟨b, off + j * 3 + 2, none⟩ = some (.string l[j].data)) :
    ∀ j u, (entCells l)[j]? = some u → w.cell? ((⟨b, off, none⟩ : Addr).add j) = some u := by
  intro j u hu
  have hlt : j < (entCells l).length := (List.getElem?_eq_some_iff.1 hu).1
  rw [entCells_length] at hlt
  have hj : j / 3 < l.length := by omega
  have hr := row_at entEnc 3 (fun _ => rfl) l [] (j / 3) (j % 3) hj (Nat.mod_lt _ (by omega))
  rw [List.append_nil, show j / 3 * 3 + j % 3 = j by omega] at hr
  have hu' : (entEnc l[j / 3])[j % 3]? = some u := by rw [← hr]; exact hu
  have hadd : (⟨b, off, none⟩ : Addr).add j = ⟨b, off + j, none⟩ := Addr.add_lit _ _ _
  rw [hadd]
  obtain ⟨h0, h1, h2⟩ := h (j / 3) hj
  have h3 : j % 3 = 0 ∨ j % 3 = 1 ∨ j % 3 = 2 := by omega
  rcases h3 with e | e | e
  · rw [e] at hu'
    simp only [entEnc, List.getElem?_cons_zero, Option.some.injEq] at hu'
    rw [← hu', show off + j = off + j / 3 * 3 by omega]
    exact h0
  · rw [e] at hu'
    simp only [entEnc, List.getElem?_cons_succ, List.getElem?_cons_zero, Option.some.injEq] at hu'
    rw [← hu', show off + j = off + j / 3 * 3 + 1 by omega]
    exact h1
  · rw [e] at hu'
    simp only [entEnc, List.getElem?_cons_succ, List.getElem?_cons_zero, Option.some.injEq] at hu'
    rw [← hu', show off + j = off + j / 3 * 3 + 2 by omega]
    exact h2
theorem set_same {cs : List Value} {i : Nat} {v : Value} (h : cs[i]? = some v) : cs.set i v = cs := by
  apply List.ext_getElem?
  intro j
  rw [List.getElem?_set]
  split
  · rename_i e
    subst e
    rw [h]
    have := (List.getElem?_eq_some_iff.1 h).1
    simp [this]
  · rfl
end Go.Proofs.YtbifkpkhpaellaaGreatDoor

namespace Go.Proofs.YtbifkpkhpaellaaGreatDoor
open Go.RowKit

theorem toEnt_info : (Tryz.prog.info? 110).map (fun i => (i.zero, i.size, i.bytes)) = some (some (.agg #[.int .i64 0, .int .i64 0, .string ByteArray.empty]), 3, 32) := by kernel_rfl
theorem made_ents (n : Nat) : (madeCells (Value.agg #[.int .i64 0, .int .i64 0, .string ByteArray.empty]).cells (n * 3)).toList.length = n * 3 := by
  simp [madeCells]

end Go.Proofs.YtbifkpkhpaellaaGreatDoor

namespace Go.Proofs.YtbifkpkhpaellaaGreatDoor
open Go.RowKit

/-- entries behind an empty list -/
theorem append_ents {W : World} {g0 : Nat} (h0 : BlockIs W g0 110 []) {vo : Option Addr} {L : List EntD} {c : Nat} (hL : L.length ≤ 1048577) (hE : EntsAt W vo L) :
    ∃ v' W', (Builtin.append_ #[26, 26] 26 #[.slice (some ⟨g0, 0, none⟩) 0 0, .slice vo L.length c]).run Tryz.prog W = .ok v' W' ∧ W'.ownsRow g0 110 3 v' L.length (entCells L) ∧ W.grownBy W' (some g0) := by
  obtain ⟨i0, hi, hz0, hz1, hz2⟩ := info_parts toEnt_info
  have hown : W.ownsRow g0 110 3 (.slice (some ⟨g0, 0, none⟩) 0 0) 0 [] := ⟨by simp, Or.inr ⟨g0, 0, #[], rfl, Nat.le_refl _, h0, by omega, by unfold maxLen; omega, by simp, by simp⟩⟩
  cases vo with
  | some ad =>
    have hnews : ∀ j u, (entCells L)[j]? = some u → W.cell? (ad.add j) = some u := by
      by_cases hne : L = []
      · subst hne
        intro j u hu
        simp [entCells] at hu
      · obtain ⟨b, off, e, hc⟩ := hE hne
        cases e
        exact ents_cells hc
    obtain ⟨v', W', hr, h2, h3, _⟩ := run_append_own (P := Tryz.prog) W g0 26 26 110 i0 _ 3 32 Tryz.underlying26 hi hz0 hz1 hz2 rfl (by decide) _ 0 [] hown ad L.length c (entCells L) (entCells_length L) hnews (entCells_one L) (by unfold maxLen; omega) (by omega) (Nat.le_of_lt h0.lt)
    rw [Nat.zero_add, List.nil_append] at h2
    exact ⟨v', W', hr, h2, h3⟩
  | none =>
    have hne : L = [] := by
      by_cases hne : L = []
      · exact hne
      · obtain ⟨b, off, e, _⟩ := hE hne
        cases e
    subst hne
    refine ⟨.slice (some ⟨g0, 0, none⟩) 0 0, W, ?_, hown, World.grownBy.refl _ _⟩
    simp [Builtin.append_, run_underlying Tryz.underlying26, sizeOf, typeInfo, hi, Builtin.lenOf, Builtin.firstCells, storeCells]
/-- nothing behind an empty list -/
theorem append_nothing {W : World} {g0 : Nat} (vo : Option Addr) (c : Nat) : (Builtin.append_ #[26, 26] 26 #[.slice (some ⟨g0, 0, none⟩) 0 0, .slice vo 0 c]).run Tryz.prog W = .ok (.slice (some ⟨g0, 0, none⟩) 0 0) W := by
  obtain ⟨i0, hi, hz0, hz1, hz2⟩ := info_parts toEnt_info
  have hl : ∀ (x : Addr), (loadCells x 0).run Tryz.prog W = .ok #[] W := fun x => by simpa using run_loadCells_list (P := Tryz.prog) W x [] (by simp)
  cases vo <;> simp [Builtin.append_, run_underlying Tryz.underlying26, sizeOf, typeInfo, hi, Builtin.lenOf, Builtin.firstCells, storeCells, hl]
theorem wpList_append_zero {w : World} {ops : Array Oper} {rest : List Oper} {o : Oper} {a : Act} {Q : Exit → Act → World → Prop} (hgd : o.guard = none) (s x : Operand)
    (ho : o.op = .call { callee := .builtin .append, args := #[s, x], argTypes := #[26, 26] }) (hty : o.type = 26) (g0 : Nat) (vo : Option Addr) (c : Nat) (hs : a.eval s = .slice (some ⟨g0, 0, none⟩) 0 0) (hx : a.eval x = .slice vo 0 c)
    (h : wpList Tryz.prog ops Q rest (a.put o.dst (.slice (some ⟨g0, 0, none⟩) 0 0)) w) : wpList Tryz.prog ops Q (o :: rest) a w := by
  refine wpList_plain hgd fun K hK => ?_
  have hrun := append_nothing (W := w) (g0 := g0) vo c
  rw [← hty] at hrun
  unfold Oper.wp
  rw [hty] at hrun
  simp [execOp, ho, hty, resolve, invoke, builtin, hs, hx, hrun, Result.andThen]
  exact hK _ _ h
/-- one entry behind a row of the call's own -/
theorem append_one {W : World} {v : Value} {k base g : Nat} {L : List EntD} {d : EntD} (hL : k ≤ 1048576) (hbase : base ≤ W.heap.size) (hr : W.ownsRow base 110 3 v k (entCells L)) (hg : BlockIs W g 110 (entEnc d)) :
    ∃ v' W', (Builtin.append_ #[26, 26] 26 #[v, .slice (some ⟨g, 0, none⟩) 1 1]).run Tryz.prog W = .ok v' W' ∧ W'.ownsRow base 110 3 v' (k + 1) (entCells L ++ entEnc d) ∧ W.grownBy W' v.ownBlock := by
  obtain ⟨i0, hi, hz0, hz1, hz2⟩ := info_parts toEnt_info
  have hnews : ∀ j u, (entEnc d)[j]? = some u → W.cell? ((⟨g, 0, none⟩ : Addr).add j) = some u := by
    intro j u hu
    rw [Addr.add_lit, Nat.zero_add]
    exact hg.cell hu
  have hone : ∀ u ∈ entEnc d, u.oneCell' = true := by
    intro u hu
    simp only [entEnc, List.mem_cons, List.not_mem_nil, or_false] at hu
    rcases hu with rfl | rfl | rfl <;> rfl
  obtain ⟨v', W', h1, h2, h3, _⟩ := run_append_own (P := Tryz.prog) W base 26 26 110 i0 _ 3 32 Tryz.underlying26 hi hz0 hz1 hz2 rfl (by decide) v k _ hr ⟨g, 0, none⟩ 1 1 (entEnc d) rfl hnews hone (by unfold maxLen; omega) (by omega) hbase
  exact ⟨v', W', h1, h2, h3⟩
end Go.Proofs.YtbifkpkhpaellaaGreatDoor

namespace Go.Proofs.YtbifkpkhpaellaaGreatDoor
open Go

theorem grown_draws (w : World) (r : Option Nat) (n : Nat) : w.grownBy (w.drewN n) r := ⟨rfl, rfl, rfl, Nat.le_refl _, fun _ _ _ => rfl⟩
end Go.Proofs.YtbifkpkhpaellaaGreatDoor

namespace Go.Proofs.YtbifkpkhpaellaaGreatDoor
open Go.RowKit

theorem take_one (s : ByteArray) (k : Nat) (h : k < s.size) : s.data.toList.take (k + 1) = s.data.toList.take k ++ [s[k]] := by
  rw [List.take_succ_eq_append_getElem (by simpa using h)]; rfl

theorem ret_u32 {a b : Nat} (h : a = b) : Ending.returned (.int .u32 a) = .returned (.int .u32 b) := by rw [h]

end Go.Proofs.YtbifkpkhpaellaaGreatDoor

namespace Go.Proofs.YtbifkpkhpaellaaGreatDoor
open Go.RowKit

theorem unframe_info9 : (Tryz.prog.info? 9).map (fun i => (i.zero, i.size, i.bytes)) = some (some (.string ByteArray.empty), 1, 16) := by kernel_rfl

/-- what both answer -/
def unframeAns (s : ByteArray) (w : World) (e : Ending) (w' : World) : Prop :=
  ∃ v, e = .returned (.tuple #[v, .int .i64 (ufE s)]) ∧ w'.ownsRow w.heap.size 9 1 v (ufT s).length (st (ufT s)) ∧ Below w.heap.size w w'

theorem unframe_done {s : ByteArray} {pre : List (Nat × Nat)} {k : Nat} {v : Value} {w w' : World} (hs : s.size ≤ 20000) (hall : ufs s 0 = pre) (hk : k = endOf pre) (ho : w'.ownsRow w.heap.size 9 1 v pre.length (st (recs s pre))) (hb : Below w.heap.size w w') :
    unframeAns s w (.returned (.tuple #[v, .int .i64 k])) w' := by
  subst hall hk
  refine ⟨v, ?_, ?_, hb⟩
  · rw [ufE, if_neg (by omega)]
  · rw [ufT, if_neg (by omega), recs_length]; exact ho

theorem unframe_step {s : ByteArray} {w wr wq w1 : World} {v v' : Value} {B : Obj} {pre : List (Nat × Nat)} {a b : Nat} (hown : wq.ownsRow w.heap.size 9 1 v pre.length (st (recs s pre)))
    (hown' : w1.ownsRow w.heap.size 9 1 v' (pre.length + 1) (st (recs s pre) ++ [.string (s.extract a b)])) (hgrow : (wq.alloc B).grownBy w1 v.ownBlock) (hb : Below w.heap.size w wr) (hb2 : Below wr.heap.size wr wq) :
    w1.ownsRow w.heap.size 9 1 v' (pre ++ [(a, b)]).length (st (recs s (pre ++ [(a, b)]))) ∧ Below w.heap.size w w1 := by
  have hbq := hb.trans (hb2.mono hb.size)
  refine ⟨?_, (hbq.alloc hbq.size _).grown hgrow (by have := hbq.size; simp; omega) (fun k hk => (hown.lt k hk).1)⟩
  rw [recs_snoc, st_append]
  simpa [st] using hown'

theorem kept_onS {w w2 : World} {base : Nat} {e : TypeId} {v : Value} {n : Nat} {xs : List Value} (h : w.ownsRow base e 1 v n xs) (hb : Below w.heap.size w w2) : w2.ownsRow base e 1 v n xs := by
  refine h.kept (grown_of_below hb none) ?_
  cases v.ownBlock with
  | none => exact Or.inl rfl
  | some g => exact Or.inr (by simp)
end Go.Proofs.YtbifkpkhpaellaaGreatDoor

namespace Go.Proofs.YtbifkpkhpaellaaGreatDoor
open Go.RowKit

/-- an act as data -/
structure ActD where
  kind : Int
  name : ByteArray
  text : ByteArray
  to : ByteArray
def ActD.value (a : ActD) : Value := .agg #[.int .i64 a.kind, .string a.name, .string a.text, .string a.to]
def actEnc (a : ActD) : List Value := [.int .i64 a.kind, .string a.name, .string a.text, .string a.to]
def ActD.bulk (a : ActD) : Int := a.name.size + a.text.size + a.to.size
def ActD.Fits (a : ActD) : Prop := a.name.size ≤ 9223372036854775807 ∧ a.text.size ≤ 9223372036854775807 ∧ a.to.size ≤ 9223372036854775807
end Go.Proofs.YtbifkpkhpaellaaGreatDoor

namespace Go.Proofs.YtbifkpkhpaellaaGreatDoor
open Go.RowKit

/-- acts lie at an address, one behind the other -/
def ActsAt (w : World) (ao : Option Addr) (acts : List ActD) : Prop :=
  acts ≠ [] → ∃ b off, ao = some ⟨b, off, none⟩ ∧ ∀ j (hj : j < acts.length), w.cell? ⟨b, off + j * 4, none⟩ = some (.int .i64 acts[j].kind) ∧ w.cell? ⟨b, off + j * 4 + 1, none⟩ = some (.string acts[j].name) ∧ w.cell? ⟨b, off + j * 4 + 2, none⟩ = some (.string acts[j].text) ∧ w.cell? ⟨b, off + j * 4 + 3, none⟩ = some (.string acts[j].to)
theorem ActsAt.on {w w' : World} {ao : Option Addr} {acts : List ActD} (h : ActsAt w ao acts) (hb : Below w.heap.size w w') : ActsAt w' ao acts := by
  intro h0
  obtain ⟨b, off, e1, e2⟩ := h h0
  refine ⟨b, off, e1, fun j hj => ?_⟩
  obtain ⟨x, y, z, u⟩ := e2 j hj
  exact ⟨(hb.cell (p := ⟨b, off + j * 4, none⟩) (World.block_lt_of_cell? w _ x)).trans x, (hb.cell (p := ⟨b, off + j * 4 + 1, none⟩) (World.block_lt_of_cell? w _ y)).trans y, (hb.cell (p := ⟨b, off + j * 4 + 2, none⟩) (World.block_lt_of_cell? w _ z)).trans z, (hb.cell (p := ⟨b, off + j * 4 + 3, none⟩) (World.block_lt_of_cell? w _ u)).trans u⟩
end Go.Proofs.YtbifkpkhpaellaaGreatDoor

namespace Go.Proofs.YtbifkpkhpaellaaGreatDoor
open Go.RowKit

def actCells (acts : List ActD) : List Value := acts.flatMap actEnc
theorem actCells_length (acts : List ActD) : (actCells acts).length = acts.length * 4 := row_length actEnc 4 (fun _ => rfl) acts
theorem actCells_take (acts : List ActD) (k : Nat) (h : k < acts.length) : actCells (acts.take (k + 1)) = actCells (acts.take k) ++ actEnc acts[k] := by
  rw [List.take_succ_eq_append_getElem h, actCells, actCells, List.flatMap_append]
  simp
theorem actsAt_of {w : World} {g : Nat} {t : TypeId} {acts : List ActD} {r : List Value} (h : BlockIs w g t (actCells acts ++ r)) : ActsAt w (some ⟨g, 0, none⟩) acts := by
  intro _
  refine ⟨g, 0, rfl, fun j hj => ?_⟩
  rw [Nat.zero_add]
  exact ⟨h.cell (row_at actEnc 4 (fun _ => rfl) acts r j 0 hj (by omega)), h.cell (row_at actEnc 4 (fun _ => rfl) acts r j 1 hj (by omega)), h.cell (row_at actEnc 4 (fun _ => rfl) acts r j 2 hj (by omega)), h.cell (row_at actEnc 4 (fun _ => rfl) acts r j 3 hj (by omega))⟩
theorem acts_of {w : World} {g : Nat} {t : TypeId} {acts : List ActD} (h : BlockIs w g t (actCells acts)) : ActsAt w (some ⟨g, 0, none⟩) acts := actsAt_of (r := []) (by rw [List.append_nil]; exact h)
end Go.Proofs.YtbifkpkhpaellaaGreatDoor

namespace Go.Proofs.YtbifkpkhpaellaaGreatDoor
open Go.RowKit

theorem actR_info : (Tryz.prog.info? 57).map (fun i => (i.zero, i.size, i.bytes)) = some (some (.agg #[.int .i64 0, .string ByteArray.empty, .string ByteArray.empty, .string ByteArray.empty]), 4, 56) := by kernel_rfl
theorem actR_one (a : ActD) : ∀ u ∈ actEnc a, u.oneCell' = true := by
  intro u hu
  simp only [actEnc, List.mem_cons, List.not_mem_nil, or_false] at hu
  rcases hu with rfl | rfl | rfl | rfl <;> rfl
theorem actR_all (l : List ActD) : ∀ u ∈ actCells l, u.oneCell' = true := by
  intro u hu
  obtain ⟨a, _, h⟩ := List.mem_flatMap.1 hu
  exact actR_one a u h
theorem actR_snoc (l : List ActD) (a : ActD) : actCells (l ++ [a]) = actCells l ++ actEnc a := by simp [actCells]
theorem actR_append (l m : List ActD) : actCells (l ++ m) = actCells l ++ actCells m := by simp [actCells]
theorem actR_below {w w2 : World} {base n : Nat} {v : Value} {xs : List Value} (h : w.ownsRow base 57 4 v n xs) (hb : Below w.heap.size w w2) : w2.ownsRow base 57 4 v n xs := by
  refine h.kept (grown_of_below hb none) ?_
  cases v.ownBlock with
  | none => exact Or.inl rfl
  | some g => exact Or.inr (by simp)
theorem actR_block {w : World} {base n j : Nat} {v : Value} {xs : List Value} (h : w.ownsRow base 57 4 v n xs) (hv : v.ownBlock = some j) : base ≤ j ∧ ∃ cs, BlockIs w j 57 cs := by
  rcases h.2 with ⟨rfl, _⟩ | ⟨g, cap, cur, rfl, hb, hh, _⟩
  · simp [Value.ownBlock] at hv
  · have : g = j := by simpa [Value.ownBlock] using hv
    subst this
    exact ⟨hb, cur.toList, by unfold BlockIs; rw [hh]⟩
/-- a block of another type stands where a row of acts grows -/
theorem blk_row {w w1 : World} {base n g : Nat} {t : TypeId} {v : Value} {xs cs : List Value} (h : BlockIs w g t cs) (hr : w.ownsRow base 57 4 v n xs) (hg : w.grownBy w1 v.ownBlock) (ht : t ≠ 57) : BlockIs w1 g t cs := by
  have hlt := h.lt
  have h0 := h
  unfold BlockIs at h ⊢
  rw [hg.block g hlt ?_]
  · exact h
  · intro e
    obtain ⟨_, cs2, h2⟩ := actR_block hr e.symm
    unfold BlockIs at h2
    rw [h] at h2
    simp only [Option.some.injEq, Obj.cells.injEq] at h2
    exact ht h2.2.1
theorem below_row {w w1 w2 : World} {m base n : Nat} {v : Value} {xs : List Value} (h : Below m w w1) (hr : w1.ownsRow base 57 4 v n xs) (hg : w1.grownBy w2 v.ownBlock) (hb : m ≤ base) (hm : m ≤ w1.heap.size) : Below m w w2 :=
  h.grown hg hm (fun k e => by have := (actR_block hr e).1; omega)
theorem actR_nil (w : World) (m : Nat) (hm : m ≤ w.heap.size) : World.ownsRow (w.alloc (.cells #[] 57)) m 57 4 (.slice (some ⟨w.heap.size, 0, none⟩) 0 0) 0 (actCells []) :=
  row_down (World.ownsRow_made w (size := 4) (e := 57) #[] 0 (Nat.le_refl _) (Nat.zero_le _) rfl) hm
/-- a row of acts that is laid at once -/
theorem actR_made {W : World} {g m : Nat} {A : List ActD} (h : BlockIs W g 57 (actCells A)) (hm : m ≤ g) (hl : A.length ≤ 1000000) : W.ownsRow m 57 4 (.slice (some ⟨g, 0, none⟩) A.length A.length) A.length (actCells A) :=
  ⟨actCells_length A, Or.inr ⟨g, A.length, (actCells A).toArray, rfl, hm, h, Nat.le_refl _, by unfold maxLen; omega, by simp [actCells_length], by rw [List.toList_toArray, List.take_of_length_le (by rw [actCells_length]; exact Nat.le_refl _)]⟩⟩
/-- an act that is laid by itself -/
theorem actR_new (w : World) (a : ActD) : ∀ j u, (actEnc a)[j]? = some u → (w.alloc (.cells #[.int .i64 a.kind, .string a.name, .string a.text, .string a.to] 57)).cell? ((⟨w.heap.size, 0, none⟩ : Addr).add j) = some u := by
  intro j u hu
  rw [Addr.add_lit, Nat.zero_add]
  exact (show BlockIs _ _ 57 (actEnc a) from heap_alloc_new w _).cell hu
/-- acts behind a row of the call's own -/
theorem append_acts {W : World} {v : Value} {base base2 c : Nat} {L M : List ActD} {ao : Option Addr} (hn : L.length + M.length ≤ 2097152) (hbase : base ≤ W.heap.size) (hr : W.ownsRow base 57 4 v L.length (actCells L)) (hM : W.ownsRow base2 57 4 (.slice ao M.length c) M.length (actCells M)) :
    ∃ v' W', (Builtin.append_ #[31, 31] 31 #[v, .slice ao M.length c]).run Tryz.prog W = .ok v' W' ∧ W'.ownsRow base 57 4 v' (L ++ M).length (actCells (L ++ M)) ∧ W.grownBy W' v.ownBlock := by
  obtain ⟨i0, hi, hz0, hz1, hz2⟩ := info_parts actR_info
  rw [List.length_append, actR_append]
  rcases hM.2 with ⟨hv, h0⟩ | ⟨g, cp, cur, hv, hgb, hh, hle, hmx, hsz, ht⟩
  · have hM0 : M = [] := List.eq_nil_of_length_eq_zero h0
    subst hM0
    simp only [Value.slice.injEq] at hv
    obtain ⟨rfl, _, rfl⟩ := hv
    refine ⟨v, W, ?_, by simpa [actCells] using hr, World.grownBy.refl _ _⟩
    obtain ⟨va, vc, rfl⟩ := row_shape hr
    have hlc : L.length ≤ vc := by
      rcases hr.2 with ⟨hq, hz⟩ | ⟨_, cp, _, hq, _, _, hle, _⟩
      · omega
      · simp only [Value.slice.injEq] at hq
        omega
    cases va <;> simp [Builtin.append_, run_underlying Tryz.underlying31, sizeOf, typeInfo, hi, Builtin.lenOf, Builtin.firstCells, storeCells, hlc]
  · simp only [Value.slice.injEq] at hv
    obtain ⟨rfl, _, rfl⟩ := hv
    have hnews : ∀ j u, (actCells M)[j]? = some u → W.cell? ((⟨g, 0, none⟩ : Addr).add j) = some u := by
      intro j u hu
      rw [Addr.add_lit, Nat.zero_add]
      have hb : BlockIs W g 57 cur.toList := by unfold BlockIs; rw [hh]
      refine hb.cell ?_
      rw [← ht] at hu
      have hj : j < M.length * 4 := by
        have := (List.getElem?_eq_some_iff.1 hu).1
        rw [List.length_take] at this
        omega
      rw [List.getElem?_take_of_lt hj] at hu
      exact hu
    obtain ⟨v', W', h1, h2, h3, _⟩ := run_append_own (P := Tryz.prog) W base 31 31 57 i0 _ 4 56 Tryz.underlying31 hi hz0 hz1 hz2 rfl (by decide) v L.length _ hr ⟨g, 0, none⟩ M.length c (actCells M) (actCells_length M) hnews (actR_all M) (by unfold maxLen; omega) (by omega) hbase
    exact ⟨v', W', h1, h2, h3⟩
theorem wpList_append_acts {w : World} {ops : Array Oper} {rest : List Oper} {o : Oper} {a : Act} {Q : Exit → Act → World → Prop} (hgd : o.guard = none) (s x : Operand)
    (ho : o.op = .call { callee := .builtin .append, args := #[s, x], argTypes := #[31, 31] }) (hty : o.type = 31) {v : Value} {base base2 c m N : Nat} {L M : List ActD} {ao : Option Addr} (hs : a.eval s = v) (hx : a.eval x = .slice ao m c)
    (hm : M.length = m) (hN : (L ++ M).length = N) (hn : N ≤ 2097152) (hbase : base ≤ w.heap.size) (hr : w.ownsRow base 57 4 v L.length (actCells L)) (hM : w.ownsRow base2 57 4 (.slice ao m c) m (actCells M))
    (h : ∀ va vc w1, w1.ownsRow base 57 4 (.slice va N vc) N (actCells (L ++ M)) → w.grownBy w1 v.ownBlock → wpList Tryz.prog ops Q rest (a.put o.dst (.slice va N vc)) w1) : wpList Tryz.prog ops Q (o :: rest) a w := by
  subst hm hN
  obtain ⟨v', W', hrun, h2, h3⟩ := append_acts (c := c) (by rw [← List.length_append]; exact hn) hbase hr hM
  obtain ⟨va, vc, rfl⟩ := row_shape h2
  refine wpList_plain hgd fun K hK => ?_
  unfold Oper.wp
  simp [execOp, ho, hty, resolve, invoke, builtin, hs, hx, hrun, Result.andThen]
  have h4 := h va vc W' h2 h3
  rw [List.length_append] at h4
  exact hK _ _ h4

/-- an act that drops a file -/
def dropA (name : ByteArray) : ActD := ⟨4, name, ⟨#[]⟩, ⟨#[]⟩⟩
/-- the acts that drop the files of some names -/
def dropsOf (p : ByteArray → Bool) (l : List FileD) : List ActD := (l.filter fun f => p f.name).map fun f => dropA f.name
theorem dropsOf_step {p : ByteArray → Bool} {l : List FileD} {k : Nat} (hk : k < l.length) : dropsOf p (l.take (k + 1)) = if p l[k].name = true then dropsOf p (l.take k) ++ [dropA l[k].name] else dropsOf p (l.take k) := by
  unfold dropsOf
  rw [List.take_succ_eq_append_getElem hk, List.filter_append, List.map_append]
  by_cases h : p l[k].name = true
  · simp [h]
  · simp [h]
theorem dropsOf_length (p : ByteArray → Bool) (l : List FileD) : (dropsOf p l).length ≤ l.length := by
  unfold dropsOf
  rw [List.length_map]
  exact List.length_filter_le _ _
end Go.Proofs.YtbifkpkhpaellaaGreatDoor

namespace Go.Proofs.YtbifkpkhpaellaaGreatDoor
open Go.RowKit

/-- where a short text that is read at a begins and ends -/
def rs (s : ByteArray) (a : Int) : Option (Nat × Nat) :=
  if 0 ≤ a ∧ a ≤ s.size then
    (match rv (s.data.toList.drop a.toNat) with
    | none => none
    | some (n, c) => if n ≤ 20000 ∧ a.toNat + c + n ≤ s.size then some (a.toNat + c, a.toNat + c + n) else none)
  else none

def rsAns (s : ByteArray) : Option (Nat × Nat) → Value
  | none => .tuple #[.string ByteArray.empty, .int .i64 0, .bool false]
  | some (b, e) => .tuple #[.string (s.extract b e), .int .i64 e, .bool true]

theorem rs_out {s : ByteArray} {a : Int} (h : a < 0 ∨ (s.size : Int) < a) : rs s a = none := by
  unfold rs; rw [if_neg (by omega)]
theorem rs_none {s : ByteArray} {a : Nat} (ha : a ≤ s.size) (h : rv (s.data.toList.drop a) = none) : rs s a = none := by
  unfold rs; rw [if_pos (by omega)]; simp [h]
theorem rs_big {s : ByteArray} {a n c : Nat} (ha : a ≤ s.size) (h : rv (s.data.toList.drop a) = some (n, c)) (hb : ¬ (n ≤ 20000 ∧ a + c + n ≤ s.size)) : rs s a = none := by
  unfold rs; rw [if_pos (by omega)]; simp only [Int.toNat_natCast, h]; rw [if_neg hb]
theorem rs_yes {s : ByteArray} {a n c : Nat} (ha : a ≤ s.size) (h : rv (s.data.toList.drop a) = some (n, c)) (hb : n ≤ 20000 ∧ a + c + n ≤ s.size) : rs s a = some (a + c, a + c + n) := by
  unfold rs; rw [if_pos (by omega)]; simp only [Int.toNat_natCast, h]; rw [if_pos hb]
theorem rv_fits {s : ByteArray} {a n c : Nat} (ha : a ≤ s.size) (h : rv (s.data.toList.drop a) = some (n, c)) : n ≤ 1000000000 ∧ 0 < c ∧ a + c ≤ s.size := by
  have h1 := rvFrom_some h
  have h2 : s.data.toList.length = s.size := by simp
  simp only [List.length_drop, List.length_nil, h2] at h1
  omega
end Go.Proofs.YtbifkpkhpaellaaGreatDoor

namespace Go.Proofs.YtbifkpkhpaellaaGreatDoor
open Go.RowKit

/-- the sealed text -/
def sealOf (s : ByteArray) : ByteArray := s ++ ⟨(four (sumOf s.data.toList)).toArray⟩

theorem sealOf_list (s : ByteArray) : (sealOf s).data.toList = s.data.toList ++ four (sumOf s.data.toList) := by
  rw [sealOf, ByteArray.data_append, Array.toList_append]
theorem sealOf_size (s : ByteArray) : (sealOf s).size = s.size + 4 := by
  rw [sealOf, ByteArray.size_append]
  rfl
theorem sealOf_uns {s : ByteArray} (h : s.size ≤ 20000) : Uns (sealOf s) := by
  refine ⟨by rw [sealOf_size]; omega, by rw [sealOf_size]; omega, ?_⟩
  have e : (sealOf s).size - 4 = s.data.toList.length := by rw [sealOf_size]; simp
  rw [e, sealOf_list, List.take_left, List.drop_left]
theorem sealOf_head (s : ByteArray) : (sealOf s).extract 0 ((sealOf s).size - 4) = s := by
  apply ByteArray.ext
  apply Array.toList_inj.1
  have e : (sealOf s).size - 4 = s.data.toList.length := by rw [sealOf_size]; simp
  rw [head_list, e, sealOf_list, List.take_left]

/-- a sealed text with one byte turned is none -/
theorem turned_not {s t : ByteArray} {k : Nat} {b : UInt8} (hk : k < (sealOf s).size) (hb : b ≠ (sealOf s).data.toList[k]'(by simpa using hk)) (ht : t.data.toList = (sealOf s).data.toList.set k b) : ¬ Uns t := by
  intro h
  have hkl : k < (sealOf s).data.toList.length := by simpa using hk
  obtain ⟨L, hL⟩ : ∃ L, (sealOf s).data.toList = L := ⟨_, rfl⟩
  have h1 := sealOf_list s
  simp only [hL] at hb hkl ht h1
  obtain ⟨_, _, h3⟩ := h
  have h4 := List.take_append_drop (t.size - 4) t.data.toList
  rw [h3] at h4
  refine hb ?_
  refine (seal_turned s.data.toList (t.data.toList.take (t.size - 4)) (L.take k) (L.drop (k + 1)) L[k] b ?_ ?_).symm
  · rw [← h1]
    rw [List.getElem_cons_drop hkl, List.take_append_drop]
  · rw [h4, ht, List.set_eq_take_append_cons_drop, if_pos hkl]

/-- with one byte turned it is no sealed text -/
def TurnsNot (Q : ByteArray) : Prop := ∀ (t : ByteArray) (k : Nat) (b : UInt8) (hk : k < Q.size), b ≠ Q[k] → t.data.toList = Q.data.toList.set k b → ¬ Uns t
theorem sealOf_turns (s : ByteArray) : TurnsNot (sealOf s) := fun _ _ _ hk hb ht => turned_not hk (fun h => hb (h.trans rfl)) ht
end Go.Proofs.YtbifkpkhpaellaaGreatDoor

namespace Go.Proofs.YtbifkpkhpaellaaGreatDoor
open Go.RowKit

/-- a snapshot: its index, its term, its conf, its body -/
abbrev snapV (ix tm : Int) (v : Value) (bd : ByteArray) : Value := .agg #[.int .i64 ix, .int .i64 tm, v, .string bd]
/-- a short text with its length ahead -/
def shortT (s : ByteArray) : ByteArray := ⟨(vb s.size).toArray⟩ ++ s
/-- what is sealed of a snapshot -/
def snapIn (ix tm : Nat) (zs : List Int) (bd : ByteArray) : ByteArray := ⟨(vb ix).toArray⟩ ++ ⟨(vb tm).toArray⟩ ++ shortT ⟨(confBytes zs).toArray⟩ ++ shortT bd
def snapOk (ix tm : Int) (zs : List Int) (bd : ByteArray) : Bool := confOk zs && (within ix 0 1000000 && within tm 0 100000) && decide ((snapIn ix.toNat tm.toNat zs bd).size ≤ 19996)
def snapText (ix tm : Int) (zs : List Int) (bd : ByteArray) : ByteArray × Bool := if snapOk ix tm zs bd = true then (sealOf (snapIn ix.toNat tm.toNat zs bd), true) else (ByteArray.empty, false)

theorem snapOk_iff {ix tm : Int} {zs : List Int} {bd : ByteArray} : snapOk ix tm zs bd = true ↔ confOk zs = true ∧ ((0 ≤ ix ∧ ix ≤ 1000000) ∧ (0 ≤ tm ∧ tm ≤ 100000)) ∧ (snapIn ix.toNat tm.toNat zs bd).size ≤ 19996 := by
  simp only [snapOk, Bool.and_eq_true, within_iff, decide_eq_true_eq, and_assoc]
theorem snapText_no {ix tm : Int} {zs : List Int} {bd : ByteArray} (h : ¬ snapOk ix tm zs bd = true) : snapText ix tm zs bd = (ByteArray.empty, false) := by rw [snapText, if_neg h]
theorem snapText_yes {ix tm : Int} {zs : List Int} {bd : ByteArray} (h : snapOk ix tm zs bd = true) : snapText ix tm zs bd = (sealOf (snapIn ix.toNat tm.toNat zs bd), true) := by rw [snapText, if_pos h]
theorem shortT_size (s : ByteArray) : (shortT s).size = (vb s.size).length + s.size := by
  rw [shortT, ByteArray.size_append]
  rfl
theorem snapIn_size (ix tm : Nat) (zs : List Int) (bd : ByteArray) : (snapIn ix tm zs bd).size = (vb ix).length + (vb tm).length + (shortT ⟨(confBytes zs).toArray⟩).size + (shortT bd).size := by
  rw [snapIn, ByteArray.size_append, ByteArray.size_append, ByteArray.size_append]
  rfl
theorem snapText_conf {ix tm : Int} {zs : List Int} {bd : ByteArray} (h : confOk zs = false) : snapText ix tm zs bd = (ByteArray.empty, false) := snapText_no (by rw [snapOk_iff, h]; simp)
theorem snapText_ix {ix tm : Int} {zs : List Int} {bd : ByteArray} (h : within ix 0 1000000 = false) : snapText ix tm zs bd = (ByteArray.empty, false) := snapText_no (by rw [snapOk, h]; simp)
theorem snapText_tm {ix tm : Int} {zs : List Int} {bd : ByteArray} (h : within tm 0 100000 = false) : snapText ix tm zs bd = (ByteArray.empty, false) := snapText_no (by rw [snapOk, h]; simp)
theorem snapText_big {ix tm : Int} {zs : List Int} {bd : ByteArray} (h : 20000 < bd.size) : snapText ix tm zs bd = (ByteArray.empty, false) := snapText_no (by
  rw [snapOk_iff]
  rintro ⟨_, _, h3⟩
  rw [snapIn_size, shortT_size bd] at h3
  omega)
theorem snapText_long {ix tm : Int} {zs : List Int} {bd : ByteArray} (h : 19996 < (snapIn ix.toNat tm.toNat zs bd).size) : snapText ix tm zs bd = (ByteArray.empty, false) := snapText_no (by
  rw [snapOk_iff]
  rintro ⟨_, _, h3⟩
  omega)
theorem vb_short {n : Nat} (h : n ≤ 1000000) : (vb n).length ≤ 3 := by
  rcases Nat.lt_or_ge 127 n with h1 | h1
  · rw [vb_big h1]
    rcases Nat.lt_or_ge 127 (n / 128) with h2 | h2
    · rw [vb_big h2, vb_small (show n / 128 / 128 ≤ 127 by omega)]
      simp
    · rw [vb_small h2]
      simp
  · rw [vb_small h1]
    simp
theorem confBytes_size (zs : List Int) : (⟨(confBytes zs).toArray⟩ : ByteArray).size = zs.length := by
  show (confBytes zs).toArray.size = _
  rw [List.size_toArray, confBytes_length]
/-- how long what is sealed is, at the most -/
theorem snapIn_le {ix tm : Nat} {zs : List Int} {bd : ByteArray} (h1 : ix ≤ 1000000) (h2 : tm ≤ 1000000) (h3 : zs.length ≤ 1000000) (h4 : bd.size ≤ 1000000) : (snapIn ix tm zs bd).size ≤ 12 + zs.length + bd.size := by
  rw [snapIn_size, shortT_size, shortT_size, confBytes_size]
  have a := vb_short h1
  have b := vb_short h2
  have c := vb_short h3
  have d := vb_short h4
  omega
end Go.Proofs.YtbifkpkhpaellaaGreatDoor

namespace Go.Proofs.YtbifkpkhpaellaaGreatDoor
open Go.RowKit

structure SnapD where
  ix : Nat
  tm : Nat
  conf : List Int
  body : ByteArray

/-- what is read of what was sealed -/
def readSnapIn (t : ByteArray) : Option SnapD :=
  match rv (t.data.toList.drop 0) with
  | none => none
  | some (ix, c1) => if 1000000 < ix then none else
    match rv (t.data.toList.drop c1) with
    | none => none
    | some (tm, c2) => if 100000 < tm then none else
      match rs t ((c1 + c2 : Nat) : Int) with
      | none => none
      | some (a, b) => if confOk (intsOf (t.extract a b).data.toList) = true then
          match rs t (b : Int) with
          | none => none
          | some (a', b') => if b' = t.size then some ⟨ix, tm, intsOf (t.extract a b).data.toList, t.extract a' b'⟩ else none
        else none
/-- a text that is sealed, and no longer than a text may be -/
def snapSealed (s : ByteArray) : Bool := decide (4 ≤ s.size ∧ s.size ≤ 20000 ∧ s.data.toList.drop (s.size - 4) = four (sumOf (s.data.toList.take (s.size - 4))))
theorem snapSealed_iff {s : ByteArray} : snapSealed s = true ↔ Uns s ∧ s.size ≤ 20000 := by
  rw [snapSealed, decide_eq_true_eq, Uns]
  constructor
  · rintro ⟨h1, h2, h3⟩
    exact ⟨⟨h1, by omega, h3⟩, h2⟩
  · rintro ⟨⟨h1, _, h3⟩, h2⟩
    exact ⟨h1, h2, h3⟩
def readSnap (s : ByteArray) : Option SnapD := if snapSealed s = true then readSnapIn (s.extract 0 (s.size - 4)) else none

def takeStN (s : ByteArray) (n : Nat) : Option Nat → Option Nat
  | none => none
  | some k => if k + n ≤ s.size then some (k + n) else none
def takeTxtN (s : ByteArray) (n : Nat) : Option Nat → ByteArray
  | none => ByteArray.empty
  | some k => if k + n ≤ s.size then s.extract k (k + n) else ByteArray.empty
def varSt' (s : ByteArray) : Option Nat → Option Nat
  | none => none
  | some k => (rv (s.data.toList.drop k)).map fun p => k + p.2
def varNum' (s : ByteArray) : Option Nat → Nat
  | none => 0
  | some k => match rv (s.data.toList.drop k) with
    | none => 0
    | some p => p.1
def shortSt (s : ByteArray) (o : Option Nat) : Option Nat := takeStN s (varNum' s o) (varSt' s o)
def shortTxt (s : ByteArray) (o : Option Nat) : ByteArray := takeTxtN s (varNum' s o) (varSt' s o)

/-- the other way: all is read, and held against what would be written -/
def askSnapIn (text t : ByteArray) (o : Option Nat) : Option SnapD :=
  let o1 := varSt' t o
  let o2 := varSt' t o1
  let o3 := shortSt t o2
  let o4 := shortSt t o3
  let c := (readConf (shortTxt t o2)).1
  let bd := shortTxt t o3
  if o4.isSome = true ∧ snapOk (varNum' t o) (varNum' t o1) c bd = true ∧ sealOf (snapIn (varNum' t o) (varNum' t o1) c bd) = text then some ⟨varNum' t o, varNum' t o1, c, bd⟩ else none

theorem varSt'_none (s : ByteArray) : varSt' s none = none := rfl
theorem shortSt_none (s : ByteArray) : shortSt s none = none := rfl
theorem ask_none (text t : ByteArray) : askSnapIn text t none = none := by
  unfold askSnapIn
  simp [varSt', shortSt, takeStN]

theorem short_read {s : ByteArray} {k : Nat} (hk : k ≤ s.size) (hs : s.size ≤ 20000) : rs s (k : Int) = (match shortSt s (some k) with | none => none | some e => some (e - (shortTxt s (some k)).size, e)) ∧
    ∀ a b, rs s (k : Int) = some (a, b) → shortSt s (some k) = some b ∧ shortTxt s (some k) = s.extract a b ∧ a ≤ b ∧ b ≤ s.size ∧ k ≤ a ∧ s.data.toList.drop k = (shortT (s.extract a b)).data.toList ++ s.data.toList.drop b := by
  cases h : rv (s.data.toList.drop k) with
  | none =>
    rw [rs_none hk h]
    refine ⟨by simp [shortSt, varSt', h, takeStN], fun a b e => by cases e⟩
  | some p =>
    obtain ⟨n, c⟩ := p
    have hf := rv_fits hk h
    have e1 : shortSt s (some k) = if k + c + n ≤ s.size then some (k + c + n) else none := by simp [shortSt, varSt', varNum', h, takeStN]
    have e2 : shortTxt s (some k) = if k + c + n ≤ s.size then s.extract (k + c) (k + c + n) else ByteArray.empty := by simp [shortTxt, varSt', varNum', h, takeTxtN]
    by_cases hb : k + c + n ≤ s.size
    · rw [rs_yes hk h ⟨by omega, hb⟩, e1, e2, if_pos hb, if_pos hb]
      have hz : (s.extract (k + c) (k + c + n)).size = n := by rw [ByteArray.size_extract]; omega
      refine ⟨by simp only [hz]; congr 2; omega, ?_⟩
      rintro a b e
      simp only [Option.some.injEq, Prod.mk.injEq] at e
      obtain ⟨rfl, rfl⟩ := e
      refine ⟨rfl, rfl, by omega, hb, by omega, ?_⟩
      obtain ⟨l1, l2⟩ := rv_text h
      rw [List.drop_drop] at l2
      rw [shortT, hz, ByteArray.data_append, Array.toList_append, List.append_assoc]
      show _ = vb n ++ _
      conv => lhs; rw [l2]
      congr 1
      rw [extract_eq, show k + c + n - (k + c) = n by omega]
      conv => lhs; rw [← List.take_append_drop n (s.data.toList.drop (k + c))]
      rw [List.drop_drop]
    · rw [rs_big hk h (by omega), e1, if_neg hb]
      exact ⟨rfl, fun a b e => by cases e⟩

theorem extract_all {s : ByteArray} (h : Uns s) : sealOf (s.extract 0 (s.size - 4)) = s := by
  apply ByteArray.ext
  apply Array.toList_inj.1
  rw [sealOf_list, head_list, ← h.2.2, List.take_append_drop]
theorem sealOf_inj {a b : ByteArray} (h : sealOf a = sealOf b) : a = b := by
  have h1 := sealOf_head a
  have h2 := sealOf_head b
  rw [h] at h1
  exact h1.symm.trans h2

theorem conf_back (s : ByteArray) : (⟨(confBytes (intsOf s.data.toList)).toArray⟩ : ByteArray) = s := by
  have : confBytes (intsOf s.data.toList) = s.data.toList := by
    simp only [confBytes, intsOf, List.map_map]
    conv => rhs; rw [← List.map_id s.data.toList]
    apply List.map_congr_left
    intro b _
    simp
  rw [this]

/-- both ways are one -/
theorem ask_read {text : ByteArray} (hu : Uns text) (h2 : text.size ≤ 20000) : askSnapIn text (text.extract 0 (text.size - 4)) (some 0) = readSnapIn (text.extract 0 (text.size - 4)) := by
  have hts : (text.extract 0 (text.size - 4)).size = text.size - 4 := by rw [ByteArray.size_extract]; have := hu.1; omega
  have hall := extract_all hu
  obtain ⟨t, ht⟩ : ∃ t, text.extract 0 (text.size - 4) = t := ⟨_, rfl⟩
  rw [ht] at hts hall ⊢
  have hl : t.data.toList.length = t.size := by simp
  unfold readSnapIn
  cases h1 : rv (t.data.toList.drop 0) with
  | none =>
    have o1 : varSt' t (some 0) = none := by rw [varSt', h1]; rfl
    simp only [askSnapIn, o1, varSt'_none, shortSt_none]
    rw [if_neg (by simp)]
  | some p1 =>
    obtain ⟨ix, c1⟩ := p1
    dsimp only
    have f1 := rv_fits (Nat.zero_le _) h1
    obtain ⟨_, x1⟩ := rv_text h1
    rw [List.drop_drop, Nat.zero_add] at x1
    have o1 : varSt' t (some 0) = some c1 := by rw [varSt', h1]; simp
    have n1 : varNum' t (some 0) = ix := by rw [varNum', h1]
    cases h3 : rv (t.data.toList.drop c1) with
    | none =>
      have o2 : varSt' t (some c1) = none := by rw [varSt', h3]; rfl
      simp only [askSnapIn, o1, n1, o2, shortSt_none]
      refine (if_neg (by simp)).trans ?_
      split <;> rfl
    | some p2 =>
      obtain ⟨tm, c2⟩ := p2
      dsimp only
      have f2 := rv_fits (show c1 ≤ t.size by omega) h3
      obtain ⟨_, x2⟩ := rv_text h3
      rw [List.drop_drop] at x2
      have o2 : varSt' t (some c1) = some (c1 + c2) := by rw [varSt', h3]; rfl
      have n2 : varNum' t (some c1) = tm := by rw [varNum', h3]
      have q2 := short_read (s := t) (k := c1 + c2) (by omega) (by omega)
      simp only [askSnapIn, o1, n1, o2, n2]
      cases h4 : rs t ((c1 + c2 : Nat) : Int) with
      | none =>
        have o3 : shortSt t (some (c1 + c2)) = none := by
          have := q2.1
          rw [h4] at this
          cases hx : shortSt t (some (c1 + c2)) with
          | none => rfl
          | some e => rw [hx] at this; cases this
        rw [o3, shortSt_none]
        refine (if_neg (by simp)).trans ?_
        split
        · rfl
        · split <;> rfl
      | some p3 =>
        obtain ⟨a, b⟩ := p3
        dsimp only
        obtain ⟨o3, t3, hab, hb, hka, x3⟩ := q2.2 a b h4
        have q3 := short_read (s := t) (k := b) hb (by omega)
        rw [o3, t3]
        cases hc : confOk (intsOf (t.extract a b).data.toList) with
        | false =>
          rw [readConf_no hc]
          have hn : ∀ x y z, ¬ snapOk x y ([] : List Int) z = true := by
            intro x y z
            rw [snapOk_iff]
            rintro ⟨q, _⟩
            cases q
          refine (if_neg (fun q => hn _ _ _ q.2.1)).trans ?_
          split
          · rfl
          · split <;> rfl
        | true =>
          rw [readConf_yes hc]
          dsimp only
          cases h5 : rs t (b : Int) with
          | none =>
            have o4 : shortSt t (some b) = none := by
              have := q3.1
              rw [h5] at this
              cases hx : shortSt t (some b) with
              | none => rfl
              | some e => rw [hx] at this; cases this
            rw [o4]
            refine (if_neg (by simp)).trans ?_
            split
            · rfl
            · split <;> rfl
          | some p4 =>
            obtain ⟨a', b'⟩ := p4
            dsimp only
            obtain ⟨o4, t4, hab', hb', hka', x4⟩ := q3.2 a' b' h5
            rw [o4, t4]
            have hin : t.data.toList = (snapIn ix tm (intsOf (t.extract a b).data.toList) (t.extract a' b')).data.toList ++ t.data.toList.drop b' := by
              rw [snapIn, conf_back]
              simp only [ByteArray.data_append, Array.toList_append, List.append_assoc]
              show _ = vb ix ++ (vb tm ++ _)
              rw [← x4, ← x3, ← x2, ← x1]
              rfl
            have hsz := congrArg List.length hin
            rw [hl, List.length_append, List.length_drop, hl] at hsz
            have hsi : (snapIn ix tm (intsOf (t.extract a b).data.toList) (t.extract a' b')).data.toList.length = (snapIn ix tm (intsOf (t.extract a b).data.toList) (t.extract a' b')).size := Array.length_toList
            rw [hsi] at hsz
            by_cases hi : 1000000 < ix
            · rw [if_pos hi]
              refine if_neg ?_
              rintro ⟨_, q, _⟩
              have := (snapOk_iff.1 q).2.1
              omega
            · rw [if_neg hi]
              by_cases hm : 100000 < tm
              · rw [if_pos hm]
                refine if_neg ?_
                rintro ⟨_, q, _⟩
                have := (snapOk_iff.1 q).2.1
                omega
              · rw [if_neg hm, if_pos rfl]
                by_cases he : b' = t.size
                · rw [if_pos he]
                  have hsame : snapIn ix tm (intsOf (t.extract a b).data.toList) (t.extract a' b') = t := by
                    apply ByteArray.ext
                    apply Array.toList_inj.1
                    conv => rhs; rw [hin]
                    rw [he, ← hl, List.drop_length, List.append_nil]
                  refine if_pos ⟨rfl, snapOk_iff.2 ⟨hc, ⟨⟨by omega, by omega⟩, by omega, by omega⟩, ?_⟩, ?_⟩
                  · simp only [Int.toNat_natCast]
                    rw [hsame]
                    omega
                  · rw [hsame, hall]
                · rw [if_neg he]
                  refine if_neg ?_
                  rintro ⟨_, _, q⟩
                  rw [← hall] at q
                  rw [sealOf_inj q] at hsz
                  omega

/-- what is left to be read behind the two numbers, and behind the conf -/
def readSnapC (t : ByteArray) (ix tm : Nat) (zs : List Int) (y : Nat) : Option SnapD := match rs t (y : Int) with
  | none => none
  | some (a', b') => if b' = t.size then some ⟨ix, tm, zs, t.extract a' b'⟩ else none
def readSnapB (t : ByteArray) (ix tm k : Nat) : Option SnapD := match rs t (k : Int) with
  | none => none
  | some (a, b) => if confOk (intsOf (t.extract a b).data.toList) = true then readSnapC t ix tm (intsOf (t.extract a b).data.toList) b else none
theorem readSnap_sealed {s : ByteArray} (h : Uns s ∧ s.size ≤ 20000) : readSnap s = readSnapIn (s.extract 0 (s.size - 4)) := by rw [readSnap, if_pos (snapSealed_iff.2 h)]
theorem rs_sealed {s : ByteArray} (h : ¬ (Uns s ∧ s.size ≤ 20000)) : readSnap s = none := by rw [readSnap, if_neg (fun q => h (snapSealed_iff.1 q))]
theorem rsi1 {t : ByteArray} (h1 : rv (t.data.toList.drop 0) = none) : readSnapIn t = none := by rw [readSnapIn, h1]
theorem rsi2 {t : ByteArray} {ix k1 : Nat} (h1 : rv (t.data.toList.drop 0) = some (ix, k1)) (hi : 1000000 < ix) : readSnapIn t = none := by rw [readSnapIn, h1]; simp only [hi, if_true]
theorem rsi3 {t : ByteArray} {ix k1 : Nat} (h1 : rv (t.data.toList.drop 0) = some (ix, k1)) (hi : ¬ 1000000 < ix) (h2 : rv (t.data.toList.drop k1) = none) : readSnapIn t = none := by rw [readSnapIn, h1]; simp only [hi, if_false, h2]
theorem rsi4 {t : ByteArray} {ix k1 tm k2 : Nat} (h1 : rv (t.data.toList.drop 0) = some (ix, k1)) (hi : ¬ 1000000 < ix) (h2 : rv (t.data.toList.drop k1) = some (tm, k2)) (hm : 100000 < tm) : readSnapIn t = none := by rw [readSnapIn, h1]; simp only [hi, if_false, h2, hm, if_true]
theorem rsi5 {t : ByteArray} {ix k1 tm k2 : Nat} (h1 : rv (t.data.toList.drop 0) = some (ix, k1)) (hi : ¬ 1000000 < ix) (h2 : rv (t.data.toList.drop k1) = some (tm, k2)) (hm : ¬ 100000 < tm) : readSnapIn t = readSnapB t ix tm (k1 + k2) := by rw [readSnapIn, h1]; simp only [hi, if_false, h2, hm]; rfl
theorem rsb1 {t : ByteArray} {ix tm k : Nat} (h : rs t (k : Int) = none) : readSnapB t ix tm k = none := by rw [readSnapB, h]
theorem rsb2 {t : ByteArray} {ix tm k x y : Nat} (h : rs t (k : Int) = some (x, y)) (hc : confOk (intsOf (t.extract x y).data.toList) = false) : readSnapB t ix tm k = none := by rw [readSnapB, h]; simp only [hc, Bool.false_eq_true, if_false]
theorem rsb3 {t : ByteArray} {ix tm k x y : Nat} (h : rs t (k : Int) = some (x, y)) (hc : confOk (intsOf (t.extract x y).data.toList) = true) : readSnapB t ix tm k = readSnapC t ix tm (intsOf (t.extract x y).data.toList) y := by rw [readSnapB, h]; simp only [hc, if_true]
theorem rsc1 {t : ByteArray} {ix tm y : Nat} {zs : List Int} (h : rs t (y : Int) = none) : readSnapC t ix tm zs y = none := by rw [readSnapC, h]
theorem rsc2 {t : ByteArray} {ix tm y x' y' : Nat} {zs : List Int} (h : rs t (y : Int) = some (x', y')) : readSnapC t ix tm zs y = if y' = t.size then some ⟨ix, tm, zs, t.extract x' y'⟩ else none := by rw [readSnapC, h]
theorem ask_sealed {s : ByteArray} (h : Uns s) : askSnapIn s (s.extract 0 (s.size - 4)) (some 0) = readSnap s := by
  by_cases h2 : s.size ≤ 20000
  · rw [readSnap_sealed ⟨h, h2⟩, ask_read h h2]
  · rw [rs_sealed (fun q => h2 q.2)]
    refine if_neg ?_
    rintro ⟨_, q1, q2⟩
    have q3 := (snapOk_iff.1 q1).2.2
    simp only [Int.toNat_natCast] at q3
    have q4 := congrArg ByteArray.size q2
    rw [sealOf_size] at q4
    omega
theorem ask_not {s : ByteArray} (h : ¬ Uns s) : askSnapIn s ByteArray.empty none = readSnap s := by rw [ask_none, rs_sealed (fun q => h q.1)]
theorem shortTxt_size (t : ByteArray) (o : Option Nat) : (shortTxt t o).size ≤ t.size := by
  rw [shortTxt]
  generalize varSt' t o = o1
  cases o1 with
  | none => exact Nat.zero_le _
  | some k =>
    rw [takeTxtN]
    split
    · rw [ByteArray.size_extract]; omega
    · exact Nat.zero_le _
theorem readConf_small (s : ByteArray) : (readConf s).1.length ≤ 4 := by
  cases h : confOk (intsOf s.data.toList) with
  | false => rw [readConf_no h]; exact Nat.zero_le _
  | true => rw [readConf_yes h]; exact (confOk_len h).2
end Go.Proofs.YtbifkpkhpaellaaGreatDoor

namespace Go.Proofs.YtbifkpkhpaellaaGreatDoor
open Go.RowKit

theorem blk_grown {w w' : World} {g r : Nat} {t : TypeId} {cs : List Value} (h : BlockIs w g t cs) (hg : w.grownBy w' (some r)) (hr : g ≠ r) : BlockIs w' g t cs := by
  have hlt := h.lt
  unfold BlockIs at h ⊢
  rw [hg.block g hlt (by simp; omega)]
  exact h
theorem below_grown {n r : Nat} {w w1 w2 : World} (h : Below n w w1) (hg : w1.grownBy w2 (some r)) (hr : n ≤ r) (hs : n ≤ w1.heap.size) : Below n w w2 :=
  h.grown hg hs (fun k e => by simp at e; omega)
theorem grown_none {w w' : World} (h : w.grownBy w' none) (r : Nat) : w.grownBy w' (some r) := by
  obtain ⟨h1, h2, h3, h4, h5⟩ := h
  exact ⟨h1, h2, h3, h4, fun b hb _ => h5 b hb (by simp)⟩
theorem three_blocks (w : World) (o p q : Obj) : Below w.heap.size w (((w.alloc o).alloc p).alloc q) ∧ (((w.alloc o).alloc p).alloc q).heap.size = w.heap.size + 3 ∧ (((w.alloc o).alloc p).alloc q).heap[w.heap.size]? = some o ∧ (((w.alloc o).alloc p).alloc q).heap[w.heap.size + 1]? = some p ∧ (((w.alloc o).alloc p).alloc q).heap[w.heap.size + 1 + 1]? = some q := by
  refine ⟨below_more (below_more (below_more (Below.refl _ w) _) _) _, by simp [World.alloc, -World.alloc_eq], ?_, ?_, ?_⟩
  · show (((w.heap.push o).push p).push q)[w.heap.size]? = some o
    rw [Array.getElem?_push, if_neg (by simp; omega), Array.getElem?_push, if_neg (by simp), Array.getElem?_push, if_pos rfl]
  · show (((w.heap.push o).push p).push q)[w.heap.size + 1]? = some p
    rw [Array.getElem?_push, if_neg (by simp), Array.getElem?_push, if_pos (by simp)]
  · show (((w.heap.push o).push p).push q)[w.heap.size + 1 + 1]? = some q
    rw [Array.getElem?_push, if_pos (by simp)]
theorem two_blocks (w : World) (o p : Obj) : Below w.heap.size w ((w.alloc o).alloc p) ∧ ((w.alloc o).alloc p).heap.size = w.heap.size + 2 ∧ ((w.alloc o).alloc p).heap[w.heap.size]? = some o ∧ ((w.alloc o).alloc p).heap[w.heap.size + 1]? = some p := by
  refine ⟨below_more (below_more (Below.refl _ w) _) _, by simp [World.alloc, -World.alloc_eq], ?_, ?_⟩
  · show ((w.heap.push o).push p)[w.heap.size]? = some o
    rw [Array.getElem?_push, if_neg (by simp), Array.getElem?_push, if_pos rfl]
  · show ((w.heap.push o).push p)[w.heap.size + 1]? = some p
    rw [Array.getElem?_push, if_pos (by simp)]

/-- what hangs on blocks of two types alone -/
def Stays (t1 t2 : TypeId) (Q : World → Prop) : Prop := ∀ x y : World, (∀ g t cs, t = t1 ∨ t = t2 → BlockIs x g t cs → BlockIs y g t cs) → Q x → Q y
theorem Stays.alloc {t1 t2 : TypeId} {Q : World → Prop} (h : Stays t1 t2 Q) {x : World} (q : Q x) (o : Obj) : Q (x.alloc o) :=
  h _ _ (fun _ _ _ _ hb => hb.on (below_more (Below.refl _ _) o) hb.lt) q
theorem Stays.drawn {t1 t2 : TypeId} {Q : World → Prop} (h : Stays t1 t2 Q) {x : World} (q : Q x) (n : Nat) : Q (x.drewN n) := h x (x.drewN n) (fun _ _ _ _ hb => hb) q
theorem Stays.put {t1 t2 tb : TypeId} {Q : World → Prop} {cb : List Value} {b : Nat} (h : Stays t1 t2 Q) {x : World} (q : Q x) (hb : BlockIs x b tb cb) (h1 : tb ≠ t1) (h2 : tb ≠ t2) (j : Nat) (u : Value) : Q (x.setCell ⟨b, j, none⟩ u) :=
  h _ _ (fun _ _ _ ht hg => hg.far (fun e => by subst e; have := (block_one hb hg).1; rcases ht with rfl | rfl; exact h1 this; exact h2 this) u) q
theorem Stays.grown {t1 t2 tb : TypeId} {Q : World → Prop} {cb : List Value} {b : Nat} (h : Stays t1 t2 Q) {x y : World} (q : Q x) (hg : x.grownBy y (some b)) (hb : BlockIs x b tb cb) (h1 : tb ≠ t1) (h2 : tb ≠ t2) : Q y :=
  h _ _ (fun _ _ _ ht hc => blk_grown hc hg (fun e => by subst e; have := (block_one hb hc).1; rcases ht with rfl | rfl; exact h1 this; exact h2 this)) q
end Go.Proofs.YtbifkpkhpaellaaGreatDoor

namespace Go.Proofs.YtbifkpkhpaellaaGreatDoor
open Go.RowKit

/-- what both answer -/
def snapDid (o : Option SnapD) (w : World) (e : Ending) (w' : World) : Prop := match o with
  | none => e = .returned (.tuple #[snapV 0 0 (.slice none 0 0) ByteArray.empty, .bool false]) ∧ Below w.heap.size w w'
  | some d => ∃ v, e = .returned (.tuple #[snapV d.ix d.tm v d.body, .bool true]) ∧ w'.ownsRow w.heap.size 3 1 v d.conf.length (intCells d.conf) ∧ Below w.heap.size w w'

/-- a block of another type is written -/
theorem own_put {x : World} {base n b j : Nat} {tb : TypeId} {v u : Value} {xs cb : List Value} (h : x.ownsRow base 3 1 v n xs) (hb : BlockIs x b tb cb) (ht : tb ≠ 3) : (x.setCell ⟨b, j, none⟩ u).ownsRow base 3 1 v n xs := by
  refine ⟨h.1, h.2.imp id ?_⟩
  rintro ⟨g, cap, cur, a, c, d, r⟩
  refine ⟨g, cap, cur, a, c, ?_, r⟩
  have hne : b ≠ g := by
    intro q
    subst q
    unfold BlockIs at hb
    rw [hb] at d
    simp only [Option.some.injEq, Obj.cells.injEq] at d
    exact ht d.2.1
  have hg : BlockIs x g 3 cur.toList := by unfold BlockIs; rw [d]
  have := hg.far hne (j := j) u
  unfold BlockIs at this
  simpa using this
theorem own_grown {x y : World} {base n r : Nat} {tb : TypeId} {v : Value} {xs cb : List Value} (h : x.ownsRow base 3 1 v n xs) (hg : x.grownBy y (some r)) (hb : BlockIs x r tb cb) (ht : tb ≠ 3) : y.ownsRow base 3 1 v n xs := by
  have hh := h
  rcases h.2 with ⟨hv, hn⟩ | ⟨g, cap, cur, hv, _, d, _⟩
  · subst hv
    exact hh.kept hg (Or.inl rfl)
  · subst hv
    refine hh.kept hg (Or.inr ?_)
    intro e
    have e2 : g = r := by simpa [Value.ownBlock] using e
    subst e2
    unfold BlockIs at hb
    rw [hb] at d
    simp only [Option.some.injEq, Obj.cells.injEq] at d
    exact ht d.2.1
theorem text_same {s t : ByteArray} (h : s.toList = t.toList) : s = t := by
  rw [ByteArray.toList_eq, ByteArray.toList_eq] at h
  apply ByteArray.ext
  exact Array.toList_inj.1 h
/-- the answer's parts, whether there is a snapshot or not -/
def snapIx (o : Option SnapD) : Int := match o with | none => 0 | some d => d.ix
def snapTm (o : Option SnapD) : Int := match o with | none => 0 | some d => d.tm
def snapZs (o : Option SnapD) : List Int := match o with | none => [] | some d => d.conf
def snapBd (o : Option SnapD) : ByteArray := match o with | none => ⟨#[]⟩ | some d => d.body
theorem own_nil (w : World) (base : Nat) : w.ownsRow base 3 1 (.slice none 0 0) 0 [] := ⟨rfl, Or.inl ⟨rfl, rfl⟩⟩
theorem snapDid_parts {o : Option SnapD} {w w' : World} {e : Ending} (h : snapDid o w e w') : ∃ ao cap, e = .returned (.tuple #[snapV (snapIx o) (snapTm o) (.slice ao (snapZs o).length cap) (snapBd o), .bool o.isSome]) ∧ w'.ownsRow w.heap.size 3 1 (.slice ao (snapZs o).length cap) (snapZs o).length (intCells (snapZs o)) ∧ Below w.heap.size w w' := by
  cases o with
  | none => exact ⟨none, 0, h.1, own_nil _ _, h.2⟩
  | some d =>
    obtain ⟨v, h1, h2, h3⟩ := h
    obtain ⟨va, vc, rfl⟩ := row_shape h2
    exact ⟨va, vc, h1, h2, h3⟩
theorem readSnap_small {s : ByteArray} : (snapZs (readSnap s)).length ≤ 4 := by
  cases h : readSnap s with
  | none => exact Nat.zero_le _
  | some d =>
    have : d.conf.length ≤ 4 := by
      unfold readSnap readSnapIn at h
      repeat' split at h
      all_goals first
        | contradiction
        | (cases h; exact (confOk_len (by assumption)).2)
    exact this
/-- the same as a post of its own -/
def snapAns (o : Option SnapD) (w : World) (e : Ending) (w' : World) : Prop := ∃ ao cap, e = .returned (.tuple #[snapV (snapIx o) (snapTm o) (.slice ao (snapZs o).length cap) (snapBd o), .bool o.isSome]) ∧ w'.ownsRow w.heap.size 3 1 (.slice ao (snapZs o).length cap) (snapZs o).length (intCells (snapZs o)) ∧ Below w.heap.size w w'
end Go.Proofs.YtbifkpkhpaellaaGreatDoor

namespace Go.Proofs.YtbifkpkhpaellaaGreatDoor
open Go.RowKit

def nameOk (s : ByteArray) : Bool := within s.size 1 8
def fileOk (f : FileD) : Bool := nameOk f.name && decide (f.text.size ≤ 20000) && within f.kept 0 f.text.size
/-- is a text less than another one -/
def textLt (s t : ByteArray) : Bool := Op.bytesLess s.toList t.toList
/-- a file stands behind the one ahead of it -/
def behind (l : List FileD) (k : Nat) (f : FileD) : Bool := match k with
  | 0 => true
  | j + 1 => match l[j]? with
    | none => true
    | some g => textLt g.name f.name
/-- the first k files are right, and ascend -/
def rightTo (l : List FileD) : Nat → Bool
  | 0 => true
  | k + 1 => rightTo l k && match l[k]? with
    | none => true
    | some f => fileOk f && behind l k f
def diskOk (l : List FileD) : Bool := decide (l.length ≤ 30) && rightTo l l.length

theorem rightTo_step {l : List FileD} {k : Nat} (hk : k < l.length) : rightTo l (k + 1) = (rightTo l k && (fileOk l[k] && behind l k l[k])) := by
  rw [rightTo, List.getElem?_eq_getElem hk]
theorem behind_step {l : List FileD} {j : Nat} (hj : j + 1 < l.length) : behind l (j + 1) l[j + 1] = textLt l[j].name l[j + 1].name := by
  rw [behind, List.getElem?_eq_getElem (show j < l.length by omega)]
theorem rightTo_down {l : List FileD} {n k : Nat} (h : rightTo l n = true) (hk : k ≤ n) : rightTo l k = true := by
  induction n with
  | zero => obtain rfl : k = 0 := by omega
            rfl
  | succ n ih =>
    rcases Nat.lt_or_ge k (n + 1) with q | q
    · rw [rightTo, Bool.and_eq_true] at h
      exact ih h.1 (by omega)
    · obtain rfl : k = n + 1 := by omega
      exact h
theorem diskOk_of {l : List FileD} (h : l.length ≤ 30) (hr : rightTo l l.length = true) : diskOk l = true := by
  rw [diskOk, hr]
  simpa using h
theorem not_diskOk {l : List FileD} {k : Nat} (hk : k < l.length) (h : (fileOk l[k] && behind l k l[k]) = false) : diskOk l = false := by
  cases hd : diskOk l with
  | false => rfl
  | true =>
    rw [diskOk, Bool.and_eq_true] at hd
    have := rightTo_down hd.2 (show k + 1 ≤ l.length by omega)
    rw [rightTo_step hk, h] at this
    simp at this
end Go.Proofs.YtbifkpkhpaellaaGreatDoor

namespace Go.Proofs.YtbifkpkhpaellaaGreatDoor

/-- a snapshot's name -/
def sname (n : Int) : ByteArray := if within n 0 1000000 = true then ⟨#[115]⟩ ++ ⟨(dec n).toArray⟩ else ⟨#[]⟩
theorem sname_yes {n : Int} (h : within n 0 1000000 = true) : sname n = ⟨#[115]⟩ ++ ⟨(dec n).toArray⟩ := by rw [sname, if_pos h]
theorem sname_no {n : Int} (h : within n 0 1000000 = false) : sname n = ⟨#[]⟩ := by rw [sname, h]; rfl
theorem dec_small7 {n : Int} (h : 0 ≤ n ∧ n ≤ 1000000) : (⟨(dec n).toArray⟩ : ByteArray).size ≤ 7 := by
  show (dec n).toArray.size ≤ 7
  rw [List.size_toArray, dec]
  split
  · simp
  · rw [if_neg (by omega)]
    exact dd_len 7 _ (by omega)
end Go.Proofs.YtbifkpkhpaellaaGreatDoor

namespace Go.Proofs.YtbifkpkhpaellaaGreatDoor
open Go.RowKit

/-- the bytes that figures, two by two, make -/
def unh : List UInt8 → List UInt8
  | a :: b :: r => UInt8.ofNat (16 * lv (a.toNat : Int) + lv (b.toNat : Int)).toNat :: unh r
  | _ => []

theorem unh_snoc2 (a b : UInt8) : ∀ (n : Nat) (l : List UInt8), l.length = 2 * n → unh (l ++ [a, b]) = unh l ++ unh [a, b]
  | 0, l, h => by
    have : l = [] := List.eq_nil_of_length_eq_zero (by omega)
    subst this; rfl
  | n + 1, l, h => by
    match l, h with
    | x :: y :: r, h =>
      have ih := unh_snoc2 a b n r (by simp at h; omega)
      simp [unh, ih]

theorem unh_length : ∀ (n : Nat) (l : List UInt8), l.length = 2 * n → (unh l).length = n
  | 0, l, h => by
    have : l = [] := List.eq_nil_of_length_eq_zero (by omega)
    subst this; rfl
  | n + 1, l, h => by
    match l, h with
    | x :: y :: r, h =>
      have ih := unh_length n r (by simp at h; omega)
      simp [unh, ih]

theorem take_snoc2 (s : ByteArray) (k : Nat) (h : k + 1 < s.size) : s.data.toList.take (k + 2) = s.data.toList.take k ++ [s[k], s[k + 1]] := by
  rw [take_snoc s (k + 1) h, take_snoc s k (by omega)]
  simp

theorem unh_step {s : ByteArray} {k : Nat} {w wr w1 : World} {v v' : Value} {B : Obj} (hk : 2 * k + 1 < s.size) (h1 : 0 ≤ lv (s[2 * k].toNat : Int)) (h2 : 0 ≤ lv (s[2 * k + 1].toNat : Int)) (hown : wr.ownsRow w.heap.size 5 1 v k (cs (unh (s.data.toList.take (2 * k)))))
    (hown' : w1.ownsRow w.heap.size 5 1 v' (k + 1) (cs (unh (s.data.toList.take (2 * k))) ++ [.int .u8 (16 * lv (s[2 * k].toNat : Int) + lv (s[2 * k + 1].toNat : Int))])) (hgrow : (wr.alloc B).grownBy w1 v.ownBlock) (hb : Below w.heap.size w wr) :
    w1.ownsRow w.heap.size 5 1 v' (k + 1) (cs (unh (s.data.toList.take (2 * (k + 1))))) ∧ Below w.heap.size w w1 := by
  refine ⟨?_, (hb.alloc hb.size _).grown hgrow (by have := hb.size; simp; omega) (fun j hj => (hown.lt j hj).1)⟩
  have b1 := lv_bd (s[2 * k].toNat : Int)
  have b2 := lv_bd (s[2 * k + 1].toNat : Int)
  have e : [Value.int .u8 (16 * lv (s[2 * k].toNat : Int) + lv (s[2 * k + 1].toNat : Int))] = cs (unh [s[2 * k], s[2 * k + 1]]) := by
    rw [cs_one (by omega) (by omega)]
    simp [unh]
  rw [e, ← cs_append, ← unh_snoc2 _ _ k _ (take_len s (2 * k) (by omega)), ← take_snoc2 s (2 * k) hk] at hown'
  exact hown'

theorem Figs.snoc2 {s : ByteArray} {k : Nat} (hk : 2 * k + 1 < s.size) (h : Figs 16 (s.data.toList.take (2 * k))) (h1 : 0 ≤ lv (s[2 * k].toNat : Int)) (h2 : 0 ≤ lv (s[2 * k + 1].toNat : Int)) : Figs 16 (s.data.toList.take (2 * (k + 1))) := by
  have b1 := lv_bd (s[2 * k].toNat : Int)
  have b2 := lv_bd (s[2 * k + 1].toNat : Int)
  show Figs 16 (s.data.toList.take (2 * k + 2))
  rw [take_snoc2 s (2 * k) hk]
  intro x hx
  rcases List.mem_append.1 hx with hx | hx
  · exact h x hx
  · simp only [List.mem_cons, List.not_mem_nil, or_false] at hx
    rcases hx with hx | hx <;> subst hx <;> constructor <;> omega

theorem not_Figs {s : ByteArray} {k : Nat} (hk : k < s.size) (h : lv (s[k].toNat : Int) < 0) : ¬ Figs 16 s.data.toList := by
  intro hall
  have := hall s[k] (mem_at s k hk)
  omega
end Go.Proofs.YtbifkpkhpaellaaGreatDoor

namespace Go.Proofs.YtbifkpkhpaellaaGreatDoor
open Go.RowKit

theorem figs_hex (l : List UInt8) : Figs 16 (hexOf l) := by
  induction l with
  | nil => simp [hexOf, Figs]
  | cons b l ih =>
    have hb := b.toNat_lt
    intro c hc
    simp only [hexOf, List.mem_cons] at hc
    have one : ∀ x : Int, 0 ≤ x → x ≤ 15 → 0 ≤ lv ((UInt8.ofNat (fig x).toNat).toNat : Int) ∧ lv ((UInt8.ofNat (fig x).toNat).toNat : Int) < (16 : Nat) := by
      intro x h0 h1
      have hf := fig_bd h0 h1
      have e : ((UInt8.ofNat (fig x).toNat).toNat : Int) = fig x := by rw [UInt8.toNat_ofNat']; omega
      have := (fig_lv (c := fig x) (j := x) h0 h1).1 rfl
      rw [e, this]
      omega
    rcases hc with hc | hc | hc
    · subst hc; exact one _ (by omega) (by omega)
    · subst hc; exact one _ (by omega) (by omega)
    · exact ih c hc

theorem unh_hex (l : List UInt8) : unh (hexOf l) = l := by
  induction l with
  | nil => rfl
  | cons b l ih =>
    have hb := b.toNat_lt
    have one : ∀ x : Int, 0 ≤ x → x ≤ 15 → lv ((UInt8.ofNat (fig x).toNat).toNat : Int) = x := by
      intro x h0 h1
      have hf := fig_bd h0 h1
      have e : ((UInt8.ofNat (fig x).toNat).toNat : Int) = fig x := by rw [UInt8.toNat_ofNat']; omega
      rw [e]
      exact (fig_lv (c := fig x) (j := x) h0 h1).1 rfl
    simp only [hexOf, unh, ih]
    rw [one _ (by omega) (by omega), one _ (by omega) (by omega)]
    congr 1
    apply UInt8.toNat_inj.1
    rw [UInt8.toNat_ofNat']
    omega

theorem num_dd (n : Nat) : num (dd n) = n := by
  induction n using Nat.strongRecOn with
  | _ n ih =>
    by_cases h : n = 0
    · subst h; rw [dd_zero]; rfl
    · rw [dd_pos (by omega), num_snoc, ih (n / 10) (by omega), UInt8.toNat_ofNat']
      omega
theorem digits_dd (n : Nat) : Digits (dd n) := by
  induction n using Nat.strongRecOn with
  | _ n ih =>
    by_cases h : n = 0
    · subst h; rw [dd_zero]; simp [Digits]
    · rw [dd_pos (by omega)]
      refine (ih (n / 10) (by omega)).snoc ?_
      rw [UInt8.toNat_ofNat']
      omega
theorem dec_back (n : Nat) (hn : n ≤ 1000000000) : DecOk (dec n) ∧ num (dec n) = n ∧ (dec n).length ≤ 10 := by
  have hd : Digits (dec n) ∧ num (dec n) = n ∧ (dec n).length ≤ 10 := by
    unfold dec
    by_cases h : (n : Int) = 0
    · rw [if_pos h]
      have e : n = 0 := by omega
      subst e
      refine ⟨?_, rfl, by simp⟩
      intro c hc
      simp at hc
      subst hc
      decide
    · rw [if_neg h, if_neg (by omega), Int.natAbs_natCast]
      exact ⟨digits_dd n, num_dd n, dd_len 10 n (by omega)⟩
  obtain ⟨h1, h2, h3⟩ := hd
  refine ⟨⟨h1, by omega, (dec_num _ h1).1 (by rw [h2])⟩, h2, h3⟩

theorem text_list (s : ByteArray) : (⟨s.data.toList.toArray⟩ : ByteArray) = s := by simp

/-- a short text is read back -/
theorem rs_back (t : ByteArray) (ht : t.size ≤ 20000) : rs (⟨(vb t.size).toArray⟩ ++ t) 0 = some ((vb t.size).length, (vb t.size).length + t.size) := by
  have hl : (⟨(vb t.size).toArray⟩ ++ t : ByteArray).data.toList = vb t.size ++ t.data.toList := by simp [ByteArray.data_append]
  have hsz : (⟨(vb t.size).toArray⟩ ++ t : ByteArray).size = (vb t.size).length + t.size := by
    rw [ByteArray.size_append]
    show (vb t.size).toArray.size + t.size = _
    simp
  have := rs_yes (s := ⟨(vb t.size).toArray⟩ ++ t) (a := 0) (n := t.size) (c := (vb t.size).length) (by omega) (by rw [hl]; simpa using rv_vb (n := t.size) (by omega) t.data.toList) ⟨ht, by omega⟩
  simpa using this
theorem extract_back (l : List UInt8) (t : ByteArray) : (⟨l.toArray⟩ ++ t : ByteArray).extract l.length (l.length + t.size) = t := by
  apply ByteArray.ext
  apply Array.toList_inj.1
  rw [extract_eq]
  have hl : (⟨l.toArray⟩ ++ t : ByteArray).data.toList = l ++ t.data.toList := by simp [ByteArray.data_append]
  have ht : t.data.toList.length = t.size := by simp
  rw [hl, List.drop_left, List.take_of_length_le (by omega)]
end Go.Proofs.YtbifkpkhpaellaaGreatDoor

namespace Go.Proofs.YtbifkpkhpaellaaGreatDoor
open Go.RowKit

/-- the number of a name: a letter and the figures of a number up to a limit -/
def nameNum (c : UInt8) (lim : Nat) (name : ByteArray) : Option Nat :=
  if num (name.data.toList.drop 1) ≤ lim ∧ name.data.toList = c :: dec (num (name.data.toList.drop 1)) then some (num (name.data.toList.drop 1)) else none
theorem nameNum_some {c : UInt8} {lim n : Nat} {name : ByteArray} (hl : lim ≤ 1000000000) : nameNum c lim name = some n ↔ n ≤ lim ∧ name.data.toList = c :: dec n := by
  unfold nameNum
  constructor
  · intro h
    split at h
    · rename_i q
      simp only [Option.some.injEq] at h
      subst h
      exact q
    · cases h
  · rintro ⟨h1, h2⟩
    have e : num (name.data.toList.drop 1) = n := by
      rw [h2]
      exact (dec_back n (by omega)).2.1
    rw [e, if_pos ⟨h1, h2⟩]
theorem nameNum_dec {c : UInt8} {lim : Nat} {name : ByteArray} {r : List UInt8} (h : name.data.toList = c :: r) (hd : DecOk r) (hl : num r ≤ lim) : nameNum c lim name = some (num r) := by
  unfold nameNum
  rw [h]
  simp only [List.drop_succ_cons, List.drop_zero]
  rw [if_pos ⟨hl, by rw [(dec_num r hd.1).2 ⟨hd.2.2.1, hd.2.2.2⟩]⟩]
theorem nameNum_not {c : UInt8} {lim : Nat} {name : ByteArray} (hl : lim ≤ 1000000000) (h : ∀ n, n ≤ lim → name.data.toList ≠ c :: dec n) : nameNum c lim name = none := by
  cases hq : nameNum c lim name with
  | none => rfl
  | some n =>
    have := (nameNum_some hl).1 hq
    exact absurd this.2 (h n this.1)
theorem nameNum_figs {c : UInt8} {lim : Nat} {name : ByteArray} {r : List UInt8} (hl : lim ≤ 1000000000) (h : name.data.toList = c :: r) (hd : ¬ (DecOk r ∧ num r ≤ lim ∧ r.length ≤ 10)) : nameNum c lim name = none := by
  refine nameNum_not hl fun n hn e => hd ?_
  rw [h, List.cons.injEq] at e
  rw [e.2]
  have := dec_back n (by omega)
  exact ⟨this.1, by omega, this.2.2⟩
theorem nameNum_head {c : UInt8} {lim : Nat} {name : ByteArray} (hl : lim ≤ 1000000000) (h : name.data.toList.head? ≠ some c) : nameNum c lim name = none := by
  refine nameNum_not hl fun n _ e => h ?_
  rw [e]
  rfl
theorem nameNum_short {c : UInt8} {lim : Nat} {name : ByteArray} (hl : lim ≤ 1000000000) (h : name.size < 2) : nameNum c lim name = none := by
  refine nameNum_not hl fun n hn e => ?_
  have h1 : name.data.toList.length = name.size := Array.length_toList
  rw [e, List.length_cons] at h1
  have := (dec_back n (by omega)).1.2.2.1
  exact this (List.eq_nil_of_length_eq_zero (by omega))
/-- the number's place in the answer -/
def nameAns (o : Option Nat) : Int := match o with
  | none => -1
  | some n => n
theorem name_of_list {name : ByteArray} {l : List UInt8} (h : name.data.toList = l) : name = ⟨l.toArray⟩ := by
  apply ByteArray.ext
  apply Array.toList_inj.1
  simpa using h
end Go.Proofs.YtbifkpkhpaellaaGreatDoor

namespace Go.Proofs.YtbifkpkhpaellaaGreatDoor
open Go.RowKit

theorem less_irr : ∀ a : List UInt8, Op.bytesLess a a = false
  | [] => rfl
  | x :: a => by simp [Op.bytesLess, less_irr a]
theorem less_trans : ∀ (a b c : List UInt8), Op.bytesLess a b = true → Op.bytesLess b c = true → Op.bytesLess a c = true
  | [], b, c, h1, h2 => by
    cases c with
    | nil => cases b <;> simp [Op.bytesLess] at h2
    | cons z c => rfl
  | x :: a, [], c, h1, _ => by simp [Op.bytesLess] at h1
  | x :: a, y :: b, [], _, h2 => by simp [Op.bytesLess] at h2
  | x :: a, y :: b, z :: c, h1, h2 => by
    simp only [Op.bytesLess, Bool.or_eq_true, Bool.and_eq_true, decide_eq_true_eq, beq_iff_eq] at h1 h2 ⊢
    rcases h1 with h1 | ⟨h1, h1'⟩
    · rcases h2 with h2 | ⟨h2, h2'⟩
      · exact Or.inl (UInt8.lt_trans h1 h2)
      · subst h2; exact Or.inl h1
    · subst h1
      rcases h2 with h2 | ⟨h2, h2'⟩
      · exact Or.inl h2
      · exact Or.inr ⟨h2, less_trans a b c h1' h2'⟩
theorem textLt_trans {a b c : ByteArray} (h1 : textLt a b = true) (h2 : textLt b c = true) : textLt a c = true := less_trans _ _ _ h1 h2
theorem textLt_irr (a : ByteArray) : textLt a a = false := less_irr _

/-- the files of a right disk ascend -/
theorem disk_pairs {l : List FileD} (h : diskOk l = true) : l.Pairwise fun f g => textLt f.name g.name = true := by
  rw [diskOk, Bool.and_eq_true] at h
  have hstep : ∀ j (hj : j + 1 < l.length), textLt (l[j]'(by omega)).name l[j + 1].name = true := by
    intro j hj
    have := rightTo_down h.2 (show j + 1 + 1 ≤ l.length by omega)
    rw [rightTo_step hj, Bool.and_eq_true, Bool.and_eq_true, behind_step hj] at this
    exact this.2.2
  rw [List.pairwise_iff_getElem]
  intro i j hi hj hij
  induction j with
  | zero => omega
  | succ j ih =>
    rcases Nat.lt_or_ge i j with q | q
    · exact textLt_trans (ih (by omega) q) (hstep j hj)
    · obtain rfl : i = j := by omega
      exact hstep i hj
theorem filter_two {α : Type} {R : α → α → Prop} {p q : α → Bool} (hd : ∀ a, p a = true → q a = false) (hR : ∀ a b, q a = true → p b = true → ¬ R a b) : ∀ (l : List α), l.Pairwise R → l.filter (fun a => p a || q a) = l.filter p ++ l.filter q
  | [], _ => rfl
  | x :: l, h => by
    have h1 := List.pairwise_cons.1 h
    have ih := filter_two hd hR l h1.2
    cases hp : p x with
    | true => simp [hp, hd x hp, ih]
    | false =>
      cases hq : q x with
      | false => simp [hp, hq, ih]
      | true =>
        have hn : l.filter p = [] := by
          rw [List.filter_eq_nil_iff]
          intro b hb hpb
          exact hR x b hq hpb (h1.1 b hb)
        simp [hp, hq, ih, hn]
/-- the name under which a snapshot is written -/
def sNew : ByteArray := ⟨#[115, 43]⟩
def isNew (nm : ByteArray) : Bool := nm.toList == [115, 43]
/-- another snapshot's name -/
def isOther (ix : Int) (nm : ByteArray) : Bool := match nameNum 115 1000000 nm with
  | none => false
  | some n => !((n : Int) == ix)
theorem isOther_none {ix : Int} {nm : ByteArray} (h : nameNum 115 1000000 nm = none) : isOther ix nm = false := by rw [isOther, h]
theorem isOther_some {ix : Int} {nm : ByteArray} {n : Nat} (h : nameNum 115 1000000 nm = some n) : isOther ix nm = !((n : Int) == ix) := by rw [isOther, h]
theorem isNew_iff {nm : ByteArray} : isNew nm = true ↔ nm.data.toList = [115, 43] := by
  rw [isNew, beq_iff_eq, ByteArray.toList_eq]
theorem dec_first (n : Nat) (hn : n ≤ 1000000000) : ∃ d r, dec (n : Int) = d :: r ∧ 48 ≤ d.toNat := by
  have h := dec_back n hn
  match hq : dec (n : Int), h.1.2.2.1 with
  | d :: r, _ => exact ⟨d, r, rfl, (h.1.1 d (by rw [hq]; simp)).1⟩
theorem other_behind {ix : Int} {nm nn : ByteArray} (h : isOther ix nm = true) (hn : isNew nn = true) : textLt nn nm = true := by
  cases hq : nameNum 115 1000000 nm with
  | none => rw [isOther_none hq] at h; cases h
  | some n =>
    have h2 := (nameNum_some (by omega)).1 hq
    obtain ⟨d, r, h3, h4⟩ := dec_first n (by omega)
    rw [textLt, ByteArray.toList_eq, ByteArray.toList_eq, isNew_iff.1 hn, h2.2, h3]
    simp only [Op.bytesLess, Bool.or_eq_true, Bool.and_eq_true, decide_eq_true_eq, beq_iff_eq]
    refine Or.inr ⟨trivial, Or.inl ?_⟩
    rw [UInt8.lt_iff_toNat_lt]
    show 43 < d.toNat
    omega
theorem new_not_other {ix : Int} {nm : ByteArray} (h : isNew nm = true) : isOther ix nm = false := by
  cases hq : isOther ix nm with
  | false => rfl
  | true =>
    have := other_behind hq h
    rw [textLt_irr] at this
    cases this
/-- the act that drops what was begun, if it is there -/
def newA (l : List FileD) : List ActD := if l.any (fun f => isNew f.name) = true then [dropA sNew] else []
theorem dropsOf_new {l : List FileD} (h : l.Pairwise fun f g => textLt f.name g.name = true) : dropsOf isNew l = newA l := by
  induction l with
  | nil => rfl
  | cons x l ih =>
    have h1 := List.pairwise_cons.1 h
    have ih := ih h1.2
    cases hp : isNew x.name with
    | false =>
      unfold dropsOf newA at ih ⊢
      simp only [List.filter_cons, hp, List.any_cons, Bool.false_or, Bool.false_eq_true, if_false]
      exact ih
    | true =>
      have hn : l.filter (fun f => isNew f.name) = [] := by
        rw [List.filter_eq_nil_iff]
        intro b hb hpb
        have h2 := h1.1 b hb
        have e : x.name = b.name := by
          apply ByteArray.ext
          apply Array.toList_inj.1
          rw [isNew_iff.1 hp, isNew_iff.1 hpb]
        rw [e, textLt_irr] at h2
        cases h2
      have e : x.name = sNew := by
        apply ByteArray.ext
        apply Array.toList_inj.1
        rw [isNew_iff.1 hp]
        rfl
      have h2 : (x :: l).filter (fun f => isNew f.name) = [x] := by rw [List.filter_cons, if_pos hp, hn]
      have h3 : (x :: l).any (fun f => isNew f.name) = true := by rw [List.any_cons, hp]; rfl
      rw [dropsOf, newA, h2, h3, if_pos rfl, List.map_cons, List.map_nil, e]
theorem dropsOf_both {l : List FileD} (ix : Int) (h : l.Pairwise fun f g => textLt f.name g.name = true) : dropsOf (fun nm => isNew nm || isOther ix nm) l = newA l ++ dropsOf (isOther ix) l := by
  rw [← dropsOf_new h, dropsOf, filter_two (R := fun f g => textLt f.name g.name = true) (p := fun f => isNew f.name) (q := fun f => isOther ix f.name) (fun a ha => new_not_other ha) (fun a b ha hb hR => ?_) l h, List.map_append]
  · rfl
  · have h2 := textLt_trans hR (other_behind ha hb)
    rw [textLt_irr] at h2
    cases h2
theorem newA_length (l : List FileD) : (newA l).length ≤ 1 := by
  unfold newA
  split <;> simp
end Go.Proofs.YtbifkpkhpaellaaGreatDoor

namespace Go.Proofs.YtbifkpkhpaellaaGreatDoor
open Go.RowKit

def bestStep (b : Option Nat) (f : FileD) : Option Nat :=
  match nameNum 106 999 f.name with
  | none => b
  | some n => match b with
    | none => some n
    | some m => some (max m n)
def bestJ (l : List FileD) : Option Nat := l.foldl bestStep none
theorem bestJ_take (l : List FileD) (k : Nat) (h : k < l.length) : bestJ (l.take (k + 1)) = bestStep (bestJ (l.take k)) l[k] := by
  rw [bestJ, List.take_succ_eq_append_getElem h, List.foldl_append]
  rfl
theorem bestStep_le {b : Option Nat} {f : FileD} (hb : ∀ n, b = some n → n ≤ 999) : ∀ n, bestStep b f = some n → n ≤ 999 := by
  intro n hn
  unfold bestStep at hn
  cases hq : nameNum 106 999 f.name with
  | none => rw [hq] at hn; exact hb n hn
  | some m =>
    have hm := ((nameNum_some (by omega)).1 hq).1
    rw [hq] at hn
    cases b with
    | none => simp at hn; omega
    | some b => have := hb b rfl; simp at hn; omega
theorem bestJ_le (l : List FileD) (k : Nat) : ∀ n, bestJ (l.take k) = some n → n ≤ 999 := by
  induction k with
  | zero => intro n hn; simp [bestJ] at hn
  | succ k ih =>
    by_cases h : k < l.length
    · rw [bestJ_take l k h]; exact bestStep_le ih
    · rw [List.take_of_length_le (by omega)]; rw [List.take_of_length_le (by omega)] at ih; exact ih
/-- as the specification counts: -1 without one -/
theorem nameAns_step (b : Option Nat) (f : FileD) : nameAns (bestStep b f) = if nameAns b < nameAns (nameNum 106 999 f.name) then nameAns (nameNum 106 999 f.name) else nameAns b := by
  unfold bestStep
  cases hq : nameNum 106 999 f.name with
  | none =>
    have hb : ¬ nameAns b < nameAns none := by cases b <;> simp only [nameAns] <;> omega
    rw [if_neg hb]
  | some n =>
    cases b with
    | none =>
      have hb : nameAns none < nameAns (some n) := by simp only [nameAns]; omega
      rw [if_pos hb]
    | some m =>
      by_cases h : nameAns (some m) < nameAns (some n)
      · rw [if_pos h]
        have h' : (m : Int) < (n : Int) := h
        show ((max m n : Nat) : Int) = (n : Int)
        omega
      · rw [if_neg h]
        have h' : ¬ (m : Int) < (n : Int) := h
        show ((max m n : Nat) : Int) = (m : Int)
        omega
end Go.Proofs.YtbifkpkhpaellaaGreatDoor

namespace Go.Proofs.YtbifkpkhpaellaaGreatDoor

/-- a journal's name -/
def jname (n : Int) : ByteArray := if within n 0 999 = true then ⟨#[106]⟩ ++ ⟨(dec n).toArray⟩ else ⟨#[]⟩
theorem jname_yes {n : Int} (h : within n 0 999 = true) : jname n = ⟨#[106]⟩ ++ ⟨(dec n).toArray⟩ := by rw [jname, if_pos h]
theorem jname_no {n : Int} (h : within n 0 999 = false) : jname n = ⟨#[]⟩ := by rw [jname, h]; rfl
theorem dec_small {n : Int} (h : 0 ≤ n ∧ n ≤ 999) : (⟨(dec n).toArray⟩ : ByteArray).size ≤ 3 := by
  show (dec n).toArray.size ≤ 3
  rw [List.size_toArray, dec]
  split
  · simp
  · rw [if_neg (by omega)]
    exact dd_len 3 _ (by omega)
end Go.Proofs.YtbifkpkhpaellaaGreatDoor

namespace Go.Proofs.YtbifkpkhpaellaaGreatDoor
open Go.RowKit

theorem past6 {W : World} {b : Nat} {cs : List Value} (h : BlockIs W b 30 cs) (v0 v1 v2 v3 v4 v5 : Value) {q : Nat} {ty : TypeId} {cq : List Value} (hq : BlockIs W q ty cq) (hne : ty ≠ 30) :
    BlockIs ((((((W.setCell ⟨b, 0, none⟩ v0).setCell ⟨b, 1, none⟩ v1).setCell ⟨b, 2, none⟩ v2).setCell ⟨b, 3, none⟩ v3).setCell ⟨b, 4, none⟩ v4).setCell ⟨b, 5, none⟩ v5) q ty cq := by
  have hbq : b ≠ q := by intro e; subst e; exact hne (block_one hq h).1
  exact (((((hq.far hbq _).far hbq _).far hbq _).far hbq _).far hbq _).far hbq _
theorem put6 {W : World} {b : Nat} {cs : List Value} (h : BlockIs W b 30 cs) (v0 v1 v2 v3 v4 v5 : Value) :
    (∀ {ce : List Value} {n : Nat} {va : Option Addr} {lo : Nat}, OwnAt W 110 ce n va lo W.heap.size → OwnAt ((((((W.setCell ⟨b, 0, none⟩ v0).setCell ⟨b, 1, none⟩ v1).setCell ⟨b, 2, none⟩ v2).setCell ⟨b, 3, none⟩ v3).setCell ⟨b, 4, none⟩ v4).setCell ⟨b, 5, none⟩ v5) 110 ce n va lo ((((((W.setCell ⟨b, 0, none⟩ v0).setCell ⟨b, 1, none⟩ v1).setCell ⟨b, 2, none⟩ v2).setCell ⟨b, 3, none⟩ v3).setCell ⟨b, 4, none⟩ v4).setCell ⟨b, 5, none⟩ v5).heap.size) ∧
    (∀ {base n : Nat} {v : Value} {xs : List Value}, W.ownsRow base 57 4 v n xs → World.ownsRow ((((((W.setCell ⟨b, 0, none⟩ v0).setCell ⟨b, 1, none⟩ v1).setCell ⟨b, 2, none⟩ v2).setCell ⟨b, 3, none⟩ v3).setCell ⟨b, 4, none⟩ v4).setCell ⟨b, 5, none⟩ v5) base 57 4 v n xs) :=
  ⟨fun ho => ho.ext (by simp [World.size_setCell]) (fun _ _ hg => past6 h v0 v1 v2 v3 v4 v5 hg (by decide)), fun hr => row_ext hr (fun _ _ hg => past6 h v0 v1 v2 v3 v4 v5 hg (by decide))⟩
/-- entries stay where a row of acts grows -/
theorem own_row {w w1 : World} {base n : Nat} {v : Value} {xs ce : List Value} {m lo : Nat} {va : Option Addr} (h : OwnAt w 110 ce m va lo w.heap.size) (hr : w.ownsRow base 57 4 v n xs) (hg : w.grownBy w1 v.ownBlock) : OwnAt w1 110 ce m va lo w1.heap.size :=
  h.ext hg.size (fun _ _ hb => blk_row hb hr hg (by decide))
end Go.Proofs.YtbifkpkhpaellaaGreatDoor

namespace Go.Proofs.YtbifkpkhpaellaaGreatDoor
open Go.RowKit

theorem bytes_of (s : ByteArray) (w : World) : ∃ bcap w', (convert 9 100 (.string s)).run Tryz.prog w = .ok (.slice (some ⟨w.heap.size, 0, none⟩) s.size bcap) w' ∧ s.size ≤ bcap ∧ Below w.heap.size w w' ∧ w'.heap.size = w.heap.size + 1 ∧
    (∀ j (hj : j < s.size), w'.cell? ⟨w.heap.size, j, none⟩ = some (.int .u8 (s[j].toNat : Int))) ∧ ∀ j, j < s.size → w'.frozen? ⟨w.heap.size, j, none⟩ = false := by
  refine ⟨_, _, run_bytes_of_string w 9 100 5 s Tryz.underlying9 Tryz.underlying100 Tryz.underlying5, grownCap_ge _ _ _ _, ?_, ?_, fun j hj => ?_, fun j hj => ?_⟩
  · exact (below_drewN (Below.refl _ w) 1).alloc (Nat.le_refl _) _
  · simp [World.alloc, World.drew, -World.alloc_eq, -World.drew_eq]
  · have h := bytesRow_at s (grownCap w s.size 0 5) j hj
    have hb : (w.drew.alloc (.cells (bytesRow s (grownCap w s.size 0 5)) 5 ((bytesRow s (grownCap w s.size 0 5)).size, (bytesRow s (grownCap w s.size 0 5)).size + 1))).heap[w.heap.size]? = some (.cells (bytesRow s (grownCap w s.size 0 5)) 5 ((bytesRow s (grownCap w s.size 0 5)).size, (bytesRow s (grownCap w s.size 0 5)).size + 1)) := heap_alloc_new w.drew _
    simp only [World.cell?, hb]
    exact h
  · have hb : (w.drew.alloc (.cells (bytesRow s (grownCap w s.size 0 5)) 5 ((bytesRow s (grownCap w s.size 0 5)).size, (bytesRow s (grownCap w s.size 0 5)).size + 1))).heap[w.heap.size]? = some (.cells (bytesRow s (grownCap w s.size 0 5)) 5 ((bytesRow s (grownCap w s.size 0 5)).size, (bytesRow s (grownCap w s.size 0 5)).size + 1)) := heap_alloc_new w.drew _
    have hl : j < (bytesRow s (grownCap w s.size 0 5)).size := by
      have : s.data.size = s.size := rfl
      simp [bytesRow]
      omega
    simp only [World.frozen?, hb]
    simp
    omega
end Go.Proofs.YtbifkpkhpaellaaGreatDoor

namespace Go.Proofs.YtbifkpkhpaellaaGreatDoor
open Go.RowKit

/-- acts behind a row of the call's own, within a region that draws -/
theorem step_append_acts {w : World} {ops : Array Oper} {o : Oper} {a : Act} {K : Act → World → Prop} {Q : Exit → Act → World → Prop} {E : Prop} (hgd : o.guard = none) (s x : Operand)
    (ho : o.op = .call { callee := .builtin .append, args := #[s, x], argTypes := #[31, 31] }) (hty : o.type = 31) {v : Value} {base base2 c m N : Nat} {L M : List ActD} {ao : Option Addr} (hs : a.eval s = v) (hx : a.eval x = .slice ao m c)
    (hm : M.length = m) (hN : (L ++ M).length = N) (hn : N ≤ 2097152) (hbase : base ≤ w.heap.size) (hr : w.ownsRow base 57 4 v L.length (actCells L)) (hM : w.ownsRow base2 57 4 (.slice ao m c) m (actCells M))
    (h : ∀ va vc w1, w1.ownsRow base 57 4 (.slice va N vc) N (actCells (L ++ M)) → w.grownBy w1 v.ownBlock → K (a.put o.dst (.slice va N vc)) w1) : if Region.wanted o (yielded ops a.tmps) = true then Oper.wp Tryz.prog o a w K Q else E := by
  have hw : Region.wanted o (yielded ops a.tmps) = true := by simp [Region.wanted, hgd]
  rw [if_pos hw]
  subst hm hN
  obtain ⟨v', W', hrun, h2, h3⟩ := append_acts (c := c) (by rw [← List.length_append]; exact hn) hbase hr hM
  obtain ⟨va, vc, rfl⟩ := row_shape h2
  unfold Oper.wp
  simp [execOp, ho, hty, resolve, invoke, builtin, hs, hx, hrun, Result.andThen]
  have h4 := h va vc W' h2 h3
  rw [List.length_append] at h4
  exact h4
end Go.Proofs.YtbifkpkhpaellaaGreatDoor

namespace Go.Proofs.YtbifkpkhpaellaaGreatDoor
open Go.RowKit

theorem half_xor (a b : Nat) : half (a ^^^ b) = half a ^^^ half b := by
  have hm : (a ^^^ b) % 2 = (a % 2 + b % 2) % 2 := by
    have h := Nat.testBit_xor a b 0
    simp only [Nat.testBit_zero] at h
    have e1 : a % 2 = 0 ∨ a % 2 = 1 := by omega
    have e2 : b % 2 = 0 ∨ b % 2 = 1 := by omega
    have e3 : (a ^^^ b) % 2 = 0 ∨ (a ^^^ b) % 2 = 1 := by omega
    rcases e1 with e1 | e1 <;> rcases e2 with e2 | e2 <;> rcases e3 with e3 | e3 <;> rw [e1, e2, e3] at h <;> simp at h <;> omega
  have hd : (a ^^^ b) / 2 = a / 2 ^^^ b / 2 := by
    apply Nat.eq_of_testBit_eq
    intro i
    simp only [Nat.testBit_xor, Nat.testBit_div_two]
  unfold half
  rw [hm, hd]
  have e1 : a % 2 = 0 ∨ a % 2 = 1 := by omega
  have e2 : b % 2 = 0 ∨ b % 2 = 1 := by omega
  rcases e1 with e1 | e1 <;> rcases e2 with e2 | e2 <;> simp only [e1, e2]
  · rfl
  · simp [Nat.xor_assoc]
  · have : a / 2 ^^^ b / 2 ^^^ 3558460437 = a / 2 ^^^ 3558460437 ^^^ b / 2 := by rw [Nat.xor_assoc, Nat.xor_assoc, Nat.xor_comm (b / 2)]
    simpa using this
  · have : a / 2 ^^^ 3558460437 ^^^ (b / 2 ^^^ 3558460437) = a / 2 ^^^ b / 2 := by
      rw [Nat.xor_comm (b / 2), ← Nat.xor_assoc, Nat.xor_assoc (a / 2), Nat.xor_self, Nat.xor_zero]
    simp [this]

theorem hsN_xor (k a b : Nat) : hsN k (a ^^^ b) = hsN k a ^^^ hsN k b := by
  induction k with
  | zero => rfl
  | succ k ih =>
    show half (hsN k (a ^^^ b)) = _
    rw [ih, half_xor]
    rfl

theorem half_even (y : Nat) : half (2 * y) = y := by
  unfold half
  rw [if_neg (by omega)]
  omega

theorem low_high (x : Nat) : x = (16 * (x / 16)) ^^^ (x % 16) := by
  apply Nat.eq_of_testBit_eq
  intro i
  rw [Nat.testBit_xor, show 16 * (x / 16) = 2 ^ 4 * (x / 2 ^ 4) from rfl, show x % 16 = x % 2 ^ 4 from rfl, Nat.testBit_two_pow_mul, Nat.testBit_mod_two_pow, Nat.testBit_div_two_pow]
  by_cases h : 4 ≤ i
  · have : ¬ i < 4 := by omega
    simp [h, this]
  · have : i < 4 := by omega
    simp [h, this]

theorem hsN_add (k j x : Nat) : hsN (k + j) x = hsN j (hsN k x) := by
  induction j with
  | zero => rfl
  | succ j ih => show half (hsN (k + j) x) = half (hsN j (hsN k x)); rw [ih]

theorem four_high (q : Nat) : hsN 4 (16 * q) = q := by
  show half (half (half (half (16 * q)))) = q
  rw [show 16 * q = 2 * (2 * (2 * (2 * q))) by omega, half_even, half_even, half_even, half_even]

theorem four_steps (x : Nat) : hsN 4 x = x / 16 ^^^ hsN 4 (x % 16) := by
  have h := congrArg (hsN 4) (low_high x)
  rw [hsN_xor, four_high] at h
  exact h

def stepsTab : List Int := [0, 1166650509, 2333301018, 3466261911, 3189058079, 4221339282, 889615109, 1888477064, 3558460437, 2442158232, 1594529039, 444807554, 1779230218, 797264519, 3776954128, 2761298845]
theorem stepsTab_at : ∀ r : Nat, r < 16 → stepsTab.getD r 0 = ((hsN 4 r : Nat) : Int) := by decide +kernel
end Go.Proofs.YtbifkpkhpaellaaGreatDoor

namespace Go.Proofs.YtbifkpkhpaellaaGreatDoor
open Go.RowKit

/-- the number ahead of a place, 0 at the first -/
def lastOf (zs : List Int) (k : Nat) : Int := match k with
  | 0 => 0
  | j + 1 => (zs[j]?).getD 0
theorem lastOf_step {zs : List Int} {k : Nat} (hk : k < zs.length) : lastOf zs (k + 1) = zs[k] := by
  rw [lastOf, List.getElem?_eq_getElem hk, Option.getD_some]
theorem rise_last {zs : List Int} {k : Nat} (hk : k < zs.length) (h : riseTo zs k = true) : (within zs[k] 1 4 && behindI zs k zs[k]) = true ↔ lastOf zs k < zs[k] ∧ zs[k] ≤ 4 := by
  cases k with
  | zero =>
    rw [Bool.and_eq_true, within_iff, lastOf, behindI]
    simp
    omega
  | succ j =>
    have hj : j < zs.length := by omega
    have h1 := riseTo_down h (Nat.le_refl (j + 1))
    rw [riseTo_step hj, Bool.and_eq_true, Bool.and_eq_true, within_iff] at h1
    rw [Bool.and_eq_true, within_iff, behindI_step hk, lastOf_step hj, decide_eq_true_eq]
    omega
theorem rise_on {zs : List Int} {k : Nat} (hk : k < zs.length) (h : riseTo zs k = true) (h1 : lastOf zs k < zs[k]) (h2 : zs[k] ≤ 4) : riseTo zs (k + 1) = true := by
  rw [riseTo_step hk, h, Bool.true_and]
  exact (rise_last hk h).2 ⟨h1, h2⟩
theorem rise_off {zs : List Int} {k : Nat} (hk : k < zs.length) (h : riseTo zs k = true) (h1 : ¬ (lastOf zs k < zs[k] ∧ zs[k] ≤ 4)) : riseTo zs zs.length = false := by
  refine not_rise hk ?_
  cases hb : (within zs[k] 1 4 && behindI zs k zs[k]) with
  | false => rfl
  | true => exact absurd ((rise_last hk h).1 hb) h1

/-- how many of the first k numbers are in a list -/
def countIn (zs ls : List Int) : Nat → Nat
  | 0 => 0
  | k + 1 => countIn zs ls k + match zs[k]? with
    | none => 0
    | some x => if x ∈ ls then 1 else 0
theorem countIn_step {zs ls : List Int} {k : Nat} (hk : k < zs.length) : countIn zs ls (k + 1) = countIn zs ls k + if zs[k] ∈ ls then 1 else 0 := by
  rw [countIn, List.getElem?_eq_getElem hk]
theorem countIn_le (zs ls : List Int) : ∀ k, countIn zs ls k ≤ k
  | 0 => Nat.le_refl _
  | k + 1 => by
    have := countIn_le zs ls k
    rw [countIn]
    split
    · omega
    · split <;> omega
def most (zs ls : List Int) : Bool := confOk zs && decide (zs.length < 2 * countIn zs ls zs.length)
end Go.Proofs.YtbifkpkhpaellaaGreatDoor
