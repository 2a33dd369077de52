/-
  Plain facts on the bytes of a number in sevens and on rows of bytes in memory; nothing of the program stands here.
  Plain facts on rows that a call owns; nothing of the program stands here.
  A block of memory of the call's own: its cells as a list; rows of elements of so many cells each.
  Session as data; rows of them in memory, one behind the other.
  An element of a row of Session, written; a row that was just made.
  Rows of the call's own that grow: what stands behind an append.
  Rows of the call's own between two sizes of memory; blocks laid one behind the other.
  Rows of Session of the call's own: they grow.
  Item as data; rows of them in memory, one behind the other.
  An element of a row of Item, written; a row that was just made.
  Rows of Item of the call's own: they grow.
  Rows of a keep in memory of the call's own.
  The first item of a Key; nothing of the program stands here.
  A number within bounds; nothing of the program stands here.
  Command as data; rows of them in memory, one behind the other.
  A command that is right; nothing of the program stands here.
  A keep that is right; nothing of the program stands here.
  Plain facts on figures; nothing of the program stands here.
  Plain facts on the values of figures; nothing of the program stands here.
  Plain facts on decimal figures; nothing of the program stands here.
  What a command does to a right keep; nothing of the program stands here.
  Facts on right keeps and on what a command does; nothing of the program stands here.
  A right keep stays right; nothing of the program stands here.
  A keep behind few commands: its Tokens and Lasts are small; nothing of the program stands here.
  What Perform answers.
  Plain facts on reading a number in sevens; nothing of the program stands here.
  Plain facts: a number in sevens is read back; nothing of the program stands here.
  What a keep is as a text; nothing of the program stands here.
  What a command is as a text; nothing of the program stands here.
  Plain facts on confs: when one is right, and their texts; nothing of the program stands here.
  Numbers in memory, one behind the other.
  Plain facts on the texts of confs; rows of numbers in memory; nothing of the program stands here.
  Entries as plain data: when one is right, and its text; nothing of the program stands here.
  Plain facts on reading an entry's text; nothing of the program stands here.
  Plain facts on reading a short text; nothing of the program stands here.
  Plain facts on check sums of 32 bits; nothing of the program stands here.
  Plain facts on sealed texts: what is sealed is unsealed; with one byte turned it is not.
  Snapshots as data, and their texts; nothing of the program stands here.
  Two facts that both sums use.
  The name of a snapshot's file; nothing of the program stands here.
  Files as data, in memory.
  A file's cells and size, as the program tells them; blocks that are laid anew.
  Disks as plain data: when one is right.
  Acts as data.
  What the power leaves of a disk, as plain data.
  Acts in memory.
  Acts in memory, one behind the other.
  Rows of acts of the call's own: they grow.
  Plain facts on reading figures two by two; nothing of the program stands here.
  Plain facts: what is written is read back; nothing of the program stands here.
  Names that are a letter and a number; nothing of the program stands here.
  Acts that drop files by their names, in the order of a right disk's files; nothing of the program stands here.
  The acts that write a snapshot, chunk by chunk; nothing of the program stands here.
  What is read of a text as a snapshot; nothing of the program stands here.
  Memory stands while orders are drawn.
  Blocks that stand where others are written or new ones come; nothing of the program stands here.
  What both readers of a snapshot answer; rows of numbers that stand while other blocks are written.
  The newest snapshot of a disk's files; nothing of the program stands here.
  The acts that leave the newest snapshot alone; nothing of the program stands here.
  Plain facts on confs: a number held against the one ahead of it; how many of a conf are in a list; nothing of the program stands here.
  A right conf comes back from its text; what a drawn right entry is.
  Files in rows of the call's own: where they lie.
  Plain facts on four steps of a check sum at once, by a table of sixteen.
  Parts of a text, read one behind the other; nothing of the program stands here.
  What a function with deferred calls leaves doesn't hang on slots that are no results; nothing of the program stands here.
-/
import Derived.WalkKit
import Derived.Maps.AppendAt
import Derived.RowKit
import Derived.WalkSmall
import Derived.BigQuiet
import Derived.Deep.LoopGhost
import Derived.Test.YtoanhjjigbjecaaGreatDoorRows
import Derived.OwnWalk
import Derived.Laws.AppendOwn
import Derived.Sort.Walk0
import Derived.Laws.Cover1
import Derived.Deep.Draws
import Derived.Defers
import Derived.Recover
namespace Go.Proofs.YtoanhjjigbjecaaGreatDoor
open Go.RowKit

/-- the bytes of n, seven bits a byte, the least first (with so many steps at the most) -/
def vbF : Nat → Nat → List UInt8
  | 0, n => [UInt8.ofNat n]
  | f + 1, n => if n ≤ 127 then [UInt8.ofNat n] else UInt8.ofNat (n % 128 + 128) :: vbF f (n / 128)
/-- the bytes of n, seven bits a byte, the least first -/
def vb (n : Nat) : List UInt8 := vbF n n

theorem vbF_eq : ∀ (f g n : Nat), n ≤ f → n ≤ g → vbF f n = vbF g n
  | 0, 0, _, _, _ => rfl
  | 0, g + 1, n, h, _ => by
    obtain rfl : n = 0 := by omega
    rw [vbF, vbF, if_pos (by omega)]
  | f + 1, 0, n, _, h => by
    obtain rfl : n = 0 := by omega
    rw [vbF, vbF, if_pos (by omega)]
  | f + 1, g + 1, n, h1, h2 => by
    rw [vbF, vbF]
    by_cases h : n ≤ 127
    · rw [if_pos h, if_pos h]
    · rw [if_neg h, if_neg h, vbF_eq f g (n / 128) (by omega) (by omega)]
theorem vb_small {n : Nat} (h : n ≤ 127) : vb n = [UInt8.ofNat n] := by
  rw [vb, vbF_eq n (n + 1) n (Nat.le_refl _) (by omega), vbF, if_pos h]
theorem vb_big {n : Nat} (h : 127 < n) : vb n = UInt8.ofNat (n % 128 + 128) :: vb (n / 128) := by
  rw [vb, vbF_eq n (n + 1) n (Nat.le_refl _) (by omega), vbF, if_neg (by omega), vb, vbF_eq n (n / 128) (n / 128) (by omega) (Nat.le_refl _)]

theorem vb_pos (n : Nat) : 0 < (vb n).length := by
  by_cases h : n ≤ 127
  · rw [vb_small h]; simp
  · rw [vb_big (by omega)]; simp

theorem vb_le (n : Nat) : (vb n).length ≤ n + 1 := by
  induction n using Nat.strongRecOn with
  | _ n ih =>
    by_cases h : n ≤ 127
    · rw [vb_small h]; simp
    · rw [vb_big (by omega)]
      have := ih (n / 128) (by omega)
      simp only [List.length_cons]
      omega

/-- bytes as the cells of a row -/
def cs (l : List UInt8) : List Value := l.map fun b => Value.int .u8 (b.toNat : Int)

theorem cs_append (l r : List UInt8) : cs (l ++ r) = cs l ++ cs r := by simp [cs]
theorem cs_length (l : List UInt8) : (cs l).length = l.length := by simp [cs]
theorem cs_one {x : Int} (h0 : 0 ≤ x) (h1 : x ≤ 255) : [Value.int .u8 x] = cs [UInt8.ofNat x.toNat] := by
  simp [cs]
  omega

/-- a row that the call owns, turned into a text -/
theorem text_of_row {P : Program} {w : World} {base : Nat} {v : Value} {l : List UInt8} {src dst e : TypeId} (hs : P.underlying src = some (.slice e)) (he : P.underlying e = some (.int .u8)) (hd : P.underlying dst = some .string)
    (h : w.ownsRow base e 1 v l.length (cs l)) : (convert src dst v).run P w = .ok (.string ⟨l.toArray⟩) w := by
  obtain ⟨h1, h2⟩ := h
  rcases h2 with ⟨hv, hn⟩ | ⟨g, cap, cur, hv, hg, hh, hle, hm, hsz, hx⟩
  · have hl : l = [] := by cases l with | nil => rfl | cons a r => simp at hn
    subst hl hv
    exact run_convert_bytes_nil w src e hs he 0 0 dst hd
  · subst hv
    refine run_convert_bytes_back w src dst e ⟨g, 0, none⟩ cap l hs he hd fun j hj => ?_
    have hu : (cs l)[j]? = some (.int .u8 (l[j].toNat : Int)) := by simp [cs, hj]
    exact World.ownsRow.cells (w := w) (base := base) (e := e) (size := 1) ⟨h1, Or.inr ⟨g, cap, cur, rfl, hg, hh, hle, hm, hsz, hx⟩⟩ rfl j _ hu

/-- a piece of a text, its bounds as whole numbers -/
theorem slice_nat {P : Program} {t : TypeId} (h : P.underlying t = some .string) (s : ByteArray) (a b : Nat) (x y : Int) (hx : x = a) (hy : y = b) (hab : a ≤ b) (hb : b ≤ s.size) (w : World) :
    (Instr.slice t (.string s) (some (.int .i64 x)) (some (.int .i64 y)) none).run P w = .ok (.string (s.extract a b)) w := by
  subst hx hy
  rw [run_slice_string w t s .i64 .i64 a b h (by omega) (by omega) (by omega)]
  simp

theorem extract_eq (s : ByteArray) (a b : Nat) : (s.extract a b).data.toList = (s.data.toList.drop a).take (b - a) := by
  simp [ByteArray.extract, ByteArray.copySlice]

theorem var_step {n m : Nat} {acc : List UInt8} {w wr w1 : World} {v v' : Value} (hm : 127 < m) (hacc : acc ++ vb m = vb n) (hown : wr.ownsRow w.heap.size 5 1 v acc.length (cs acc))
    (hown' : w1.ownsRow w.heap.size 5 1 v' (acc.length + 1) (cs acc ++ [.int .u8 ((m : Int) % 128 + 128)])) (hgrow : (wr.alloc (.cells #[.int .u8 ((m : Int) % 128 + 128)] 5)).grownBy w1 v.ownBlock) (hb : Below w.heap.size w wr) :
    (acc ++ [UInt8.ofNat (m % 128 + 128)]) ++ vb (m / 128) = vb n ∧ w1.ownsRow w.heap.size 5 1 v' (acc ++ [UInt8.ofNat (m % 128 + 128)]).length (cs (acc ++ [UInt8.ofNat (m % 128 + 128)])) ∧ Below w.heap.size w w1 := by
  refine ⟨by rw [← hacc, vb_big hm]; simp, ?_, (hb.alloc hb.size _).grown hgrow (by have := hb.size; simp; omega) (fun k hk => (hown.lt k hk).1)⟩
  have e : [Value.int .u8 ((m : Int) % 128 + 128)] = cs [UInt8.ofNat (m % 128 + 128)] := by
    rw [cs_one (by omega) (by omega)]
    have : ((m : Int) % 128 + 128).toNat = m % 128 + 128 := by omega
    rw [this]
  rw [e, ← cs_append] at hown'
  simpa using hown'

theorem var_end {n m : Nat} {acc : List UInt8} {w wr w1 : World} {v v' : Value} (hm : m ≤ 127) (hacc : acc ++ vb m = vb n) (hown : wr.ownsRow w.heap.size 5 1 v acc.length (cs acc))
    (hown' : w1.ownsRow w.heap.size 5 1 v' (acc.length + 1) (cs acc ++ [.int .u8 (m : Int)])) (hgrow : (wr.alloc (.cells #[.int .u8 (m : Int)] 5)).grownBy w1 v.ownBlock) (hb : Below w.heap.size w wr) :
    w1.ownsRow w.heap.size 5 1 v' (vb n).length (cs (vb n)) ∧ Below w.heap.size w w1 := by
  refine ⟨?_, (hb.alloc hb.size _).grown hgrow (by have := hb.size; simp; omega) (fun k hk => (hown.lt k hk).1)⟩
  have e : [Value.int .u8 (m : Int)] = cs [UInt8.ofNat m] := by
    rw [cs_one (by omega) (by omega)]
    simp
  rw [e, ← cs_append, ← vb_small hm, hacc] at hown'
  have hl : acc.length + 1 = (vb n).length := by rw [← hacc, vb_small hm]; simp
  rw [hl] at hown'
  exact hown'

end Go.Proofs.YtoanhjjigbjecaaGreatDoor

namespace Go.Proofs.YtoanhjjigbjecaaGreatDoor
open Go.RowKit

theorem grown_of_below {w w' : World} (h : Below w.heap.size w w') (row : Option Nat) : w.grownBy w' row := ⟨h.os, h.tape, h.output, h.size, fun k hk _ => h.block k hk⟩

theorem add_at (g j : Nat) : (⟨g, 0, none⟩ : Addr).add j = ⟨g, j, none⟩ := by
  simp only [Addr.add]
  split
  · simp_all
  · simp

/-- where an owned row lies -/
theorem row_lie {w : World} {base : Nat} {e : TypeId} {v : Value} {n : Nat} {xs : List Value} (h : w.ownsRow base e 1 v n xs) :
    xs.length = n ∧ ∃ ao cap, v = .slice ao n cap ∧ (0 < n → ∃ g, ao = some ⟨g, 0, none⟩ ∧ base ≤ g ∧ g < w.heap.size ∧ n ≤ cap ∧ v.ownBlock = some g ∧ (∀ (j : Nat) u, xs[j]? = some u → w.cell? ⟨g, j, none⟩ = some u) ∧ ∀ j, w.frozen? ⟨g, j, none⟩ = false) := by
  have h' := h
  obtain ⟨h1, h2⟩ := h
  refine ⟨by omega, ?_⟩
  rcases h2 with ⟨hv, hn⟩ | ⟨g, cap, cur, hv, hgb, hh, hle, hmx, hsz, hx⟩
  · exact ⟨none, 0, by rw [hv, hn], fun h0 => by omega⟩
  · refine ⟨_, cap, hv, fun _ => ⟨g, rfl, hgb, (h'.lt g (by rw [hv]; rfl)).2, hle, by rw [hv]; rfl, fun j u hu => ?_, fun j => ?_⟩⟩
    · have := h'.cells (g := g) (by rw [hv]; rfl) j _ hu
      rw [add_at] at this
      exact this
    · simp [World.frozen?, hh]

/-- an owned row, one of its cells written -/
theorem ownsRow_set {w : World} {base : Nat} {e : TypeId} {v : Value} {n : Nat} {xs : List Value} (h : w.ownsRow base e 1 v n xs) {g : Nat} (hg : v.ownBlock = some g) (k : Nat) (u : Value) :
    (w.setCell ⟨g, k, none⟩ u).ownsRow base e 1 v n (xs.set k u) := by
  obtain ⟨h1, h2⟩ := h
  rcases h2 with ⟨hv, hn⟩ | ⟨g', cap, cur, hv, hgb, hh, hle, hmx, hsz, hx⟩
  · rw [hv] at hg; cases hg
  · rw [hv] at hg
    simp only [Value.ownBlock, Option.some.injEq] at hg
    subst hg
    refine ⟨by simpa using h1, Or.inr ⟨g', cap, cur.setIfInBounds k u, hv, hgb, ?_, hle, hmx, by simpa using hsz, ?_⟩⟩
    · simp only [World.setCell]
      rw [Array.getElem?_modify, if_pos rfl, hh]
      rfl
    · rw [Array.toList_setIfInBounds, ← hx, List.take_set]

/-- a place of an owned row may be written -/
theorem at_row {w : World} {base : Nat} {e : TypeId} {g n c : Nat} {xs : List Value} (h : w.ownsRow base e 1 (.slice (some ⟨g, 0, none⟩) n c) n xs) (k : Nat) (hk : k < n) : ∃ u, w.cell? ⟨g, k, none⟩ = some u ∧ w.frozen? ⟨g, k, none⟩ = false := by
  obtain ⟨hl, ao, cap, hv, hf⟩ := row_lie h
  obtain ⟨g', e1, _, _, _, _, hc, hz⟩ := hf (by omega)
  simp only [Value.slice.injEq] at hv
  obtain ⟨rfl, _, _⟩ := hv
  simp only [Option.some.injEq, Addr.mk.injEq, and_true] at e1
  subst e1
  have hk' : k < xs.length := by omega
  exact ⟨xs[k], hc k _ (List.getElem?_eq_getElem hk'), hz k⟩

theorem grownBy_set (w : World) (g k : Nat) (u : Value) : w.grownBy (w.setCell ⟨g, k, none⟩ u) (some g) :=
  ⟨rfl, rfl, rfl, by simp [World.setCell], fun j _ hj => Below.heap_setCell _ _ _ _ (fun e => hj (by simp [e]))⟩

/-- the one cell of a new block -/
theorem one_new (w : World) (x : Value) (t : TypeId) : ∀ (j : Nat) u, [x][j]? = some u → (w.alloc (.cells #[x] t)).cell? ((⟨w.heap.size, 0, none⟩ : Addr).add j) = some u := by
  intro j u hj
  match j, hj with
  | 0, hj => simp at hj; subst hj; simp [Addr.add]

/-- texts as the cells of a row -/
def st (l : List ByteArray) : List Value := l.map Value.string
theorem st_append (l r : List ByteArray) : st (l ++ r) = st l ++ st r := by simp [st]
theorem st_length (l : List ByteArray) : (st l).length = l.length := by simp [st]
theorem st_at (l : List ByteArray) (k : Nat) (h : k < l.length) : (st l)[k]? = some (.string l[k]) := by simp [st, h]
end Go.Proofs.YtoanhjjigbjecaaGreatDoor

namespace Go.Proofs.YtoanhjjigbjecaaGreatDoor
open Go.RowKit

/-- hidden from the walk -/
theorem hid {p : Prop} (h : p) : Hid p := h
theorem below_more {w w' : World} (h : Below w.heap.size w w') (o : Obj) : Below w.heap.size w (w'.alloc o) := h.alloc h.size o
theorem below_via {w w1 w2 : World} (h : Below w.heap.size w w1) (h2 : Below w1.heap.size w1 w2) : Below w.heap.size w w2 := h.trans (h2.mono h.size)

/-- block g holds just these cells, of elements of type t -/
def BlockIs (w : World) (g : Nat) (t : TypeId) (cs : List Value) : Prop := w.heap[g]? = some (.cells cs.toArray t (0, 0))

theorem BlockIs.lt {w : World} {g : Nat} {t : TypeId} {cs : List Value} (h : BlockIs w g t cs) : g < w.heap.size := by
  rcases Nat.lt_or_ge g w.heap.size with q | q
  · exact q
  · rw [BlockIs, Array.getElem?_eq_none q] at h; cases h
theorem BlockIs.cell {w : World} {g : Nat} {t : TypeId} {cs : List Value} (h : BlockIs w g t cs) {j : Nat} {v : Value} (hj : cs[j]? = some v) : w.cell? ⟨g, j, none⟩ = some v := by
  unfold BlockIs at h
  simp [World.cell?, h, hj]
theorem BlockIs.thaw {w : World} {g : Nat} {t : TypeId} {cs : List Value} (h : BlockIs w g t cs) (j : Nat) : w.frozen? ⟨g, j, none⟩ = false := by
  unfold BlockIs at h
  simp [World.frozen?, h]
theorem BlockIs.set {w : World} {g : Nat} {t : TypeId} {cs : List Value} (h : BlockIs w g t cs) (j : Nat) (v : Value) : BlockIs (w.setCell ⟨g, j, none⟩ v) g t (cs.set j v) := by
  unfold BlockIs at h ⊢
  simp only [World.setCell]
  rw [Array.getElem?_modify, if_pos rfl, h]
  simp [Array.setIfInBounds]
  exact fun hj => (List.set_eq_of_length_le hj).symm
theorem BlockIs.far {w : World} {g : Nat} {t : TypeId} {cs : List Value} (h : BlockIs w g t cs) {b j : Nat} (hb : b ≠ g) (v : Value) : BlockIs (w.setCell ⟨b, j, none⟩ v) g t cs := by
  unfold BlockIs at h ⊢
  simp only [World.setCell]
  rw [Array.getElem?_modify, if_neg hb]
  exact h
theorem BlockIs.on {w w' : World} {g : Nat} {t : TypeId} {cs : List Value} (h : BlockIs w g t cs) {B : Nat} (hb : Below B w w') (hg : g < B) : BlockIs w' g t cs := by
  unfold BlockIs
  rw [hb.block g hg]
  exact h
theorem BlockIs.made {w' : World} {g base : Nat} {t : TypeId} {n size : Nat} {xs : List Value} (h : w'.ownsRow base t size (.slice (some ⟨g, 0, none⟩) n n) n xs) : BlockIs w' g t xs := by
  obtain ⟨hx, (⟨h1, _⟩ | ⟨g', cap, cur, h1, _, hg, _, _, hs, ht⟩)⟩ := h
  · cases h1
  · cases h1
    unfold BlockIs
    rw [hg]
    have : cur.toList = xs := by rw [← ht, List.take_of_length_le (by simp [hs])]
    rw [← this]

/-- a cell of a row of elements of m cells each -/
theorem row_at {α : Type} (enc : α → List Value) (m : Nat) (hm : ∀ a, (enc a).length = m) (l : List α) (r : List Value) (j c : Nat) (hj : j < l.length) (hc : c < m) : (l.flatMap enc ++ r)[j * m + c]? = (enc l[j])[c]? := by
  induction l generalizing j with
  | nil => simp at hj
  | cons a l ih =>
    cases j with
    | zero =>
      simp only [List.flatMap_cons, Nat.zero_mul, Nat.zero_add, List.getElem_cons_zero, List.append_assoc]
      rw [List.getElem?_append_left (by rw [hm]; exact hc)]
    | succ j =>
      simp only [List.flatMap_cons, List.getElem_cons_succ, List.append_assoc]
      rw [List.getElem?_append_right (by rw [hm, Nat.succ_mul]; omega), hm, show (j + 1) * m + c - m = j * m + c by rw [Nat.succ_mul]; omega]
      exact ih j (by simpa using hj)
theorem row_length {α : Type} (enc : α → List Value) (m : Nat) (hm : ∀ a, (enc a).length = m) (l : List α) : (l.flatMap enc).length = l.length * m := by
  induction l with
  | nil => simp
  | cons a l ih => simp only [List.flatMap_cons, List.length_append, hm, ih, List.length_cons, Nat.succ_mul]; omega
/-- three cells of a list, written -/
theorem set_three (p : List Value) (a b c x y z : Value) (r : List Value) : (((p ++ x :: y :: z :: r).set p.length a).set (p.length + 1) b).set (p.length + 2) c = p ++ a :: b :: c :: r := by
  rw [List.set_append_right _ _ (Nat.le_refl _), List.set_append_right _ _ (by omega), List.set_append_right _ _ (by omega)]
  simp
end Go.Proofs.YtoanhjjigbjecaaGreatDoor

namespace Go.Proofs.YtoanhjjigbjecaaGreatDoor
open Go.RowKit

structure SessionD where
  token : Int
  last : Int
  reply : ByteArray
/-- numbers that are numbers, texts that are texts -/
def SessionD.Fits (e : SessionD) : Prop := (-9223372036854775808 ≤ e.token ∧ e.token ≤ 9223372036854775807) ∧ (-9223372036854775808 ≤ e.last ∧ e.last ≤ 9223372036854775807) ∧ e.reply.size ≤ maxLen
def sessionEnc (e : SessionD) : List Value := [.int .i64 e.token, .int .i64 e.last, .string e.reply]
/-- the cells of a row -/
def sessionCells (l : List SessionD) : List Value := l.flatMap sessionEnc
theorem sessionCells_length (l : List SessionD) : (sessionCells l).length = l.length * 3 := row_length sessionEnc 3 (fun _ => rfl) l
theorem sessionCells_take (l : List SessionD) (k : Nat) (h : k < l.length) : sessionCells (l.take (k + 1)) = sessionCells (l.take k) ++ sessionEnc l[k] := by
  rw [List.take_succ_eq_append_getElem h, sessionCells, sessionCells, List.flatMap_append]
  simp
/-- how many letters -/
def sessionOne (e : SessionD) : Int := (e.reply.size : Int)
theorem sessionOne_nonneg (e : SessionD) : 0 ≤ sessionOne e := by unfold sessionOne; omega
def sessionBulk : List SessionD → Int
  | [] => 0
  | f :: l => sessionOne f + sessionBulk l
theorem sessionBulk_nonneg (l : List SessionD) : 0 ≤ sessionBulk l := by
  induction l with
  | nil => exact Int.le_refl 0
  | cons f l ih => have := sessionOne_nonneg f; simp only [sessionBulk]; omega
theorem sessionBulk_take (l : List SessionD) (k : Nat) (h : k < l.length) : sessionBulk (l.take (k + 1)) = sessionBulk (l.take k) + sessionOne l[k] := by
  induction l generalizing k with
  | nil => simp at h
  | cons f l ih =>
    cases k with
    | zero => simp [sessionBulk]
    | succ k =>
      have := ih k (by simpa using h)
      simp only [List.take_succ_cons, sessionBulk, List.getElem_cons_succ] at this ⊢
      omega
theorem sessionBulk_le (l : List SessionD) (k : Nat) : sessionBulk (l.take k) ≤ sessionBulk l := by
  induction l generalizing k with
  | nil => simp [sessionBulk]
  | cons f l ih =>
    cases k with
    | zero => have := sessionBulk_nonneg (f :: l); simpa [sessionBulk] using this
    | succ k => have := ih k; simp only [List.take_succ_cons, sessionBulk]; omega
theorem session_le_bulk {l : List SessionD} {f : SessionD} (h : f ∈ l) : sessionOne f ≤ sessionBulk l := by
  induction l with
  | nil => cases h
  | cons g l ih =>
    simp only [sessionBulk]
    have := sessionBulk_nonneg l
    have := sessionOne_nonneg g
    rcases List.mem_cons.1 h with e | e
    · subst e; omega
    · have := ih e; omega
/-- few and short -/
def SessionsSmall (l : List SessionD) : Prop := l.length ≤ 1048576 ∧ ∀ f ∈ l, sessionOne f ≤ 1048576
theorem sessionsSmall {l : List SessionD} (h : 0 ≤ (1048576 : Int) - l.length - sessionBulk l) : SessionsSmall l := by
  have := sessionBulk_nonneg l
  exact ⟨by omega, fun f hf => by have := session_le_bulk hf; omega⟩
/-- they lie at an address, one behind the other -/
def SessionsAt (w : World) (ao : Option Addr) (l : List SessionD) : Prop :=
  l ≠ [] → ∃ b off, ao = some ⟨b, off, none⟩ ∧ ∀ j (hj : j < l.length), w.cell? ⟨b, off + j * 3, none⟩ = some (.int .i64 l[j].token) ∧ w.cell? ⟨b, off + j * 3 + 1, none⟩ = some (.int .i64 l[j].last) ∧ w.cell? ⟨b, off + j * 3 + 2, none⟩ = some (.string l[j].reply)
theorem sessionsAt_of {w : World} {g : Nat} {t : TypeId} {l : List SessionD} {r : List Value} (h : BlockIs w g t (sessionCells l ++ r)) : SessionsAt w (some ⟨g, 0, none⟩) l := by
  intro _
  refine ⟨g, 0, rfl, fun j hj => ?_⟩
  rw [Nat.zero_add]
  exact ⟨h.cell (row_at sessionEnc 3 (fun _ => rfl) l r j 0 hj (by omega)), h.cell (row_at sessionEnc 3 (fun _ => rfl) l r j 1 hj (by omega)), h.cell (row_at sessionEnc 3 (fun _ => rfl) l r j 2 hj (by omega))⟩
def SessionsFit (l : List SessionD) : Prop := ∀ j (hj : j < l.length), l[j].Fits
theorem SessionsAt.on {w w' : World} {ao : Option Addr} {l : List SessionD} (h : SessionsAt w ao l) (hb : Below w.heap.size w w') : SessionsAt w' ao l := by
  intro h0
  obtain ⟨b, off, e1, e2⟩ := h h0
  refine ⟨b, off, e1, fun j hj => ?_⟩
  obtain ⟨x0, x1, x2⟩ := e2 j hj
  exact ⟨(hb.cell (p := ⟨b, off + j * 3, none⟩) (World.block_lt_of_cell? w _ x0)).trans x0, (hb.cell (p := ⟨b, off + j * 3 + 1, none⟩) (World.block_lt_of_cell? w _ x1)).trans x1, (hb.cell (p := ⟨b, off + j * 3 + 2, none⟩) (World.block_lt_of_cell? w _ x2)).trans x2⟩
/-- cells of a list, written -/
theorem session_sets (p : List Value) (a0 a1 a2 o0 o1 o2 : Value) (r : List Value) : (((p ++ o0 :: o1 :: o2 :: r).set (p.length) a0).set (p.length + 1) a1).set (p.length + 2) a2 = p ++ a0 :: a1 :: a2 :: r := by
  rw [List.set_append_right _ _ (Nat.le_refl _), List.set_append_right _ _ (by omega), List.set_append_right _ _ (by omega)]
  simp
theorem session_set_other {cs : List Value} {i j : Nat} {v u : Value} (h : cs[j]? = some u) (hij : i ≠ j) : (cs.set i v)[j]? = some u := by
  rw [List.getElem?_set_ne hij]; exact h
end Go.Proofs.YtoanhjjigbjecaaGreatDoor

namespace Go.Proofs.YtoanhjjigbjecaaGreatDoor
open Go.RowKit

theorem toSession_info : (Tryz.prog.info? 86).map (fun i => (i.zero, i.size, i.bytes)) = some (some (.agg #[.int .i64 0, .int .i64 0, .string ByteArray.empty]), 3, 32) := by kernel_rfl
/-- an element's cells are written -/
theorem put_session {w w2 : World} {g k : Nat} {t : TypeId} {l : List SessionD} {r : List Value} (hk : k < l.length) (h : BlockIs w g t (sessionCells (l.take k) ++ r)) (hr : r.length = (l.length - k) * 3) {B : Nat} (hb : Below B w w2) (hg : g < B) :
    (∃ o0 o1 o2, w2.cell? ⟨g, k * 3, none⟩ = some o0 ∧ w2.cell? ⟨g, k * 3 + 1, none⟩ = some o1 ∧ w2.cell? ⟨g, k * 3 + 2, none⟩ = some o2) ∧ (∀ j, w2.frozen? ⟨g, j, none⟩ = false) ∧
    ∃ r', r'.length = (l.length - (k + 1)) * 3 ∧ BlockIs (((w2.setCell ⟨g, k * 3, none⟩ (.int .i64 l[k].token)).setCell ⟨g, k * 3 + 1, none⟩ (.int .i64 l[k].last)).setCell ⟨g, k * 3 + 2, none⟩ (.string l[k].reply)) g t (sessionCells (l.take (k + 1)) ++ r') := by
  have h2 := h.on hb hg
  have hlen : (sessionCells (l.take k)).length = k * 3 := by rw [sessionCells_length, List.length_take]; omega
  match r, hr with
  | z0 :: z1 :: z2 :: r', hr =>
    have hs := ((h2.set (k * 3) (.int .i64 l[k].token)).set (k * 3 + 1) (.int .i64 l[k].last)).set (k * 3 + 2) (.string l[k].reply)
    have e3 := session_sets (sessionCells (l.take k)) (.int .i64 l[k].token) (.int .i64 l[k].last) (.string l[k].reply) z0 z1 z2 r'
    rw [hlen] at e3
    rw [e3] at hs
    refine ⟨⟨z0, z1, z2, h2.cell ?_, h2.cell ?_, h2.cell ?_⟩, fun j => h2.thaw j, r', ?_, ?_⟩
    · rw [List.getElem?_append_right (by omega), hlen, Nat.sub_self]; rfl
    · rw [List.getElem?_append_right (by omega), hlen, show k * 3 + 1 - k * 3 = 1 by omega]; rfl
    · rw [List.getElem?_append_right (by omega), hlen, show k * 3 + 2 - k * 3 = 2 by omega]; rfl
    · simp at hr; omega
    · rw [sessionCells_take l k hk, List.append_assoc]
      exact hs
  | [], hr => simp at hr; omega
  | [_], hr => simp at hr; omega
  | [_, _], hr => simp at hr; omega

theorem made_session (n : Nat) : (madeCells (Value.agg #[.int .i64 0, .int .i64 0, .string ByteArray.empty]).cells (n * 3)).toList.length = n * 3 := by
  simp [madeCells]
end Go.Proofs.YtoanhjjigbjecaaGreatDoor

namespace Go.Proofs.YtoanhjjigbjecaaGreatDoor
open Go.RowKit

theorem row_shape {w : World} {base size n : Nat} {t : TypeId} {v : Value} {xs : List Value} (h : w.ownsRow base t size v n xs) : ∃ a c, v = .slice a n c := by
  obtain ⟨_, (⟨rfl, rfl⟩ | ⟨g, cap, _, rfl, _⟩)⟩ := h
  · exact ⟨_, _, rfl⟩
  · exact ⟨_, _, rfl⟩
theorem row_down {w : World} {base base' size n : Nat} {t : TypeId} {v : Value} {xs : List Value} (h : w.ownsRow base t size v n xs) (hb : base' ≤ base) : w.ownsRow base' t size v n xs :=
  ⟨h.1, h.2.imp id fun ⟨g, cap, cur, a, b, r⟩ => ⟨g, cap, cur, a, Nat.le_trans hb b, r⟩⟩
/-- behind an append to a row of the call's own: all that was there ahead of the row stands -/
theorem behind_append {w wr w1 : World} {v : Value} {base n : Nat} {t : TypeId} {size : Nat} {xs : List Value} {o : Obj} (hB : w.heap.size ≤ base) (BR : Below w.heap.size w wr) (OR : wr.ownsRow base t size v n xs) (hz : base ≤ wr.heap.size) (hg : (wr.alloc o).drew.grownBy w1 v.ownBlock) :
    Below w.heap.size w w1 ∧ base ≤ w1.heap.size ∧ ∀ j tj cs, j < base → BlockIs wr j tj cs → BlockIs w1 j tj cs := by
  have hown : ∀ j, v.ownBlock = some j → base ≤ j := fun j hj => (OR.lt j hj).1
  have hd : Below wr.heap.size wr (wr.alloc o).drew := below_drewN (below_more (Below.refl _ wr) o) 1
  have h1 : Below base wr w1 := ((hd.mono hz).grown hg (Nat.le_trans hz hd.size) hown)
  refine ⟨BR.trans (h1.mono hB), Nat.le_trans hz h1.size, fun j tj cs hj hb => hb.on h1 hj⟩
end Go.Proofs.YtoanhjjigbjecaaGreatDoor

namespace Go.Proofs.YtoanhjjigbjecaaGreatDoor
open Go.RowKit

/-- four blocks laid one behind the other -/
theorem four_log (w : World) (o p q : Obj) : Below w.heap.size w (((w.alloc o).alloc p).alloc q) ∧ (((w.alloc o).alloc p).alloc q).heap[w.heap.size]? = some o ∧ (((w.alloc o).alloc p).alloc q).heap[w.heap.size + 1]? = some p ∧ (((w.alloc o).alloc p).alloc q).heap[w.heap.size + 1 + 1]? = some q := by
  refine ⟨below_more (below_more (below_more (Below.refl _ w) _) _) _, ?_, ?_, ?_⟩
  · show (((w.heap.push o).push p).push q)[w.heap.size]? = some o
    rw [Array.getElem?_push, if_neg (by simp; omega), Array.getElem?_push, if_neg (by simp), Array.getElem?_push, if_pos rfl]
  · show (((w.heap.push o).push p).push q)[w.heap.size + 1]? = some p
    rw [Array.getElem?_push, if_neg (by simp), Array.getElem?_push, if_pos (by simp)]
  · show (((w.heap.push o).push p).push q)[w.heap.size + 1 + 1]? = some q
    rw [Array.getElem?_push, if_pos (by simp)]

/-- a row of the call's own, made between two sizes of memory -/
def OwnAt (w : World) (t : TypeId) (cs : List Value) (n : Nat) (va : Option Addr) (lo hi : Nat) : Prop :=
  n = 0 ∨ ∃ g r, va = some ⟨g, 0, none⟩ ∧ lo ≤ g ∧ g < hi ∧ BlockIs w g t (cs ++ r)
theorem OwnAt.on {w w' : World} {t : TypeId} {cs : List Value} {n : Nat} {va : Option Addr} {lo hi : Nat} (h : OwnAt w t cs n va lo hi) (hb : Below w.heap.size w w') : OwnAt w' t cs n va lo hi :=
  h.imp id fun ⟨g, r, a, b, c, d⟩ => ⟨g, r, a, b, c, d.on hb d.lt⟩
theorem OwnAt.down {w : World} {t : TypeId} {cs : List Value} {n : Nat} {va : Option Addr} {lo hi lo' hi' : Nat} (h : OwnAt w t cs n va lo hi) (h1 : lo' ≤ lo) (h2 : hi ≤ hi') : OwnAt w t cs n va lo' hi' :=
  h.imp id fun ⟨g, r, a, b, c, d⟩ => ⟨g, r, a, Nat.le_trans h1 b, Nat.lt_of_lt_of_le c h2, d⟩
/-- a cell below is written -/
theorem OwnAt.far {w : World} {t : TypeId} {cs : List Value} {n : Nat} {va : Option Addr} {lo b j : Nat} (h : OwnAt w t cs n va lo w.heap.size) (hb : b < lo) (v : Value) : OwnAt (w.setCell ⟨b, j, none⟩ v) t cs n va lo (w.setCell ⟨b, j, none⟩ v).heap.size := by
  rw [World.size_setCell]
  exact h.imp id fun ⟨g, r, a, c, d, e⟩ => ⟨g, r, a, c, d, e.far (by omega) v⟩
/-- nothing but blocks between two sizes has turned -/
def KeptBut (lo hi : Nat) (w w' : World) : Prop := ∀ j t cs, ¬ (lo ≤ j ∧ j < hi) → BlockIs w j t cs → BlockIs w' j t cs
theorem OwnAt.kept {w w' : World} {t : TypeId} {cs : List Value} {n : Nat} {va : Option Addr} {lo hi lo2 hi2 : Nat} (h : OwnAt w t cs n va lo hi) (hk : KeptBut lo2 hi2 w w') (ho : hi ≤ lo2 ∨ hi2 ≤ lo) : OwnAt w' t cs n va lo hi :=
  h.imp id fun ⟨g, r, a, b, c, d⟩ => ⟨g, r, a, b, c, hk _ _ _ (by omega) d⟩
theorem BlockIs.kept {w w' : World} {g lo hi : Nat} {t : TypeId} {cs : List Value} (h : BlockIs w g t cs) (hk : KeptBut lo hi w w') (ho : g < lo ∨ hi ≤ g) : BlockIs w' g t cs := hk _ _ _ (by omega) h
theorem row_ext {x y : World} {base size n : Nat} {t : TypeId} {v : Value} {xs : List Value} (h : x.ownsRow base t size v n xs) (hb : ∀ g cs, BlockIs x g t cs → BlockIs y g t cs) : y.ownsRow base t size v n xs := by
  refine ⟨h.1, h.2.imp id ?_⟩
  rintro ⟨g, cap, cur, a, b, c, r⟩
  have := hb g cur.toList (by unfold BlockIs; rw [c])
  unfold BlockIs at this
  exact ⟨g, cap, cur, a, b, by rw [this], r⟩
theorem OwnAt.ext {x y : World} {t : TypeId} {cs : List Value} {n : Nat} {va : Option Addr} {lo : Nat} (h : OwnAt x t cs n va lo x.heap.size) (hs : x.heap.size ≤ y.heap.size) (hb : ∀ g r, BlockIs x g t (cs ++ r) → BlockIs y g t (cs ++ r)) : OwnAt y t cs n va lo y.heap.size :=
  h.imp id fun ⟨g, r, a, b, c, d⟩ => ⟨g, r, a, b, Nat.lt_of_lt_of_le c hs, hb g r d⟩
theorem row_block {w : World} {base size n : Nat} {t : TypeId} {v : Value} {xs : List Value} (h : w.ownsRow base t size v n xs) {g : Nat} (hg : v.ownBlock = some g) : ∃ cs, BlockIs w g t cs ∧ base ≤ g := by
  obtain ⟨_, (⟨rfl, _⟩ | ⟨g', cap, cur, rfl, hb, hc, _⟩)⟩ := h
  · cases hg
  · cases hg
    exact ⟨cur.toList, by unfold BlockIs; rw [hc], hb⟩
theorem block_one {w : World} {g : Nat} {t t' : TypeId} {cs cs' : List Value} (h : BlockIs w g t cs) (h' : BlockIs w g t' cs') : t = t' ∧ cs = cs' := by
  unfold BlockIs at h h'
  rw [h] at h'
  simp only [Option.some.injEq, Obj.cells.injEq] at h'
  exact ⟨h'.2.1, by simpa using h'.1⟩
end Go.Proofs.YtoanhjjigbjecaaGreatDoor

namespace Go.Proofs.YtoanhjjigbjecaaGreatDoor
open Go.RowKit

theorem sessionR_one (a : SessionD) : ∀ u ∈ sessionEnc a, u.oneCell' = true := by
  intro u hu
  simp only [sessionEnc, List.mem_cons, List.not_mem_nil, or_false] at hu
  rcases hu with rfl | rfl | rfl <;> rfl
theorem sessionR_all (l : List SessionD) : ∀ u ∈ sessionCells l, u.oneCell' = true := by
  intro u hu
  obtain ⟨a, _, h⟩ := List.mem_flatMap.1 hu
  exact sessionR_one a u h
theorem sessionR_snoc (l : List SessionD) (a : SessionD) : sessionCells (l ++ [a]) = sessionCells l ++ sessionEnc a := by simp [sessionCells]
theorem sessionR_append (l m : List SessionD) : sessionCells (l ++ m) = sessionCells l ++ sessionCells m := by simp [sessionCells]
/-- the cells of a list that lies at an address -/
theorem sessions_cells {w : World} {b off : Nat} {l : List SessionD} (h : ∀ j (hj : j < l.length), w.cell? ⟨b, off + j * 3, none⟩ = some (.int .i64 l[j].token) ∧ w.cell? ⟨b, off + j * 3 + 1, none⟩ = some (.int .i64 l[j].last) ∧ w.cell? ⟨b, off + j * 3 + 2, none⟩ = some (.string l[j].reply)) :
    ∀ j u, (sessionCells l)[j]? = some u → w.cell? ((⟨b, off, none⟩ : Addr).add j) = some u := by
  intro j u hu
  have hlt : j < (sessionCells l).length := (List.getElem?_eq_some_iff.1 hu).1
  rw [sessionCells_length] at hlt
  have hj : j / 3 < l.length := by omega
  have hr := row_at sessionEnc 3 (fun _ => rfl) l [] (j / 3) (j % 3) hj (Nat.mod_lt _ (by omega))
  rw [List.append_nil, show j / 3 * 3 + j % 3 = j by omega] at hr
  have hu' : (sessionEnc l[j / 3])[j % 3]? = some u := by rw [← hr]; exact hu
  have hadd : (⟨b, off, none⟩ : Addr).add j = ⟨b, off + j, none⟩ := Addr.add_lit _ _ _
  rw [hadd]
  obtain ⟨h0, h1, h2⟩ := h (j / 3) hj
  have h3 : j % 3 = 0 ∨ j % 3 = 1 ∨ j % 3 = 2 := by omega
  rcases h3 with e | e | e
  · rw [e] at hu'
    rw [show off + j = off + j / 3 * 3 by omega, h0]
    exact hu'
  · rw [e] at hu'
    rw [show off + j = off + j / 3 * 3 + 1 by omega, h1]
    exact hu'
  · rw [e] at hu'
    rw [show off + j = off + j / 3 * 3 + 2 by omega, h2]
    exact hu'
theorem sessionR_below {w w2 : World} {base n : Nat} {v : Value} {xs : List Value} (h : w.ownsRow base 86 3 v n xs) (hb : Below w.heap.size w w2) : w2.ownsRow base 86 3 v n xs := by
  refine h.kept (grown_of_below hb none) ?_
  cases v.ownBlock with
  | none => exact Or.inl rfl
  | some g => exact Or.inr (by simp)
theorem sessionR_block {w : World} {base n j : Nat} {v : Value} {xs : List Value} (h : w.ownsRow base 86 3 v n xs) (hv : v.ownBlock = some j) : base ≤ j ∧ ∃ cs, BlockIs w j 86 cs := by
  rcases h.2 with ⟨rfl, _⟩ | ⟨g, cap, cur, rfl, hb, hh, _⟩
  · simp [Value.ownBlock] at hv
  · have : g = j := by simpa [Value.ownBlock] using hv
    subst this
    exact ⟨hb, cur.toList, by unfold BlockIs; rw [hh]⟩
/-- a block of another type stands where a row grows -/
theorem sessionR_other {w w1 : World} {base n g : Nat} {t : TypeId} {v : Value} {xs cs : List Value} (h : BlockIs w g t cs) (hr : w.ownsRow base 86 3 v n xs) (hg : w.grownBy w1 v.ownBlock) (ht : t ≠ 86) : BlockIs w1 g t cs := by
  have hlt := h.lt
  unfold BlockIs at h ⊢
  rw [hg.block g hlt ?_]
  · exact h
  · intro e
    obtain ⟨_, cs2, h2⟩ := sessionR_block hr e.symm
    unfold BlockIs at h2
    rw [h] at h2
    simp only [Option.some.injEq, Obj.cells.injEq] at h2
    exact ht h2.2.1
theorem sessionR_down {w w1 w2 : World} {m base n : Nat} {v : Value} {xs : List Value} (h : Below m w w1) (hr : w1.ownsRow base 86 3 v n xs) (hg : w1.grownBy w2 v.ownBlock) (hb : m ≤ base) (hm : m ≤ w1.heap.size) : Below m w w2 :=
  h.grown hg hm (fun k e => by have := (sessionR_block hr e).1; omega)
theorem sessionR_nil (w : World) (m : Nat) (hm : m ≤ w.heap.size) : World.ownsRow (w.alloc (.cells #[] 86)) m 86 3 (.slice (some ⟨w.heap.size, 0, none⟩) 0 0) 0 (sessionCells []) :=
  row_down (World.ownsRow_made w (size := 3) (e := 86) #[] 0 (Nat.le_refl _) (Nat.zero_le _) rfl) hm
/-- one that is laid by itself -/
theorem sessionR_new (w : World) (a : SessionD) : ∀ j u, (sessionEnc a)[j]? = some u → (w.alloc (.cells #[.int .i64 a.token, .int .i64 a.last, .string a.reply] 86)).cell? ((⟨w.heap.size, 0, none⟩ : Addr).add j) = some u := by
  intro j u hu
  rw [Addr.add_lit, Nat.zero_add]
  exact (show BlockIs _ _ 86 (sessionEnc a) from heap_alloc_new w _).cell hu
/-- a list behind a row of the call's own -/
theorem append_sessions {W : World} {v : Value} {base c : Nat} {L M : List SessionD} {ao : Option Addr} (hn : L.length + M.length ≤ 2097153) (hbase : base ≤ W.heap.size) (hr : W.ownsRow base 86 3 v L.length (sessionCells L)) (hM : SessionsAt W ao M) :
    ∃ v' W', (Builtin.append_ #[53, 53] 53 #[v, .slice ao M.length c]).run Tryz.prog W = .ok v' W' ∧ W'.ownsRow base 86 3 v' (L ++ M).length (sessionCells (L ++ M)) ∧ W.grownBy W' v.ownBlock := by
  obtain ⟨i0, hi, hz0, hz1, hz2⟩ := info_parts toSession_info
  rw [List.length_append, sessionR_append]
  cases ao with
  | none =>
    have hM0 : M = [] := by
      by_cases hne : M = []
      · exact hne
      · obtain ⟨b, off, e, _⟩ := hM hne
        cases e
    subst hM0
    refine ⟨v, W, ?_, by simpa [sessionCells] using hr, World.grownBy.refl _ _⟩
    obtain ⟨va, vc, rfl⟩ := row_shape hr
    have hlc : L.length ≤ vc := by
      rcases hr.2 with ⟨hq, hz⟩ | ⟨_, cp, _, hq, _, _, hle, _⟩
      · omega
      · simp only [Value.slice.injEq] at hq
        omega
    cases va <;> simp [Builtin.append_, run_underlying Tryz.underlying53, sizeOf, typeInfo, hi, Builtin.lenOf, Builtin.firstCells, storeCells, hlc]
  | some ad =>
    have hnews : ∀ j u, (sessionCells M)[j]? = some u → W.cell? (ad.add j) = some u := by
      by_cases hne : M = []
      · subst hne
        intro j u hu
        simp [sessionCells] at hu
      · obtain ⟨b, off, e, hc⟩ := hM hne
        cases e
        exact sessions_cells hc
    obtain ⟨v', W', h1, h2, h3, _⟩ := run_append_own (P := Tryz.prog) W base 53 53 86 i0 _ 3 32 Tryz.underlying53 hi hz0 hz1 hz2 rfl (by decide) v L.length _ hr ad M.length c (sessionCells M) (sessionCells_length M) hnews (sessionR_all M) (by unfold maxLen; omega) (by omega) hbase
    exact ⟨v', W', h1, h2, h3⟩
theorem wpList_append_sessions {w : World} {ops : Array Oper} {rest : List Oper} {o : Oper} {a : Act} {Q : Exit → Act → World → Prop} (hgd : o.guard = none) (s x : Operand)
    (ho : o.op = .call { callee := .builtin .append, args := #[s, x], argTypes := #[53, 53] }) (hty : o.type = 53) {v : Value} {base c m N : Nat} {L M : List SessionD} {ao : Option Addr} (hs : a.eval s = v) (hx : a.eval x = .slice ao m c)
    (hm : M.length = m) (hN : (L ++ M).length = N) (hn : N ≤ 2097153) (hbase : base ≤ w.heap.size) (hr : w.ownsRow base 86 3 v L.length (sessionCells L)) (hM : SessionsAt w ao M)
    (h : ∀ va vc w1, w1.ownsRow base 86 3 (.slice va N vc) N (sessionCells (L ++ M)) → w.grownBy w1 v.ownBlock → wpList Tryz.prog ops Q rest (a.put o.dst (.slice va N vc)) w1) : wpList Tryz.prog ops Q (o :: rest) a w := by
  subst hm hN
  obtain ⟨v', W', hrun, h2, h3⟩ := append_sessions (c := c) (by rw [← List.length_append]; exact hn) hbase hr hM
  obtain ⟨va, vc, rfl⟩ := row_shape h2
  refine wpList_plain hgd fun K hK => ?_
  unfold Oper.wp
  simp [execOp, ho, hty, resolve, invoke, builtin, hs, hx, hrun, Result.andThen]
  have h4 := h va vc W' h2 h3
  rw [List.length_append] at h4
  exact hK _ _ h4
/-- they lie there -/
theorem sessionR_at {w : World} {base : Nat} {va : Option Addr} {vc : Nat} {l : List SessionD} (h : w.ownsRow base 86 3 (.slice va l.length vc) l.length (sessionCells l)) : SessionsAt w va l := by
  rcases h.2 with ⟨hv, h0⟩ | ⟨g, cp, cur, hv, _, hh, _, _, _, ht⟩
  · exact fun hne => absurd (List.length_eq_zero_iff.1 h0) hne
  · simp only [Value.slice.injEq] at hv
    obtain ⟨rfl, _, rfl⟩ := hv
    have hcur : cur.toList = sessionCells l ++ cur.toList.drop (l.length * 3) := by rw [← ht, List.take_append_drop]
    exact sessionsAt_of (r := cur.toList.drop (l.length * 3)) (by unfold BlockIs; rw [hh, ← hcur])
end Go.Proofs.YtoanhjjigbjecaaGreatDoor

namespace Go.Proofs.YtoanhjjigbjecaaGreatDoor
open Go.RowKit

structure ItemD where
  key : ByteArray
  val : ByteArray
  ver : Int
/-- numbers that are numbers, texts that are texts -/
def ItemD.Fits (e : ItemD) : Prop := e.key.size ≤ maxLen ∧ e.val.size ≤ maxLen ∧ (-9223372036854775808 ≤ e.ver ∧ e.ver ≤ 9223372036854775807)
def itemEnc (e : ItemD) : List Value := [.string e.key, .string e.val, .int .i64 e.ver]
/-- the cells of a row -/
def itemCells (l : List ItemD) : List Value := l.flatMap itemEnc
theorem itemCells_length (l : List ItemD) : (itemCells l).length = l.length * 3 := row_length itemEnc 3 (fun _ => rfl) l
theorem itemCells_take (l : List ItemD) (k : Nat) (h : k < l.length) : itemCells (l.take (k + 1)) = itemCells (l.take k) ++ itemEnc l[k] := by
  rw [List.take_succ_eq_append_getElem h, itemCells, itemCells, List.flatMap_append]
  simp
/-- how many letters -/
def itemOne (e : ItemD) : Int := (e.key.size : Int) + (e.val.size : Int)
theorem itemOne_nonneg (e : ItemD) : 0 ≤ itemOne e := by unfold itemOne; omega
def itemBulk : List ItemD → Int
  | [] => 0
  | f :: l => itemOne f + itemBulk l
theorem itemBulk_nonneg (l : List ItemD) : 0 ≤ itemBulk l := by
  induction l with
  | nil => exact Int.le_refl 0
  | cons f l ih => have := itemOne_nonneg f; simp only [itemBulk]; omega
theorem itemBulk_take (l : List ItemD) (k : Nat) (h : k < l.length) : itemBulk (l.take (k + 1)) = itemBulk (l.take k) + itemOne l[k] := by
  induction l generalizing k with
  | nil => simp at h
  | cons f l ih =>
    cases k with
    | zero => simp [itemBulk]
    | succ k =>
      have := ih k (by simpa using h)
      simp only [List.take_succ_cons, itemBulk, List.getElem_cons_succ] at this ⊢
      omega
theorem itemBulk_le (l : List ItemD) (k : Nat) : itemBulk (l.take k) ≤ itemBulk l := by
  induction l generalizing k with
  | nil => simp [itemBulk]
  | cons f l ih =>
    cases k with
    | zero => have := itemBulk_nonneg (f :: l); simpa [itemBulk] using this
    | succ k => have := ih k; simp only [List.take_succ_cons, itemBulk]; omega
theorem item_le_bulk {l : List ItemD} {f : ItemD} (h : f ∈ l) : itemOne f ≤ itemBulk l := by
  induction l with
  | nil => cases h
  | cons g l ih =>
    simp only [itemBulk]
    have := itemBulk_nonneg l
    have := itemOne_nonneg g
    rcases List.mem_cons.1 h with e | e
    · subst e; omega
    · have := ih e; omega
/-- few and short -/
def ItemsSmall (l : List ItemD) : Prop := l.length ≤ 1048576 ∧ ∀ f ∈ l, itemOne f ≤ 1048576
theorem itemsSmall {l : List ItemD} (h : 0 ≤ (1048576 : Int) - l.length - itemBulk l) : ItemsSmall l := by
  have := itemBulk_nonneg l
  exact ⟨by omega, fun f hf => by have := item_le_bulk hf; omega⟩
/-- they lie at an address, one behind the other -/
def ItemsAt (w : World) (ao : Option Addr) (l : List ItemD) : Prop :=
  l ≠ [] → ∃ b off, ao = some ⟨b, off, none⟩ ∧ ∀ j (hj : j < l.length), w.cell? ⟨b, off + j * 3, none⟩ = some (.string l[j].key) ∧ w.cell? ⟨b, off + j * 3 + 1, none⟩ = some (.string l[j].val) ∧ w.cell? ⟨b, off + j * 3 + 2, none⟩ = some (.int .i64 l[j].ver)
theorem itemsAt_of {w : World} {g : Nat} {t : TypeId} {l : List ItemD} {r : List Value} (h : BlockIs w g t (itemCells l ++ r)) : ItemsAt w (some ⟨g, 0, none⟩) l := by
  intro _
  refine ⟨g, 0, rfl, fun j hj => ?_⟩
  rw [Nat.zero_add]
  exact ⟨h.cell (row_at itemEnc 3 (fun _ => rfl) l r j 0 hj (by omega)), h.cell (row_at itemEnc 3 (fun _ => rfl) l r j 1 hj (by omega)), h.cell (row_at itemEnc 3 (fun _ => rfl) l r j 2 hj (by omega))⟩
def ItemsFit (l : List ItemD) : Prop := ∀ j (hj : j < l.length), l[j].Fits
theorem ItemsAt.on {w w' : World} {ao : Option Addr} {l : List ItemD} (h : ItemsAt w ao l) (hb : Below w.heap.size w w') : ItemsAt w' ao l := by
  intro h0
  obtain ⟨b, off, e1, e2⟩ := h h0
  refine ⟨b, off, e1, fun j hj => ?_⟩
  obtain ⟨x0, x1, x2⟩ := e2 j hj
  exact ⟨(hb.cell (p := ⟨b, off + j * 3, none⟩) (World.block_lt_of_cell? w _ x0)).trans x0, (hb.cell (p := ⟨b, off + j * 3 + 1, none⟩) (World.block_lt_of_cell? w _ x1)).trans x1, (hb.cell (p := ⟨b, off + j * 3 + 2, none⟩) (World.block_lt_of_cell? w _ x2)).trans x2⟩
/-- cells of a list, written -/
theorem item_sets (p : List Value) (a0 a1 a2 o0 o1 o2 : Value) (r : List Value) : (((p ++ o0 :: o1 :: o2 :: r).set (p.length) a0).set (p.length + 1) a1).set (p.length + 2) a2 = p ++ a0 :: a1 :: a2 :: r := by
  rw [List.set_append_right _ _ (Nat.le_refl _), List.set_append_right _ _ (by omega), List.set_append_right _ _ (by omega)]
  simp
theorem item_set_other {cs : List Value} {i j : Nat} {v u : Value} (h : cs[j]? = some u) (hij : i ≠ j) : (cs.set i v)[j]? = some u := by
  rw [List.getElem?_set_ne hij]; exact h
end Go.Proofs.YtoanhjjigbjecaaGreatDoor

namespace Go.Proofs.YtoanhjjigbjecaaGreatDoor
open Go.RowKit

theorem toItem_info : (Tryz.prog.info? 89).map (fun i => (i.zero, i.size, i.bytes)) = some (some (.agg #[.string ByteArray.empty, .string ByteArray.empty, .int .i64 0]), 3, 40) := by kernel_rfl
/-- an element's cells are written -/
theorem put_item {w w2 : World} {g k : Nat} {t : TypeId} {l : List ItemD} {r : List Value} (hk : k < l.length) (h : BlockIs w g t (itemCells (l.take k) ++ r)) (hr : r.length = (l.length - k) * 3) {B : Nat} (hb : Below B w w2) (hg : g < B) :
    (∃ o0 o1 o2, w2.cell? ⟨g, k * 3, none⟩ = some o0 ∧ w2.cell? ⟨g, k * 3 + 1, none⟩ = some o1 ∧ w2.cell? ⟨g, k * 3 + 2, none⟩ = some o2) ∧ (∀ j, w2.frozen? ⟨g, j, none⟩ = false) ∧
    ∃ r', r'.length = (l.length - (k + 1)) * 3 ∧ BlockIs (((w2.setCell ⟨g, k * 3, none⟩ (.string l[k].key)).setCell ⟨g, k * 3 + 1, none⟩ (.string l[k].val)).setCell ⟨g, k * 3 + 2, none⟩ (.int .i64 l[k].ver)) g t (itemCells (l.take (k + 1)) ++ r') := by
  have h2 := h.on hb hg
  have hlen : (itemCells (l.take k)).length = k * 3 := by rw [itemCells_length, List.length_take]; omega
  match r, hr with
  | z0 :: z1 :: z2 :: r', hr =>
    have hs := ((h2.set (k * 3) (.string l[k].key)).set (k * 3 + 1) (.string l[k].val)).set (k * 3 + 2) (.int .i64 l[k].ver)
    have e3 := item_sets (itemCells (l.take k)) (.string l[k].key) (.string l[k].val) (.int .i64 l[k].ver) z0 z1 z2 r'
    rw [hlen] at e3
    rw [e3] at hs
    refine ⟨⟨z0, z1, z2, h2.cell ?_, h2.cell ?_, h2.cell ?_⟩, fun j => h2.thaw j, r', ?_, ?_⟩
    · rw [List.getElem?_append_right (by omega), hlen, Nat.sub_self]; rfl
    · rw [List.getElem?_append_right (by omega), hlen, show k * 3 + 1 - k * 3 = 1 by omega]; rfl
    · rw [List.getElem?_append_right (by omega), hlen, show k * 3 + 2 - k * 3 = 2 by omega]; rfl
    · simp at hr; omega
    · rw [itemCells_take l k hk, List.append_assoc]
      exact hs
  | [], hr => simp at hr; omega
  | [_], hr => simp at hr; omega
  | [_, _], hr => simp at hr; omega

theorem made_item (n : Nat) : (madeCells (Value.agg #[.string ByteArray.empty, .string ByteArray.empty, .int .i64 0]).cells (n * 3)).toList.length = n * 3 := by
  simp [madeCells]
end Go.Proofs.YtoanhjjigbjecaaGreatDoor

namespace Go.Proofs.YtoanhjjigbjecaaGreatDoor
open Go.RowKit

theorem itemR_one (a : ItemD) : ∀ u ∈ itemEnc a, u.oneCell' = true := by
  intro u hu
  simp only [itemEnc, List.mem_cons, List.not_mem_nil, or_false] at hu
  rcases hu with rfl | rfl | rfl <;> rfl
theorem itemR_all (l : List ItemD) : ∀ u ∈ itemCells l, u.oneCell' = true := by
  intro u hu
  obtain ⟨a, _, h⟩ := List.mem_flatMap.1 hu
  exact itemR_one a u h
theorem itemR_snoc (l : List ItemD) (a : ItemD) : itemCells (l ++ [a]) = itemCells l ++ itemEnc a := by simp [itemCells]
theorem itemR_append (l m : List ItemD) : itemCells (l ++ m) = itemCells l ++ itemCells m := by simp [itemCells]
/-- the cells of a list that lies at an address -/
theorem items_cells {w : World} {b off : Nat} {l : List ItemD} (h : ∀ j (hj : j < l.length), w.cell? ⟨b, off + j * 3, none⟩ = some (.string l[j].key) ∧ w.cell? ⟨b, off + j * 3 + 1, none⟩ = some (.string l[j].val) ∧ w.cell? ⟨b, off + j * 3 + 2, none⟩ = some (.int .i64 l[j].ver)) :
    ∀ j u, (itemCells l)[j]? = some u → w.cell? ((⟨b, off, none⟩ : Addr).add j) = some u := by
  intro j u hu
  have hlt : j < (itemCells l).length := (List.getElem?_eq_some_iff.1 hu).1
  rw [itemCells_length] at hlt
  have hj : j / 3 < l.length := by omega
  have hr := row_at itemEnc 3 (fun _ => rfl) l [] (j / 3) (j % 3) hj (Nat.mod_lt _ (by omega))
  rw [List.append_nil, show j / 3 * 3 + j % 3 = j by omega] at hr
  have hu' : (itemEnc l[j / 3])[j % 3]? = some u := by rw [← hr]; exact hu
  have hadd : (⟨b, off, none⟩ : Addr).add j = ⟨b, off + j, none⟩ := Addr.add_lit _ _ _
  rw [hadd]
  obtain ⟨h0, h1, h2⟩ := h (j / 3) hj
  have h3 : j % 3 = 0 ∨ j % 3 = 1 ∨ j % 3 = 2 := by omega
  rcases h3 with e | e | e
  · rw [e] at hu'
    rw [show off + j = off + j / 3 * 3 by omega, h0]
    exact hu'
  · rw [e] at hu'
    rw [show off + j = off + j / 3 * 3 + 1 by omega, h1]
    exact hu'
  · rw [e] at hu'
    rw [show off + j = off + j / 3 * 3 + 2 by omega, h2]
    exact hu'
theorem itemR_below {w w2 : World} {base n : Nat} {v : Value} {xs : List Value} (h : w.ownsRow base 89 3 v n xs) (hb : Below w.heap.size w w2) : w2.ownsRow base 89 3 v n xs := by
  refine h.kept (grown_of_below hb none) ?_
  cases v.ownBlock with
  | none => exact Or.inl rfl
  | some g => exact Or.inr (by simp)
theorem itemR_block {w : World} {base n j : Nat} {v : Value} {xs : List Value} (h : w.ownsRow base 89 3 v n xs) (hv : v.ownBlock = some j) : base ≤ j ∧ ∃ cs, BlockIs w j 89 cs := by
  rcases h.2 with ⟨rfl, _⟩ | ⟨g, cap, cur, rfl, hb, hh, _⟩
  · simp [Value.ownBlock] at hv
  · have : g = j := by simpa [Value.ownBlock] using hv
    subst this
    exact ⟨hb, cur.toList, by unfold BlockIs; rw [hh]⟩
/-- a block of another type stands where a row grows -/
theorem itemR_other {w w1 : World} {base n g : Nat} {t : TypeId} {v : Value} {xs cs : List Value} (h : BlockIs w g t cs) (hr : w.ownsRow base 89 3 v n xs) (hg : w.grownBy w1 v.ownBlock) (ht : t ≠ 89) : BlockIs w1 g t cs := by
  have hlt := h.lt
  unfold BlockIs at h ⊢
  rw [hg.block g hlt ?_]
  · exact h
  · intro e
    obtain ⟨_, cs2, h2⟩ := itemR_block hr e.symm
    unfold BlockIs at h2
    rw [h] at h2
    simp only [Option.some.injEq, Obj.cells.injEq] at h2
    exact ht h2.2.1
theorem itemR_down {w w1 w2 : World} {m base n : Nat} {v : Value} {xs : List Value} (h : Below m w w1) (hr : w1.ownsRow base 89 3 v n xs) (hg : w1.grownBy w2 v.ownBlock) (hb : m ≤ base) (hm : m ≤ w1.heap.size) : Below m w w2 :=
  h.grown hg hm (fun k e => by have := (itemR_block hr e).1; omega)
theorem itemR_nil (w : World) (m : Nat) (hm : m ≤ w.heap.size) : World.ownsRow (w.alloc (.cells #[] 89)) m 89 3 (.slice (some ⟨w.heap.size, 0, none⟩) 0 0) 0 (itemCells []) :=
  row_down (World.ownsRow_made w (size := 3) (e := 89) #[] 0 (Nat.le_refl _) (Nat.zero_le _) rfl) hm
/-- one that is laid by itself -/
theorem itemR_new (w : World) (a : ItemD) : ∀ j u, (itemEnc a)[j]? = some u → (w.alloc (.cells #[.string a.key, .string a.val, .int .i64 a.ver] 89)).cell? ((⟨w.heap.size, 0, none⟩ : Addr).add j) = some u := by
  intro j u hu
  rw [Addr.add_lit, Nat.zero_add]
  exact (show BlockIs _ _ 89 (itemEnc a) from heap_alloc_new w _).cell hu
/-- a list behind a row of the call's own -/
theorem append_items {W : World} {v : Value} {base c : Nat} {L M : List ItemD} {ao : Option Addr} (hn : L.length + M.length ≤ 2097153) (hbase : base ≤ W.heap.size) (hr : W.ownsRow base 89 3 v L.length (itemCells L)) (hM : ItemsAt W ao M) :
    ∃ v' W', (Builtin.append_ #[54, 54] 54 #[v, .slice ao M.length c]).run Tryz.prog W = .ok v' W' ∧ W'.ownsRow base 89 3 v' (L ++ M).length (itemCells (L ++ M)) ∧ W.grownBy W' v.ownBlock := by
  obtain ⟨i0, hi, hz0, hz1, hz2⟩ := info_parts toItem_info
  rw [List.length_append, itemR_append]
  cases ao with
  | none =>
    have hM0 : M = [] := by
      by_cases hne : M = []
      · exact hne
      · obtain ⟨b, off, e, _⟩ := hM hne
        cases e
    subst hM0
    refine ⟨v, W, ?_, by simpa [itemCells] using hr, World.grownBy.refl _ _⟩
    obtain ⟨va, vc, rfl⟩ := row_shape hr
    have hlc : L.length ≤ vc := by
      rcases hr.2 with ⟨hq, hz⟩ | ⟨_, cp, _, hq, _, _, hle, _⟩
      · omega
      · simp only [Value.slice.injEq] at hq
        omega
    cases va <;> simp [Builtin.append_, run_underlying Tryz.underlying54, sizeOf, typeInfo, hi, Builtin.lenOf, Builtin.firstCells, storeCells, hlc]
  | some ad =>
    have hnews : ∀ j u, (itemCells M)[j]? = some u → W.cell? (ad.add j) = some u := by
      by_cases hne : M = []
      · subst hne
        intro j u hu
        simp [itemCells] at hu
      · obtain ⟨b, off, e, hc⟩ := hM hne
        cases e
        exact items_cells hc
    obtain ⟨v', W', h1, h2, h3, _⟩ := run_append_own (P := Tryz.prog) W base 54 54 89 i0 _ 3 40 Tryz.underlying54 hi hz0 hz1 hz2 rfl (by decide) v L.length _ hr ad M.length c (itemCells M) (itemCells_length M) hnews (itemR_all M) (by unfold maxLen; omega) (by omega) hbase
    exact ⟨v', W', h1, h2, h3⟩
theorem wpList_append_items {w : World} {ops : Array Oper} {rest : List Oper} {o : Oper} {a : Act} {Q : Exit → Act → World → Prop} (hgd : o.guard = none) (s x : Operand)
    (ho : o.op = .call { callee := .builtin .append, args := #[s, x], argTypes := #[54, 54] }) (hty : o.type = 54) {v : Value} {base c m N : Nat} {L M : List ItemD} {ao : Option Addr} (hs : a.eval s = v) (hx : a.eval x = .slice ao m c)
    (hm : M.length = m) (hN : (L ++ M).length = N) (hn : N ≤ 2097153) (hbase : base ≤ w.heap.size) (hr : w.ownsRow base 89 3 v L.length (itemCells L)) (hM : ItemsAt w ao M)
    (h : ∀ va vc w1, w1.ownsRow base 89 3 (.slice va N vc) N (itemCells (L ++ M)) → w.grownBy w1 v.ownBlock → wpList Tryz.prog ops Q rest (a.put o.dst (.slice va N vc)) w1) : wpList Tryz.prog ops Q (o :: rest) a w := by
  subst hm hN
  obtain ⟨v', W', hrun, h2, h3⟩ := append_items (c := c) (by rw [← List.length_append]; exact hn) hbase hr hM
  obtain ⟨va, vc, rfl⟩ := row_shape h2
  refine wpList_plain hgd fun K hK => ?_
  unfold Oper.wp
  simp [execOp, ho, hty, resolve, invoke, builtin, hs, hx, hrun, Result.andThen]
  have h4 := h va vc W' h2 h3
  rw [List.length_append] at h4
  exact hK _ _ h4
/-- they lie there -/
theorem itemR_at {w : World} {base : Nat} {va : Option Addr} {vc : Nat} {l : List ItemD} (h : w.ownsRow base 89 3 (.slice va l.length vc) l.length (itemCells l)) : ItemsAt w va l := by
  rcases h.2 with ⟨hv, h0⟩ | ⟨g, cp, cur, hv, _, hh, _, _, _, ht⟩
  · exact fun hne => absurd (List.length_eq_zero_iff.1 h0) hne
  · simp only [Value.slice.injEq] at hv
    obtain ⟨rfl, _, rfl⟩ := hv
    have hcur : cur.toList = itemCells l ++ cur.toList.drop (l.length * 3) := by rw [← ht, List.take_append_drop]
    exact itemsAt_of (r := cur.toList.drop (l.length * 3)) (by unfold BlockIs; rw [hh, ← hcur])
end Go.Proofs.YtoanhjjigbjecaaGreatDoor

namespace Go.Proofs.YtoanhjjigbjecaaGreatDoor
open Go.RowKit

/-- a keep's two rows, of the call's own -/
def KRows (w : World) (lo : Nat) (v u : Value) (ls : List SessionD) (li : List ItemD) : Prop :=
  w.ownsRow lo 86 3 v ls.length (sessionCells ls) ∧ w.ownsRow lo 89 3 u li.length (itemCells li)
theorem row_onK {w w2 : World} {base size n : Nat} {t : TypeId} {v : Value} {xs : List Value} (h : w.ownsRow base t size v n xs) (hb : Below w.heap.size w w2) : w2.ownsRow base t size v n xs := by
  refine h.kept (grown_of_below hb none) ?_
  cases v.ownBlock with
  | none => exact Or.inl rfl
  | some g => exact Or.inr (by simp)
theorem KRows.on {w w2 : World} {lo : Nat} {v u : Value} {ls : List SessionD} {li : List ItemD} (h : KRows w lo v u ls li) (hb : Below w.heap.size w w2) : KRows w2 lo v u ls li := ⟨row_onK h.1 hb, row_onK h.2 hb⟩
theorem KRows.down {w : World} {lo lo' : Nat} {v u : Value} {ls : List SessionD} {li : List ItemD} (h : KRows w lo v u ls li) (hl : lo' ≤ lo) : KRows w lo' v u ls li := ⟨row_down h.1 hl, row_down h.2 hl⟩
theorem row_capK {w : World} {base size n : Nat} {t : TypeId} {va : Option Addr} {vc : Nat} {cs : List Value} (h : w.ownsRow base t size (.slice va n vc) n cs) : n ≤ vc ∧ vc ≤ maxLen := by
  rcases h.2 with ⟨hv, h0⟩ | ⟨g, cp, cur, hv, hb, hh, hle, hm, _, ht⟩
  · simp only [Value.slice.injEq] at hv
    obtain ⟨_, rfl, rfl⟩ := hv
    exact ⟨Nat.le_refl _, Nat.zero_le _⟩
  · simp only [Value.slice.injEq] at hv
    obtain ⟨_, _, rfl⟩ := hv
    exact ⟨hle, hm⟩
theorem row_blockK {w : World} {base size n : Nat} {t : TypeId} {va : Option Addr} {vc : Nat} {cs : List Value} (hn : 0 < n) (h : w.ownsRow base t size (.slice va n vc) n cs) : ∃ g r, va = some ⟨g, 0, none⟩ ∧ base ≤ g ∧ BlockIs w g t (cs ++ r) := by
  rcases h.2 with ⟨hv, h0⟩ | ⟨g, cp, cur, hv, hb, hh, hle, _, _, ht⟩
  · omega
  · simp only [Value.slice.injEq] at hv
    obtain ⟨rfl, _, rfl⟩ := hv
    have hcur : cur.toList = cs ++ cur.toList.drop (n * size) := by rw [← ht, List.take_append_drop]
    exact ⟨g, _, rfl, hb, by unfold BlockIs; rw [hh, ← hcur]⟩
/-- a cell of a row is written -/
theorem row_setK {w : World} {base size n g c j : Nat} {t : TypeId} {xs : List Value} (h : w.ownsRow base t size (.slice (some ⟨g, 0, none⟩) n c) n xs) (u : Value) : (w.setCell ⟨g, j, none⟩ u).ownsRow base t size (.slice (some ⟨g, 0, none⟩) n c) n (xs.set j u) := by
  rcases h.2 with ⟨hv, h0⟩ | ⟨g', cp, cur, hv, hb, hh, hle, hm, hs, ht⟩
  · cases hv
  · simp only [Value.slice.injEq, Option.some.injEq, Addr.mk.injEq] at hv
    obtain ⟨⟨rfl, _, _⟩, _, rfl⟩ := hv
    have hk : BlockIs w g t cur.toList := by unfold BlockIs; rw [hh]
    have h2 := hk.set j u
    unfold BlockIs at h2
    refine ⟨by simp [h.1], Or.inr ⟨g, c, _, rfl, hb, h2, hle, hm, by simp [hs], ?_⟩⟩
    rw [List.take_set, ht]
theorem row_extK {x y : World} {base size n : Nat} {t : TypeId} {v : Value} {xs : List Value} (h : x.ownsRow base t size v n xs) (hb : ∀ g cs, BlockIs x g t cs → BlockIs y g t cs) : y.ownsRow base t size v n xs := row_ext h hb
theorem row_farK {w : World} {base size n g j : Nat} {t t' : TypeId} {v : Value} {xs cs : List Value} (h : w.ownsRow base t size v n xs) (hg : BlockIs w g t' cs) (ht : t ≠ t') (u : Value) : (w.setCell ⟨g, j, none⟩ u).ownsRow base t size v n xs :=
  row_ext h fun q xs hq => hq.far (fun e => by subst e; exact ht (block_one hq hg).1) u
theorem KRows.far {w : World} {lo g j : Nat} {v u : Value} {ls : List SessionD} {li : List ItemD} {t : TypeId} {cs : List Value} (h : KRows w lo v u ls li) (hg : BlockIs w g t cs) (h1 : 86 ≠ t) (h2 : 89 ≠ t) (x : Value) : KRows (w.setCell ⟨g, j, none⟩ x) lo v u ls li := ⟨row_farK h.1 hg h1 x, row_farK h.2 hg h2 x⟩
/-- a block of another kind stands where a row grows -/
theorem block_grown {w w1 : World} {base size n g : Nat} {t t' : TypeId} {v : Value} {xs cs : List Value} (h : BlockIs w g t' cs) (hr : w.ownsRow base t size v n xs) (hg : w.grownBy w1 v.ownBlock) (ht : t' ≠ t) : BlockIs w1 g t' cs := by
  have hlt := h.lt
  unfold BlockIs at h ⊢
  rw [hg.block g hlt ?_]
  · exact h
  · intro e
    obtain ⟨cs2, h2, _⟩ := row_block hr e.symm
    unfold BlockIs at h2
    rw [h] at h2
    simp only [Option.some.injEq, Obj.cells.injEq] at h2
    exact ht h2.2.1
theorem row_grownK {w w1 : World} {b1 b2 s1 s2 n m : Nat} {t t' : TypeId} {v u : Value} {xs ys : List Value} (h : w.ownsRow b1 t s1 v n xs) (hr : w.ownsRow b2 t' s2 u m ys) (hg : w.grownBy w1 u.ownBlock) (ht : t ≠ t') : w1.ownsRow b1 t s1 v n xs :=
  row_ext h fun _ _ hb => block_grown hb hr hg ht
end Go.Proofs.YtoanhjjigbjecaaGreatDoor

namespace Go.Proofs.YtoanhjjigbjecaaGreatDoor
open Go.RowKit

/-- the first one of a Key, or none -/
def itemOf (l : List ItemD) (key : ByteArray) : ItemD × Bool :=
  match l.find? (fun e => e.key.toList == key.toList) with
  | some e => (e, true)
  | none => (⟨⟨#[]⟩, ⟨#[]⟩, 0⟩, false)
theorem itemOf_none (l : List ItemD) (key : ByteArray) (h : ∀ j (hj : j < l.length), (l[j].key.toList == key.toList) = false) : itemOf l key = (⟨⟨#[]⟩, ⟨#[]⟩, 0⟩, false) := by
  have : l.find? (fun e => e.key.toList == key.toList) = none := by
    rw [List.find?_eq_none]
    intro x hx
    obtain ⟨j, hj, rfl⟩ := List.getElem_of_mem hx
    rw [h j hj]
    exact Bool.false_ne_true
  rw [itemOf, this]
theorem itemOf_here (l : List ItemD) (key : ByteArray) (k : Nat) (hk : k < l.length) (h : ∀ j (hj : j < k), (l[j].key.toList == key.toList) = false) (hh : (l[k].key.toList == key.toList) = true) : itemOf l key = (l[k], true) := by
  have : l.find? (fun e => e.key.toList == key.toList) = some l[k] := by
    rw [List.find?_eq_some_iff_getElem]
    exact ⟨hh, k, hk, rfl, fun j hj => by rw [h j hj]; rfl⟩
  rw [itemOf, this]
end Go.Proofs.YtoanhjjigbjecaaGreatDoor

namespace Go.Proofs.YtoanhjjigbjecaaGreatDoor
open Go.RowKit

/-- a number within bounds -/
def within (x a b : Int) : Bool := decide (a ≤ x) && decide (x ≤ b)
theorem within_yes {x a b : Int} (h1 : a ≤ x) (h2 : x ≤ b) : within x a b = true := by simp [within, h1, h2]
theorem within_no {x a b : Int} (h : x < a ∨ b < x) : within x a b = false := by
  simp only [within, Bool.and_eq_false_imp, decide_eq_true_eq, decide_eq_false_iff_not]
  omega
theorem within_iff {x a b : Int} : within x a b = true ↔ a ≤ x ∧ x ≤ b := by simp [within]
end Go.Proofs.YtoanhjjigbjecaaGreatDoor

namespace Go.Proofs.YtoanhjjigbjecaaGreatDoor
open Go.RowKit

structure CommandD where
  op : Int
  token : Int
  seq : Int
  key : ByteArray
  val : ByteArray
  ver : Int
/-- numbers that are numbers, texts that are texts -/
def CommandD.Fits (e : CommandD) : Prop := (-9223372036854775808 ≤ e.op ∧ e.op ≤ 9223372036854775807) ∧ (-9223372036854775808 ≤ e.token ∧ e.token ≤ 9223372036854775807) ∧ (-9223372036854775808 ≤ e.seq ∧ e.seq ≤ 9223372036854775807) ∧ e.key.size ≤ maxLen ∧ e.val.size ≤ maxLen ∧ (-9223372036854775808 ≤ e.ver ∧ e.ver ≤ 9223372036854775807)
def commandEnc (e : CommandD) : List Value := [.int .i64 e.op, .int .i64 e.token, .int .i64 e.seq, .string e.key, .string e.val, .int .i64 e.ver]
/-- the cells of a row -/
def commandCells (l : List CommandD) : List Value := l.flatMap commandEnc
theorem commandCells_length (l : List CommandD) : (commandCells l).length = l.length * 6 := row_length commandEnc 6 (fun _ => rfl) l
theorem commandCells_take (l : List CommandD) (k : Nat) (h : k < l.length) : commandCells (l.take (k + 1)) = commandCells (l.take k) ++ commandEnc l[k] := by
  rw [List.take_succ_eq_append_getElem h, commandCells, commandCells, List.flatMap_append]
  simp
/-- how many letters -/
def commandOne (e : CommandD) : Int := (e.key.size : Int) + (e.val.size : Int)
theorem commandOne_nonneg (e : CommandD) : 0 ≤ commandOne e := by unfold commandOne; omega
def commandBulk : List CommandD → Int
  | [] => 0
  | f :: l => commandOne f + commandBulk l
theorem commandBulk_nonneg (l : List CommandD) : 0 ≤ commandBulk l := by
  induction l with
  | nil => exact Int.le_refl 0
  | cons f l ih => have := commandOne_nonneg f; simp only [commandBulk]; omega
theorem commandBulk_take (l : List CommandD) (k : Nat) (h : k < l.length) : commandBulk (l.take (k + 1)) = commandBulk (l.take k) + commandOne l[k] := by
  induction l generalizing k with
  | nil => simp at h
  | cons f l ih =>
    cases k with
    | zero => simp [commandBulk]
    | succ k =>
      have := ih k (by simpa using h)
      simp only [List.take_succ_cons, commandBulk, List.getElem_cons_succ] at this ⊢
      omega
theorem commandBulk_le (l : List CommandD) (k : Nat) : commandBulk (l.take k) ≤ commandBulk l := by
  induction l generalizing k with
  | nil => simp [commandBulk]
  | cons f l ih =>
    cases k with
    | zero => have := commandBulk_nonneg (f :: l); simpa [commandBulk] using this
    | succ k => have := ih k; simp only [List.take_succ_cons, commandBulk]; omega
theorem command_le_bulk {l : List CommandD} {f : CommandD} (h : f ∈ l) : commandOne f ≤ commandBulk l := by
  induction l with
  | nil => cases h
  | cons g l ih =>
    simp only [commandBulk]
    have := commandBulk_nonneg l
    have := commandOne_nonneg g
    rcases List.mem_cons.1 h with e | e
    · subst e; omega
    · have := ih e; omega
/-- few and short -/
def CommandsSmall (l : List CommandD) : Prop := l.length ≤ 1048576 ∧ ∀ f ∈ l, commandOne f ≤ 1048576
theorem commandsSmall {l : List CommandD} (h : 0 ≤ (1048576 : Int) - l.length - commandBulk l) : CommandsSmall l := by
  have := commandBulk_nonneg l
  exact ⟨by omega, fun f hf => by have := command_le_bulk hf; omega⟩
/-- they lie at an address, one behind the other -/
def CommandsAt (w : World) (ao : Option Addr) (l : List CommandD) : Prop :=
  l ≠ [] → ∃ b off, ao = some ⟨b, off, none⟩ ∧ ∀ j (hj : j < l.length), w.cell? ⟨b, off + j * 6, none⟩ = some (.int .i64 l[j].op) ∧ w.cell? ⟨b, off + j * 6 + 1, none⟩ = some (.int .i64 l[j].token) ∧ w.cell? ⟨b, off + j * 6 + 2, none⟩ = some (.int .i64 l[j].seq) ∧ w.cell? ⟨b, off + j * 6 + 3, none⟩ = some (.string l[j].key) ∧ w.cell? ⟨b, off + j * 6 + 4, none⟩ = some (.string l[j].val) ∧ w.cell? ⟨b, off + j * 6 + 5, none⟩ = some (.int .i64 l[j].ver)
theorem commandsAt_of {w : World} {g : Nat} {t : TypeId} {l : List CommandD} {r : List Value} (h : BlockIs w g t (commandCells l ++ r)) : CommandsAt w (some ⟨g, 0, none⟩) l := by
  intro _
  refine ⟨g, 0, rfl, fun j hj => ?_⟩
  rw [Nat.zero_add]
  exact ⟨h.cell (row_at commandEnc 6 (fun _ => rfl) l r j 0 hj (by omega)), h.cell (row_at commandEnc 6 (fun _ => rfl) l r j 1 hj (by omega)), h.cell (row_at commandEnc 6 (fun _ => rfl) l r j 2 hj (by omega)), h.cell (row_at commandEnc 6 (fun _ => rfl) l r j 3 hj (by omega)), h.cell (row_at commandEnc 6 (fun _ => rfl) l r j 4 hj (by omega)), h.cell (row_at commandEnc 6 (fun _ => rfl) l r j 5 hj (by omega))⟩
def CommandsFit (l : List CommandD) : Prop := ∀ j (hj : j < l.length), l[j].Fits
theorem CommandsAt.on {w w' : World} {ao : Option Addr} {l : List CommandD} (h : CommandsAt w ao l) (hb : Below w.heap.size w w') : CommandsAt w' ao l := by
  intro h0
  obtain ⟨b, off, e1, e2⟩ := h h0
  refine ⟨b, off, e1, fun j hj => ?_⟩
  obtain ⟨x0, x1, x2, x3, x4, x5⟩ := e2 j hj
  exact ⟨(hb.cell (p := ⟨b, off + j * 6, none⟩) (World.block_lt_of_cell? w _ x0)).trans x0, (hb.cell (p := ⟨b, off + j * 6 + 1, none⟩) (World.block_lt_of_cell? w _ x1)).trans x1, (hb.cell (p := ⟨b, off + j * 6 + 2, none⟩) (World.block_lt_of_cell? w _ x2)).trans x2, (hb.cell (p := ⟨b, off + j * 6 + 3, none⟩) (World.block_lt_of_cell? w _ x3)).trans x3, (hb.cell (p := ⟨b, off + j * 6 + 4, none⟩) (World.block_lt_of_cell? w _ x4)).trans x4, (hb.cell (p := ⟨b, off + j * 6 + 5, none⟩) (World.block_lt_of_cell? w _ x5)).trans x5⟩
/-- cells of a list, written -/
theorem command_sets (p : List Value) (a0 a1 a2 a3 a4 a5 o0 o1 o2 o3 o4 o5 : Value) (r : List Value) : ((((((p ++ o0 :: o1 :: o2 :: o3 :: o4 :: o5 :: r).set (p.length) a0).set (p.length + 1) a1).set (p.length + 2) a2).set (p.length + 3) a3).set (p.length + 4) a4).set (p.length + 5) a5 = p ++ a0 :: a1 :: a2 :: a3 :: a4 :: a5 :: r := by
  rw [List.set_append_right _ _ (Nat.le_refl _), List.set_append_right _ _ (by omega), List.set_append_right _ _ (by omega), List.set_append_right _ _ (by omega), List.set_append_right _ _ (by omega), List.set_append_right _ _ (by omega)]
  simp
theorem command_set_other {cs : List Value} {i j : Nat} {v u : Value} (h : cs[j]? = some u) (hij : i ≠ j) : (cs.set i v)[j]? = some u := by
  rw [List.getElem?_set_ne hij]; exact h
end Go.Proofs.YtoanhjjigbjecaaGreatDoor

namespace Go.Proofs.YtoanhjjigbjecaaGreatDoor
open Go.RowKit

def commandOk (d : CommandD) : Bool :=
  within d.token 0 1000000 && (within d.seq 0 1000000 && (within d.op 1 5 &&
    (if d.op = 1 then decide (d.token = 0) && (decide (d.seq = 0) && (decide (d.key.size = 0) && (decide (d.val.size = 0) && decide (d.ver = 0))))
      else within (d.key.size : Int) 1 8 && (decide ((d.val.size : Int) ≤ 20) &&
        (if d.op = 2 then decide (d.ver = 0) else if d.op = 5 then within d.ver 1 1000000000 else decide (d.val.size = 0) && decide (d.ver = 0))))))

theorem empty_text (s : ByteArray) : (s.toList == []) = decide (s.size = 0) := by
  rw [ByteArray.toList_eq]
  by_cases h : s.size = 0
  · have : s.data.toList = [] := List.eq_nil_of_length_eq_zero (by simpa using h)
    simp [this, h]
  · have : (s.data.toList == []) = false := by
      rw [beq_eq_false_iff_ne]
      intro e
      exact h (by simpa using congrArg List.length e)
    rw [this]
    simp [h]
end Go.Proofs.YtoanhjjigbjecaaGreatDoor

namespace Go.Proofs.YtoanhjjigbjecaaGreatDoor
open Go.RowKit

/-- one of a row is fine by itself, and behind the one ahead of it -/
def stepOk {α : Type} (fine : α → Bool) (lt : α → α → Bool) (l : List α) : Nat → Bool
  | 0 => match l[0]? with
    | some x => fine x
    | none => true
  | j + 1 => match l[j + 1]?, l[j]? with
    | some x, some y => fine x && lt y x
    | _, _ => true
def rowOk {α : Type} (fine : α → Bool) (lt : α → α → Bool) (l : List α) : Bool := (List.range l.length).all (stepOk fine lt l)
theorem stepOk_zero {α : Type} {fine : α → Bool} {lt : α → α → Bool} {l : List α} (h : 0 < l.length) : stepOk fine lt l 0 = fine l[0] := by
  simp [stepOk, h]
theorem stepOk_succ {α : Type} {fine : α → Bool} {lt : α → α → Bool} {l : List α} {j : Nat} (h : j + 1 < l.length) : stepOk fine lt l (j + 1) = (fine l[j + 1] && lt l[j] l[j + 1]) := by
  simp [stepOk, h, Nat.lt_of_succ_lt h]
theorem rowOk_no {α : Type} {fine : α → Bool} {lt : α → α → Bool} {l : List α} {k : Nat} (hk : k < l.length) (h : stepOk fine lt l k = false) : rowOk fine lt l = false := by
  rw [← Bool.not_eq_true]
  intro e
  have := List.all_eq_true.1 e k (List.mem_range.2 hk)
  rw [h] at this
  cases this
theorem rowOk_yes {α : Type} {fine : α → Bool} {lt : α → α → Bool} {l : List α} (h : ∀ j, j < l.length → stepOk fine lt l j = true) : rowOk fine lt l = true :=
  List.all_eq_true.2 fun j hj => h j (List.mem_range.1 hj)
def itemFine (e : ItemD) : Bool := within (e.key.size : Int) 1 8 && (decide ((e.val.size : Int) ≤ 20) && within e.ver 1 1000000000)
def keyLt (a b : ItemD) : Bool := Op.bytesLess a.key.toList b.key.toList
def sessionFine (e : SessionD) : Bool := within e.token 1 1000000 && (within e.last 0 1000000 && (decide ((e.reply.size : Int) ≤ 40) && (!decide (e.last = 0) || decide (e.reply.size = 0))))
def tokenLt (a b : SessionD) : Bool := decide (a.token < b.token)
def sessionsRight (l : List SessionD) : Bool := rowOk sessionFine tokenLt l && decide ((l.length : Int) ≤ 3)
def itemsRight (l : List ItemD) : Bool := rowOk itemFine keyLt l && decide ((l.length : Int) ≤ 8)
def keepOk (ls : List SessionD) (li : List ItemD) : Bool := sessionsRight ls && itemsRight li
theorem blank_text (s : ByteArray) : (s.toList == []) = decide (s.size = 0) := by
  rw [ByteArray.toList_eq]
  by_cases h : s.size = 0
  · have : s.data.toList = [] := List.eq_nil_of_length_eq_zero (by simpa using h)
    simp [this, h]
  · have : (s.data.toList == []) = false := by
      rw [beq_eq_false_iff_ne]
      intro e
      exact h (by simpa using congrArg List.length e)
    rw [this]
    simp [h]
end Go.Proofs.YtoanhjjigbjecaaGreatDoor

namespace Go.Proofs.YtoanhjjigbjecaaGreatDoor
open Go.RowKit

/-- the figure of x, as a byte -/
def fig (x : Int) : Int := if x < 10 then 48 + x else 87 + x

theorem fig_bd {x : Int} (h0 : 0 ≤ x) (h1 : x ≤ 15) : 48 ≤ fig x ∧ fig x ≤ 102 := by unfold fig; split <;> omega

def hexOf : List UInt8 → List UInt8
  | [] => []
  | b :: r => UInt8.ofNat (fig (b.toNat / 16)).toNat :: UInt8.ofNat (fig (b.toNat % 16)).toNat :: hexOf r

theorem hexOf_append (l r : List UInt8) : hexOf (l ++ r) = hexOf l ++ hexOf r := by
  induction l with
  | nil => rfl
  | cons b l ih => simp [hexOf, ih]

theorem hexOf_length (l : List UInt8) : (hexOf l).length = 2 * l.length := by
  induction l with
  | nil => rfl
  | cons b l ih => simp [hexOf, ih]; omega

theorem take_snoc (s : ByteArray) (k : Nat) (h : k < s.size) : s.data.toList.take (k + 1) = s.data.toList.take k ++ [s[k]] := by
  rw [List.take_succ_eq_append_getElem (by simpa using h)]; rfl

theorem take_len (s : ByteArray) (k : Nat) (h : k ≤ s.size) : (s.data.toList.take k).length = k := by
  have : s.data.toList.length = s.size := by simp
  rw [List.length_take]; omega

theorem two_cs (b : UInt8) : [Value.int .u8 (fig ((b.toNat : Int) / 16)), .int .u8 (fig ((b.toNat : Int) % 16))] = cs (hexOf [b]) := by
  have hb := b.toNat_lt
  have h1 := fig_bd (x := (b.toNat : Int) / 16) (by omega) (by omega)
  have h2 := fig_bd (x := (b.toNat : Int) % 16) (by omega) (by omega)
  simp only [hexOf, cs, List.map_cons, List.map_nil, UInt8.toNat_ofNat', List.cons.injEq, and_true, Value.int.injEq, true_and]
  omega

theorem hex_step {s : ByteArray} {k : Nat} {w wr w1 : World} {v : Value} {g cap : Nat} {B : Obj} (hk : k < s.size) (hown : wr.ownsRow w.heap.size 5 1 v (2 * k) (cs (hexOf (s.data.toList.take k))))
    (hown' : w1.ownsRow w.heap.size 5 1 (.slice (some ⟨g, 0, none⟩) (2 * k + 2) cap) (2 * k + 2) (cs (hexOf (s.data.toList.take k)) ++ [.int .u8 (fig ((s[k].toNat : Int) / 16)), .int .u8 (fig ((s[k].toNat : Int) % 16))]))
    (hgrow : (wr.alloc B).drew.grownBy w1 v.ownBlock) (hb : Below w.heap.size w wr) :
    w1.ownsRow w.heap.size 5 1 (.slice (some ⟨g, 0, none⟩) (2 * k + 2) cap) (2 * (k + 1)) (cs (hexOf (s.data.toList.take (k + 1)))) ∧ Below w.heap.size w w1 := by
  refine ⟨?_, ((hb.alloc hb.size _).drew).grown hgrow (by have := hb.size; simp; omega) (fun j hj => (hown.lt j hj).1)⟩
  rw [two_cs, ← cs_append, ← hexOf_append, ← take_snoc s k hk] at hown'
  exact hown'

theorem i64_id {x : Int} (h0 : -9223372036854775808 ≤ x) (h1 : x ≤ 9223372036854775807) : IntKind.i64.wrap x = x := by
  simp [IntKind.wrap, IntKind.signed, IntKind.bits]; omega
theorem u8_id {x : Int} (h0 : 0 ≤ x) (h1 : x ≤ 255) : IntKind.u8.wrap x = x := by
  simp [IntKind.wrap, IntKind.signed, IntKind.bits]; omega

theorem wrap_quo (b : UInt8) : IntKind.i64.wrap ((IntKind.i64.wrap (b.toNat : Int)).tdiv 16) = (b.toNat : Int) / 16 := by
  have hb := b.toNat_lt
  have e : IntKind.i64.wrap (b.toNat : Int) = (b.toNat : Int) := by simp [IntKind.wrap, IntKind.signed, IntKind.bits]; omega
  rw [e, Int.tdiv_eq_ediv_of_nonneg (by omega)]
  simp [IntKind.wrap, IntKind.signed, IntKind.bits]; omega
theorem wrap_rem (b : UInt8) : (IntKind.i64.wrap (b.toNat : Int)).tmod 16 = (b.toNat : Int) % 16 := by
  have hb := b.toNat_lt
  have e : IntKind.i64.wrap (b.toNat : Int) = (b.toNat : Int) := by simp [IntKind.wrap, IntKind.signed, IntKind.bits]; omega
  rw [e, Int.tmod_eq_emod_of_nonneg (by omega)]
end Go.Proofs.YtoanhjjigbjecaaGreatDoor

namespace Go.Proofs.YtoanhjjigbjecaaGreatDoor
open Go.RowKit

/-- what the byte c counts as a figure; -1 where it is none -/
def lv (c : Int) : Int := if 48 ≤ c ∧ c ≤ 57 then c - 48 else if 97 ≤ c ∧ c ≤ 102 then c - 87 else -1

theorem lv_bd (c : Int) : -1 ≤ lv c ∧ lv c ≤ 15 := by unfold lv; split <;> (try split) <;> omega

theorem fig_lv {c j : Int} (h0 : 0 ≤ j) (h1 : j ≤ 15) : c = fig j ↔ lv c = j := by
  unfold lv fig
  split <;> split <;> (try split) <;> omega

/-- the values of a text's figures -/
def lvs (l : List UInt8) : List Int := l.map fun c => lv (c.toNat : Int)

def Figs (b : Nat) (l : List UInt8) : Prop := ∀ c ∈ l, 0 ≤ lv (c.toNat : Int) ∧ lv (c.toNat : Int) < b

theorem Figs.snoc {b : Nat} {l : List UInt8} {c : UInt8} (h : Figs b l) (hc : 0 ≤ lv (c.toNat : Int) ∧ lv (c.toNat : Int) < b) : Figs b (l ++ [c]) := by
  intro x hx
  rcases List.mem_append.1 hx with hx | hx
  · exact h x hx
  · simp at hx; subst hx; exact hc

/-- ints as the cells of a row -/
def ns (l : List Int) : List Value := l.map (Value.int .i64)

theorem mem_at (s : ByteArray) (k : Nat) (h : k < s.size) : s[k] ∈ s.data.toList := by
  have h1 : k < s.data.toList.length := by simpa using h
  have h2 := List.getElem_mem h1
  have h3 : s.data.toList[k] = s[k] := by rw [Array.getElem_toList]; rfl
  rw [h3] at h2
  exact h2

theorem lvs_append (l r : List UInt8) : lvs (l ++ r) = lvs l ++ lvs r := by simp [lvs]
theorem lvs_length (l : List UInt8) : (lvs l).length = l.length := by simp [lvs]
theorem ns_append (l r : List Int) : ns (l ++ r) = ns l ++ ns r := by simp [ns]

theorem fv_step {s : ByteArray} {k : Nat} {w wr w1 : World} {v v' : Value} {B : Obj} {j : Int} (hk : k < s.size) (hj : lv (s[k].toNat : Int) = j) (hown : wr.ownsRow w.heap.size 3 1 v k (ns (lvs (s.data.toList.take k))))
    (hown' : w1.ownsRow w.heap.size 3 1 v' (k + 1) (ns (lvs (s.data.toList.take k)) ++ [.int .i64 j])) (hgrow : (wr.alloc B).grownBy w1 v.ownBlock) (hb : Below w.heap.size w wr) :
    w1.ownsRow w.heap.size 3 1 v' (k + 1) (ns (lvs (s.data.toList.take (k + 1)))) ∧ Below w.heap.size w w1 := by
  refine ⟨?_, (hb.alloc hb.size _).grown hgrow (by have := hb.size; simp; omega) (fun j hj => (hown.lt j hj).1)⟩
  have e : [Value.int .i64 j] = ns (lvs [s[k]]) := by simp [ns, lvs, hj]
  rw [e, ← ns_append, ← lvs_append, ← take_snoc s k hk] at hown'
  exact hown'

/-- where the values lie -/
theorem values_lie {w w1 : World} {s : ByteArray} {v : Value} (h : w1.ownsRow w.heap.size 3 1 v s.size (ns (lvs s.data.toList))) :
    ∃ ao cap, v = .slice ao s.size cap ∧ (0 < s.size → ∃ g, ao = some ⟨g, 0, none⟩ ∧ g < w1.heap.size ∧ s.size ≤ cap ∧ ∀ j (hj : j < s.size), w1.cell? ⟨g, j, none⟩ = some (.int .i64 (lv (s[j].toNat : Int)))) := by
  have h' := h
  obtain ⟨h1, h2⟩ := h
  rcases h2 with ⟨hv, hn⟩ | ⟨g, cap, cur, hv, hgb, hh, hle, hmx, hsz, hx⟩
  · exact ⟨none, 0, by rw [hv, hn], fun h0 => by omega⟩
  · refine ⟨_, cap, hv, fun _ => ⟨g, rfl, (h'.lt g (by rw [hv]; rfl)).2, hle, fun j hj => ?_⟩⟩
    have hu : (ns (lvs s.data.toList))[j]? = some (.int .i64 (lv (s[j].toNat : Int))) := by
      have hj' : j < s.data.toList.length := by simpa using hj
      have e : s.data.toList[j] = s[j] := by rw [Array.getElem_toList]; rfl
      simp only [ns, lvs, List.getElem?_map, List.getElem?_eq_getElem hj', Option.map_some, e]
    have := h'.cells (g := g) (by rw [hv]; rfl) j _ hu
    have ea : (⟨g, 0, none⟩ : Addr).add j = ⟨g, j, none⟩ := by
      simp only [Addr.add]
      split
      · simp_all
      · simp
    rw [ea] at this
    exact this
end Go.Proofs.YtoanhjjigbjecaaGreatDoor

namespace Go.Proofs.YtoanhjjigbjecaaGreatDoor
open Go.RowKit

/-- the decimal figures of n, none for 0 (with so many steps at the most) -/
def ddF : Nat → Nat → List UInt8
  | 0, _ => []
  | f + 1, n => if n = 0 then [] else ddF f (n / 10) ++ [UInt8.ofNat (48 + n % 10)]
/-- the decimal figures of n, none for 0 -/
def dd (n : Nat) : List UInt8 := ddF n n

theorem ddF_eq : ∀ (f g n : Nat), n ≤ f → n ≤ g → ddF f n = ddF g n
  | 0, 0, _, _, _ => rfl
  | 0, g + 1, n, h, _ => by
    obtain rfl : n = 0 := by omega
    rw [ddF, ddF, if_pos rfl]
  | f + 1, 0, n, _, h => by
    obtain rfl : n = 0 := by omega
    rw [ddF, ddF, if_pos rfl]
  | f + 1, g + 1, n, h1, h2 => by
    rw [ddF, ddF]
    by_cases h : n = 0
    · rw [if_pos h, if_pos h]
    · rw [if_neg h, if_neg h, ddF_eq f g (n / 10) (by omega) (by omega)]
theorem dd_zero : dd 0 = [] := rfl
theorem dd_pos {n : Nat} (h : 0 < n) : dd n = dd (n / 10) ++ [UInt8.ofNat (48 + n % 10)] := by
  rw [dd, ddF_eq n (n + 1) n (Nat.le_refl _) (by omega), ddF, if_neg (by omega), dd, ddF_eq n (n / 10) (n / 10) (by omega) (Nat.le_refl _)]

theorem dd_len (k : Nat) : ∀ n, n < 10 ^ k → (dd n).length ≤ k := by
  induction k with
  | zero => intro n h; have : n = 0 := by simp at h; omega
            subst this; rw [dd_zero]; simp
  | succ k ih =>
    intro n h
    by_cases h0 : n = 0
    · subst h0; rw [dd_zero]; simp
    · rw [dd_pos (by omega), List.length_append]
      have := ih (n / 10) (by rw [Nat.pow_succ] at h; omega)
      simp only [List.length_cons, List.length_nil]
      omega

/-- n in decimal -/
def dec (n : Int) : List UInt8 := if n = 0 then [48] else if n < 0 then 45 :: dd n.natAbs else dd n.natAbs

/-- what figures make -/
def num (l : List UInt8) : Nat := l.foldl (fun n c => 10 * n + (c.toNat - 48)) 0

theorem num_nil : num [] = 0 := rfl
theorem num_snoc (l : List UInt8) (c : UInt8) : num (l ++ [c]) = 10 * num l + (c.toNat - 48) := by simp [num, List.foldl_append]

def Digits (l : List UInt8) : Prop := ∀ c ∈ l, 48 ≤ c.toNat ∧ c.toNat ≤ 57

theorem Digits.init {l : List UInt8} {c : UInt8} (h : Digits (l ++ [c])) : Digits l ∧ 48 ≤ c.toNat ∧ c.toNat ≤ 57 :=
  ⟨fun x hx => h x (List.mem_append.2 (Or.inl hx)), h c (by simp)⟩
theorem Digits.snoc {l : List UInt8} {c : UInt8} (h : Digits l) (hc : 48 ≤ c.toNat ∧ c.toNat ≤ 57) : Digits (l ++ [c]) := by
  intro x hx
  rcases List.mem_append.1 hx with hx | hx
  · exact h x hx
  · simp at hx; subst hx; exact hc

theorem snoc_cases (l : List UInt8) : l = [] ∨ ∃ r c, l = r ++ [c] := by
  rcases h : l.reverse with _ | ⟨c, r⟩
  · exact Or.inl (by simpa using h)
  · exact Or.inr ⟨r.reverse, c, by have := congrArg List.reverse h; simpa using this⟩

theorem num_lt : ∀ (k : Nat) (l : List UInt8), l.length = k → Digits l → num l < 10 ^ k
  | 0, l, h, _ => by
    have : l = [] := List.eq_nil_of_length_eq_zero h
    subst this; simp [num]
  | k + 1, l, h, hd => by
    rcases snoc_cases l with rfl | ⟨r, c, rfl⟩
    · simp at h
    · have h1 := hd.init
      have := num_lt k r (by simpa using h) h1.1
      rw [num_snoc, Nat.pow_succ]
      omega

theorem num_lead (c : UInt8) (hc : c ≠ 48) (hc1 : 48 ≤ c.toNat ∧ c.toNat ≤ 57) : ∀ (k : Nat) (r : List UInt8), r.length = k → Digits r → 0 < num (c :: r) ∧ dd (num (c :: r)) = c :: r
  | 0, r, h, _ => by
    have : r = [] := List.eq_nil_of_length_eq_zero h
    subst this
    have h48 : c.toNat ≠ 48 := fun e => hc (UInt8.toNat_inj.1 (by simpa using e))
    have e : num [c] = c.toNat - 48 := by simp [num]
    rw [e]
    refine ⟨by omega, ?_⟩
    rw [dd_pos (by omega), show (c.toNat - 48) / 10 = 0 by omega, dd_zero, show 48 + (c.toNat - 48) % 10 = c.toNat by omega]
    simp
  | k + 1, r, h, hd => by
    rcases snoc_cases r with rfl | ⟨r', x, rfl⟩
    · simp at h
    · have h1 := hd.init
      obtain ⟨i1, i2⟩ := num_lead c hc hc1 k r' (by simpa using h) h1.1
      have e : num (c :: (r' ++ [x])) = 10 * num (c :: r') + (x.toNat - 48) := num_snoc (c :: r') x
      rw [e]
      refine ⟨by omega, ?_⟩
      rw [dd_pos (by omega), show (10 * num (c :: r') + (x.toNat - 48)) / 10 = num (c :: r') by omega, show 48 + (10 * num (c :: r') + (x.toNat - 48)) % 10 = x.toNat by omega, i2]
      simp

/-- figures of a number do not begin with a nought -/
theorem dd_head : ∀ (n : Nat), 0 < n → ∃ c r, dd n = c :: r ∧ c ≠ 48 := by
  intro n
  induction n using Nat.strongRecOn with
  | _ n ih =>
    intro h
    rw [dd_pos h]
    by_cases h1 : n / 10 = 0
    · rw [h1, dd_zero]
      refine ⟨_, [], rfl, ?_⟩
      intro e
      have := congrArg UInt8.toNat e
      simp only [UInt8.toNat_ofNat', UInt8.toNat_ofNat] at this
      omega
    · obtain ⟨c, r, e, hc⟩ := ih (n / 10) (by omega) (by omega)
      exact ⟨c, r ++ [UInt8.ofNat (48 + n % 10)], by rw [e]; rfl, hc⟩

/-- a text of figures is how its number is written, just when it has some and no needless nought ahead -/
theorem dec_num (l : List UInt8) (hd : Digits l) : dec (num l : Int) = l ↔ l ≠ [] ∧ ¬ (l.head? = some 48 ∧ 1 < l.length) := by
  match l, hd with
  | [], _ => simp [num, dec]
  | c :: r, hd =>
    have hc := hd c (by simp)
    have hr : Digits r := fun x hx => hd x (by simp [hx])
    by_cases h48 : c = 48
    · subst h48
      match r, hr with
      | [], _ => simp [num, dec]
      | x :: r', hr =>
        simp only [List.head?_cons, List.length_cons, ne_eq, reduceCtorEq, not_false_eq_true, true_and]
        constructor
        · intro e
          unfold dec at e
          split at e
          · simp at e
          · rename_i hz
            rw [if_neg (by omega), Int.natAbs_natCast] at e
            obtain ⟨y, q, e1, e2⟩ := dd_head (num (48 :: x :: r')) (by omega)
            rw [e1] at e
            simp only [List.cons.injEq] at e
            exact absurd e.1 e2
        · intro h
          exact absurd (by omega) h
    · obtain ⟨i1, i2⟩ := num_lead c h48 hc r.length r rfl hr
      unfold dec
      rw [if_neg (by omega), if_neg (by omega), Int.natAbs_natCast, i2]
      simp [h48]

theorem digits_figs (l : List UInt8) : Digits l ↔ Figs 10 l := by
  constructor
  · intro h c hc
    have := h c hc
    unfold lv
    rw [if_pos (by omega)]
    omega
  · intro h c hc
    have := h c hc
    unfold lv at this
    split at this
    · omega
    · split at this <;> omega
theorem lv_digit {c : UInt8} (h : 48 ≤ c.toNat ∧ c.toNat ≤ 57) : lv (c.toNat : Int) = ((c.toNat - 48 : Nat) : Int) := by
  unfold lv; rw [if_pos (by omega)]; omega

/-- a text that ReadDecimal takes -/
def DecOk (l : List UInt8) : Prop := Digits l ∧ num l ≤ 1000000000 ∧ l ≠ [] ∧ ¬ (l.head? = some 48 ∧ 1 < l.length)

theorem digits_at {s : ByteArray} {k : Nat} (hk : k < s.size) (h : ¬ (48 ≤ s[k].toNat ∧ s[k].toNat ≤ 57)) : ¬ DecOk s.data.toList := fun hd => h (hd.1 s[k] (mem_at s k hk))

theorem num_step {s : ByteArray} {k : Nat} (hk : k < s.size) (h : 48 ≤ (s[k].toNat : Int)) : ((num (s.data.toList.take (k + 1)) : Nat) : Int) = 10 * (num (s.data.toList.take k) : Int) + (s[k].toNat : Int) - 48 := by
  rw [take_snoc s k hk, num_snoc]
  omega

theorem ret_num {a b : Nat} (h : a = b) : Ending.returned (.tuple #[.int .i64 a, .bool true]) = .returned (.tuple #[.int .i64 b, .bool true]) := by rw [h]

theorem same_dec {s : ByteArray} {l : List UInt8} : (!l == s.toList) = false ↔ l = s.data.toList := by
  rw [ByteArray.toList_eq]; simp
end Go.Proofs.YtoanhjjigbjecaaGreatDoor

namespace Go.Proofs.YtoanhjjigbjecaaGreatDoor
open Go.RowKit Go.Sort

/-- an order in which one of two that differ is ahead -/
structure Ordered {α : Type} (lt : α → α → Bool) : Prop where
  irrefl : ∀ a, lt a a = false
  trans : ∀ a b c, lt a b = true → lt b c = true → lt a c = true

/-- all ahead of it, itself, all behind it -/
def putIn {α : Type} (lt : α → α → Bool) (l : List α) (x : α) : List α := l.filter (fun a => lt a x) ++ x :: l.filter (fun a => lt x a)
def AscBy {α : Type} (lt : α → α → Bool) (l : List α) : Prop := l.Pairwise (fun a b => lt a b = true)

theorem rowOk_asc {α : Type} {fine : α → Bool} {lt : α → α → Bool} (ho : Ordered lt) {l : List α} (h : rowOk fine lt l = true) : AscBy lt l ∧ ∀ x ∈ l, fine x = true := by
  have key : ∀ j, j < l.length → stepOk fine lt l j = true := fun j hj => List.all_eq_true.1 h j (List.mem_range.2 hj)
  have up : ∀ d j (hj : j + d + 1 < l.length), lt l[j] l[j + d + 1] = true := by
    intro d
    induction d with
    | zero =>
      intro j hj
      have := key (j + 1) (by omega)
      rw [stepOk_succ (by omega)] at this
      exact (Bool.and_eq_true _ _ ▸ this).2
    | succ d ih =>
      intro j hj
      have h1 := ih j (by omega)
      have h2 := key (j + d + 1 + 1) (by omega)
      rw [stepOk_succ (by omega)] at h2
      exact ho.trans _ _ _ h1 (Bool.and_eq_true _ _ ▸ h2).2
  refine ⟨List.pairwise_iff_getElem.2 fun i j hi hj hij => ?_, fun x hx => ?_⟩
  · have := up (j - i - 1) i (by omega)
    have e : i + (j - i - 1) + 1 = j := by omega
    simpa only [e] using this
  · obtain ⟨j, hj, rfl⟩ := List.getElem_of_mem hx
    have := key j hj
    cases j with
    | zero => rw [stepOk_zero hj] at this; exact this
    | succ j => rw [stepOk_succ hj] at this; exact (Bool.and_eq_true _ _ ▸ this).1
theorem asc_rowOk {α : Type} {fine : α → Bool} {lt : α → α → Bool} {l : List α} (h : AscBy lt l) (hf : ∀ x ∈ l, fine x = true) : rowOk fine lt l = true := by
  refine rowOk_yes fun j hj => ?_
  cases j with
  | zero => rw [stepOk_zero hj]; exact hf _ (List.getElem_mem _)
  | succ j =>
    rw [stepOk_succ hj, hf _ (List.getElem_mem _), List.pairwise_iff_getElem.1 h j (j + 1) (by omega) hj (by omega)]
    rfl
theorem mem_putIn {α : Type} {lt : α → α → Bool} {l : List α} {x y : α} : y ∈ putIn lt l x ↔ y = x ∨ y ∈ l ∧ (lt y x = true ∨ lt x y = true) := by
  simp only [putIn, List.mem_append, List.mem_cons, List.mem_filter]
  constructor
  · rintro (⟨a, b⟩ | rfl | ⟨a, b⟩)
    · exact Or.inr ⟨a, Or.inl b⟩
    · exact Or.inl rfl
    · exact Or.inr ⟨a, Or.inr b⟩
  · rintro (rfl | ⟨a, b | b⟩)
    · exact Or.inr (Or.inl rfl)
    · exact Or.inl ⟨a, b⟩
    · exact Or.inr (Or.inr ⟨a, b⟩)
theorem asc_putIn {α : Type} {lt : α → α → Bool} (ho : Ordered lt) {l : List α} (h : AscBy lt l) (x : α) : AscBy lt (putIn lt l x) := by
  rw [AscBy, putIn, List.pairwise_append]
  refine ⟨h.sublist List.filter_sublist, List.pairwise_cons.2 ⟨fun b hb => (List.mem_filter.1 hb).2, h.sublist List.filter_sublist⟩, fun a ha b hb => ?_⟩
  have h1 := (List.mem_filter.1 ha).2
  rcases List.mem_cons.1 hb with rfl | hb
  · exact h1
  · exact ho.trans _ _ _ h1 (List.mem_filter.1 hb).2
/-- two of a list by the one order, with the same members: one list -/
theorem asc_same {α : Type} {lt : α → α → Bool} (ho : Ordered lt) : ∀ {l m : List α}, AscBy lt l → AscBy lt m → (∀ x, x ∈ l ↔ x ∈ m) → l = m
  | [], [], _, _, _ => rfl
  | [], b :: m, _, _, h => by have := (h b).2 (by simp); cases this
  | a :: l, [], _, _, h => by have := (h a).1 (by simp); cases this
  | a :: l, b :: m, hl, hm, h => by
    obtain ⟨hl1, hl2⟩ := List.pairwise_cons.1 hl
    obtain ⟨hm1, hm2⟩ := List.pairwise_cons.1 hm
    have hab : a = b := by
      rcases List.mem_cons.1 ((h a).1 (by simp)) with e | e
      · exact e
      · rcases List.mem_cons.1 ((h b).2 (by simp)) with q | q
        · exact q.symm
        · have := ho.trans _ _ _ (hl1 b q) (hm1 a e)
          rw [ho.irrefl] at this
          cases this
    subst hab
    have hni : ∀ x ∈ l, x ≠ a := fun x hx e => by have := hl1 x hx; rw [e, ho.irrefl] at this; cases this
    have hnm : ∀ x ∈ m, x ≠ a := fun x hx e => by have := hm1 x hx; rw [e, ho.irrefl] at this; cases this
    rw [asc_same ho hl2 hm2 fun x => ?_]
    constructor
    · intro hx
      rcases List.mem_cons.1 ((h x).1 (List.mem_cons_of_mem _ hx)) with e | e
      · exact absurd e (hni x hx)
      · exact e
    · intro hx
      rcases List.mem_cons.1 ((h x).2 (List.mem_cons_of_mem _ hx)) with e | e
      · exact absurd e (hnm x hx)
      · exact e
theorem asc_filter {α : Type} {lt : α → α → Bool} {l : List α} (h : AscBy lt l) (p : α → Bool) : AscBy lt (l.filter p) := h.sublist List.filter_sublist
theorem asc_tail {α : Type} {lt : α → α → Bool} {l : List α} (h : AscBy lt l) : AscBy lt l.tail := h.sublist (List.tail_sublist l)

theorem token_ordered : Ordered tokenLt := ⟨fun a => by simp [tokenLt], fun a b c h1 h2 => by simp only [tokenLt, decide_eq_true_eq] at *; omega⟩
theorem bytesLess_lt (a b : List UInt8) : Op.bytesLess a b = true ↔ a < b := by
  rw [bytesLess_eq]; simp
theorem text_tri (a b : List UInt8) : a < b ∨ a = b ∨ b < a := by
  rcases Decidable.em (a < b) with h | h
  · exact Or.inl h
  · rcases Decidable.em (b < a) with h2 | h2
    · exact Or.inr (Or.inr h2)
    · exact Or.inr (Or.inl (List.le_antisymm (List.not_lt.1 h2) (List.not_lt.1 h)))
theorem key_ordered : Ordered keyLt := by
  refine ⟨fun a => ?_, fun a b c h1 h2 => ?_⟩
  · rw [← Bool.not_eq_true, keyLt, bytesLess_lt]; exact List.lt_irrefl _
  · rw [keyLt, bytesLess_lt] at *
    exact List.lt_trans h1 h2
theorem token_total {a b : SessionD} (h : a.token ≠ b.token) : tokenLt a b = true ∨ tokenLt b a = true := by
  simp only [tokenLt, decide_eq_true_eq]; omega
theorem text_ext {a b : ByteArray} (h : a.toList = b.toList) : a = b := by
  rw [ByteArray.toList_eq, ByteArray.toList_eq] at h
  exact ByteArray.ext (Array.toList_inj.1 h)
theorem key_total {a b : ItemD} (h : a.key ≠ b.key) : keyLt a b = true ∨ keyLt b a = true := by
  rw [keyLt, keyLt, bytesLess_lt, bytesLess_lt]
  rcases text_tri a.key.toList b.key.toList with q | q | q
  · exact Or.inl q
  · exact absurd (text_ext q) h
  · exact Or.inr q
theorem tokenLt_ne {a b : SessionD} (h : tokenLt a b = true) : a.token ≠ b.token := by
  simp only [tokenLt, decide_eq_true_eq] at h; omega
theorem keyLt_ne {a b : ItemD} (h : keyLt a b = true) : a.key ≠ b.key := by
  intro e
  rw [keyLt, bytesLess_lt, e] at h
  exact List.lt_irrefl _ h

def txt (l : List UInt8) : ByteArray := ⟨l.toArray⟩
def decT (n : Int) : ByteArray := ⟨(dec n).toArray⟩
theorem decT_len {n : Int} (h0 : 0 ≤ n) (h1 : n ≤ 1000000000) : (decT n).size ≤ 19 := by
  have h := dd_len 19 n.natAbs (by omega)
  show (dec n).toArray.size ≤ 19
  rw [List.size_toArray]
  unfold dec
  split
  · decide
  · rw [if_neg (by omega)]
    exact h
/-- what is done to the items, and replied -/
def putD (li : List ItemD) (index : Int) (x : CommandD) : List ItemD × ByteArray :=
  if (putIn keyLt li ⟨x.key, x.val, index⟩).length > 8 then (li, txt [102, 117, 108, 108]) else (putIn keyLt li ⟨x.key, x.val, index⟩, txt [112, 117, 116, 32] ++ decT index)
def doD (li : List ItemD) (index : Int) (x : CommandD) : List ItemD × ByteArray :=
  if x.op = 2 then putD li index x
  else if (itemOf li x.key).2 = false then (li, txt [110, 111])
  else if x.op = 3 then (li, txt [105, 115, 32] ++ decT (itemOf li x.key).1.ver ++ txt [32] ++ (itemOf li x.key).1.val)
  else if x.op = 4 then (li.filter (fun e => !(e.key.toList == x.key.toList)), txt [100, 114, 111, 112])
  else if (itemOf li x.key).1.ver = x.ver then putD li index x
  else (li, txt [110, 111, 116, 32] ++ decT (itemOf li x.key).1.ver)
def openedD (ls : List SessionD) (index : Int) : List SessionD :=
  if (putIn tokenLt ls ⟨index, 0, ⟨#[]⟩⟩).length > 3 then (putIn tokenLt ls ⟨index, 0, ⟨#[]⟩⟩).tail else putIn tokenLt ls ⟨index, 0, ⟨#[]⟩⟩
def sessOf (ls : List SessionD) (token : Int) : Option SessionD := ls.find? (fun e => e.token == token)
structure KeepD where
  ss : List SessionD
  is : List ItemD
  reply : ByteArray
  ok : Bool
def askD (ls : List SessionD) (li : List ItemD) (index : Int) (x : CommandD) (s : SessionD) : KeepD :=
  if x.seq = 0 ∨ x.seq < s.last then ⟨ls, li, txt [111, 108, 100], true⟩
  else if x.seq = s.last then ⟨ls, li, s.reply, true⟩
  else if x.seq > s.last + 1 then ⟨ls, li, txt [103, 97, 112], true⟩
  else ⟨putIn tokenLt ls ⟨x.token, x.seq, (doD li index x).2⟩, (doD li index x).1, (doD li index x).2, true⟩
def doneD (ls : List SessionD) (li : List ItemD) (index : Int) (x : CommandD) : KeepD :=
  if x.op = 1 then ⟨openedD ls index, li, txt [111, 112, 101, 110, 32] ++ decT index, true⟩
  else match sessOf ls x.token with
    | none => ⟨ls, li, txt [110, 111, 110, 101], true⟩
    | some s => askD ls li index x s
def mayDo (ls : List SessionD) (li : List ItemD) (index : Int) (x : CommandD) : Bool := keepOk ls li && (within index 1 400000 && commandOk x)
def performD (ls : List SessionD) (li : List ItemD) (index : Int) (x : CommandD) : KeepD :=
  if mayDo ls li index x = true then doneD ls li index x else ⟨[], [], ⟨#[]⟩, false⟩
theorem sessOf_some {ls : List SessionD} {t : Int} {s : SessionD} (h : sessOf ls t = some s) : s ∈ ls ∧ s.token = t :=
  ⟨List.mem_of_find?_eq_some h, by have := List.find?_some h; simpa using this⟩
theorem sessOf_none {ls : List SessionD} {t : Int} (h : sessOf ls t = none) : ∀ s ∈ ls, s.token ≠ t := by
  intro s hs
  have := List.find?_eq_none.1 h s hs
  simpa using this
theorem itemOf_true {li : List ItemD} {k : ByteArray} (h : (itemOf li k).2 = true) : (itemOf li k).1 ∈ li ∧ (itemOf li k).1.key = k := by
  unfold itemOf at h ⊢
  cases hf : li.find? (fun e => e.key.toList == k.toList) with
  | none => rw [hf] at h; cases h
  | some e =>
    simp only
    refine ⟨List.mem_of_find?_eq_some hf, ?_⟩
    have := List.find?_some hf
    exact text_ext (by simpa using this)
theorem itemOf_false {li : List ItemD} {k : ByteArray} (h : (itemOf li k).2 = false) : ∀ e ∈ li, e.key ≠ k := by
  unfold itemOf at h
  cases hf : li.find? (fun e => e.key.toList == k.toList) with
  | none =>
    intro e he q
    have := List.find?_eq_none.1 hf e he
    rw [q] at this
    simp at this
  | some e => rw [hf] at h; cases h
/-- putting in what is there already, or what is new -/
theorem len_putIn {α : Type} {lt : α → α → Bool} (l : List α) (x : α) : (putIn lt l x).length = (l.filter (fun a => lt a x)).length + (l.filter (fun a => lt x a)).length + 1 := by
  simp [putIn]; omega
theorem mem_putS {ls : List SessionD} {x y : SessionD} : y ∈ putIn tokenLt ls x ↔ y = x ∨ y ∈ ls ∧ y.token ≠ x.token := by
  rw [mem_putIn]
  constructor
  · rintro (h | ⟨h, q | q⟩)
    · exact Or.inl h
    · exact Or.inr ⟨h, tokenLt_ne q⟩
    · exact Or.inr ⟨h, (tokenLt_ne q).symm⟩
  · rintro (h | ⟨h, q⟩)
    · exact Or.inl h
    · exact Or.inr ⟨h, token_total q⟩
theorem mem_putK {li : List ItemD} {x y : ItemD} : y ∈ putIn keyLt li x ↔ y = x ∨ y ∈ li ∧ y.key ≠ x.key := by
  rw [mem_putIn]
  constructor
  · rintro (h | ⟨h, q | q⟩)
    · exact Or.inl h
    · exact Or.inr ⟨h, keyLt_ne q⟩
    · exact Or.inr ⟨h, (keyLt_ne q).symm⟩
  · rintro (h | ⟨h, q⟩)
    · exact Or.inl h
    · exact Or.inr ⟨h, key_total q⟩
theorem less_flip (a b : List UInt8) : Op.bytesLess b a = !(Op.bytesLess a b || a == b) := by
  have h1 := bytesLess_lt a b
  have h2 := bytesLess_lt b a
  rcases text_tri a b with q | q | q
  · rw [h1.2 q, Bool.true_or, Bool.not_true, ← Bool.not_eq_true, h2]
    exact fun q2 => List.lt_irrefl _ (List.lt_trans q q2)
  · subst q
    rw [beq_self_eq_true, Bool.or_true, Bool.not_true, ← Bool.not_eq_true, h2]
    exact List.lt_irrefl _
  · have e1 : Op.bytesLess a b = false := by
      rw [← Bool.not_eq_true, h1]
      exact fun q2 => List.lt_irrefl _ (List.lt_trans q q2)
    have e2 : (a == b) = false := by
      rw [beq_eq_false_iff_ne]
      intro e
      subst e
      exact List.lt_irrefl _ q
    rw [h2.2 q, e1, e2]
    rfl
/-- a list, and behind it those of the first k for which p holds -/
def rowsOf {α : Type} (P : List α) (p : α → Bool) (l : List α) (k : Nat) : List α := P ++ (l.take k).filter p
theorem rowsOf_step {α : Type} (P : List α) (p : α → Bool) (l : List α) (k : Nat) (hk : k < l.length) : rowsOf P p l (k + 1) = rowsOf P p l k ++ (if p l[k] = true then [l[k]] else []) := by
  rw [rowsOf, rowsOf, List.take_succ_eq_append_getElem hk, List.filter_append, List.append_assoc]
  cases h : p l[k] <;> simp [h]
theorem rowsOf_le {α : Type} (P : List α) (p : α → Bool) (l : List α) (k : Nat) : (rowsOf P p l k).length ≤ P.length + l.length := by
  have := List.length_filter_le p (l.take k)
  rw [List.length_take] at this
  rw [rowsOf, List.length_append]
  omega
theorem rowsOf_zero {α : Type} (P : List α) (p : α → Bool) (l : List α) : rowsOf P p l 0 = P := by simp [rowsOf]
theorem rowsOf_all {α : Type} (P : List α) (p : α → Bool) (l : List α) : rowsOf P p l l.length = P ++ l.filter p := by simp [rowsOf]
theorem putIn_rows {α : Type} (lt : α → α → Bool) (l : List α) (x : α) : putIn lt l x = rowsOf (rowsOf [] (fun a => lt a x) l l.length ++ [x]) (fun a => lt x a) l l.length := by
  rw [rowsOf_all, rowsOf_all, List.nil_append, putIn, List.append_assoc]
  rfl
end Go.Proofs.YtoanhjjigbjecaaGreatDoor

namespace Go.Proofs.YtoanhjjigbjecaaGreatDoor
open Go.RowKit Go.Sort

theorem asc_at {α : Type} {lt : α → α → Bool} {l : List α} (h : AscBy lt l) {i j : Nat} (hij : i < j) (hj : j < l.length) : lt (l[i]'(by omega)) l[j] = true := List.pairwise_iff_getElem.1 h i j (by omega) hj hij
theorem keep_facts {ls : List SessionD} {li : List ItemD} (h : keepOk ls li = true) : (AscBy tokenLt ls ∧ (∀ s ∈ ls, sessionFine s = true) ∧ ls.length ≤ 3) ∧ AscBy keyLt li ∧ (∀ e ∈ li, itemFine e = true) ∧ li.length ≤ 8 := by
  simp only [keepOk, sessionsRight, itemsRight, Bool.and_eq_true, decide_eq_true_eq] at h
  obtain ⟨⟨h1, h2⟩, h3, h4⟩ := h
  have a := rowOk_asc token_ordered h1
  have b := rowOk_asc key_ordered h3
  exact ⟨⟨a.1, a.2, by omega⟩, b.1, b.2, by omega⟩
theorem facts_keep {ls : List SessionD} {li : List ItemD} (h : (AscBy tokenLt ls ∧ (∀ s ∈ ls, sessionFine s = true) ∧ ls.length ≤ 3) ∧ AscBy keyLt li ∧ (∀ e ∈ li, itemFine e = true) ∧ li.length ≤ 8) : keepOk ls li = true := by
  obtain ⟨⟨h1, h2, h3⟩, h4, h5, h6⟩ := h
  simp only [keepOk, sessionsRight, itemsRight, Bool.and_eq_true, decide_eq_true_eq]
  exact ⟨⟨asc_rowOk h1 h2, by omega⟩, asc_rowOk h4 h5, by omega⟩
theorem asc_token {ls : List SessionD} (h : AscBy tokenLt ls) {i j : Nat} (hi : i < ls.length) (hj : j < ls.length) (e : ls[i].token = ls[j].token) : i = j := by
  rcases Nat.lt_trichotomy i j with q | q | q
  · exact absurd e (tokenLt_ne (asc_at h q hj))
  · exact q
  · exact absurd e.symm (tokenLt_ne (asc_at h q hi))
theorem asc_key {li : List ItemD} (h : AscBy keyLt li) {i j : Nat} (hi : i < li.length) (hj : j < li.length) (e : li[i].key = li[j].key) : i = j := by
  rcases Nat.lt_trichotomy i j with q | q | q
  · exact absurd e (keyLt_ne (asc_at h q hj))
  · exact q
  · exact absurd e.symm (keyLt_ne (asc_at h q hi))
theorem token_one {ls : List SessionD} (h : AscBy tokenLt ls) {a b : SessionD} (ha : a ∈ ls) (hb : b ∈ ls) (e : a.token = b.token) : a = b := by
  obtain ⟨i, hi, rfl⟩ := List.getElem_of_mem ha
  obtain ⟨j, hj, rfl⟩ := List.getElem_of_mem hb
  obtain rfl := asc_token h hi hj e
  rfl
theorem key_one {li : List ItemD} (h : AscBy keyLt li) {a b : ItemD} (ha : a ∈ li) (hb : b ∈ li) (e : a.key = b.key) : a = b := by
  obtain ⟨i, hi, rfl⟩ := List.getElem_of_mem ha
  obtain ⟨j, hj, rfl⟩ := List.getElem_of_mem hb
  obtain rfl := asc_key h hi hj e
  rfl
theorem sessOf_at {ls : List SessionD} (h : AscBy tokenLt ls) {p : Nat} (hp : p < ls.length) {t : Int} (ht : ls[p].token = t) : sessOf ls t = some ls[p] := by
  cases hs : sessOf ls t with
  | none => exact absurd ht (sessOf_none hs _ (List.getElem_mem hp))
  | some s =>
    obtain ⟨h1, h2⟩ := sessOf_some hs
    rw [token_one h h1 (List.getElem_mem hp) (by rw [h2, ht])]
theorem sessOf_not {ls : List SessionD} {t : Int} (h : ∀ j (hj : j < ls.length), ls[j].token ≠ t) : sessOf ls t = none := by
  rw [sessOf, List.find?_eq_none]
  intro x hx
  obtain ⟨j, hj, rfl⟩ := List.getElem_of_mem hx
  simpa using h j hj
theorem asc_set {ls : List SessionD} (h : AscBy tokenLt ls) {p : Nat} (hp : p < ls.length) {y : SessionD} (hy : y.token = ls[p].token) : AscBy tokenLt (ls.set p y) := by
  refine List.pairwise_iff_getElem.2 fun i j hi hj hij => ?_
  rw [List.length_set] at hi hj
  have q := asc_at h hij hj
  simp only [tokenLt, decide_eq_true_eq] at q ⊢
  rw [List.getElem_set, List.getElem_set]
  split
  · rename_i e
    subst e
    rw [if_neg (by omega), hy]
    exact q
  · split
    · rename_i e
      subst e
      rw [hy]
      exact q
    · exact q
theorem set_putIn {ls : List SessionD} (h : AscBy tokenLt ls) {p : Nat} (hp : p < ls.length) {y : SessionD} (hy : y.token = ls[p].token) : ls.set p y = putIn tokenLt ls y := by
  refine asc_same token_ordered (asc_set h hp hy) (asc_putIn token_ordered h y) fun x => ?_
  rw [mem_putS]
  constructor
  · intro hx
    obtain ⟨j, hj, rfl⟩ := List.getElem_of_mem hx
    rw [List.length_set] at hj
    rw [List.getElem_set]
    split
    · exact Or.inl rfl
    · rename_i e
      exact Or.inr ⟨List.getElem_mem hj, fun q => e (asc_token h hp hj (by rw [q, hy]))⟩
  · rintro (rfl | ⟨hx, hne⟩)
    · exact List.mem_set hp x
    · obtain ⟨j, hj, rfl⟩ := List.getElem_of_mem hx
      have hjp : p ≠ j := fun e => hne (by subst e; exact hy.symm)
      have : (ls.set p y)[j]'(by rw [List.length_set]; exact hj) = ls[j] := by rw [List.getElem_set, if_neg hjp]
      rw [← this]
      exact List.getElem_mem _
theorem cells_set2 {ls : List SessionD} {p : Nat} (hp : p < ls.length) (q : Int) (r : ByteArray) : ((sessionCells ls).set (p * 3 + 1) (.int .i64 q)).set (p * 3 + 2) (.string r) = sessionCells (ls.set p ⟨ls[p].token, q, r⟩) := by
  have e0 : ls.take p ++ ls[p] :: ls.drop (p + 1) = ls := by rw [← List.drop_eq_getElem_cons hp, List.take_append_drop]
  have e1 : sessionCells ls = sessionCells (ls.take p) ++ (.int .i64 ls[p].token :: .int .i64 ls[p].last :: .string ls[p].reply :: sessionCells (ls.drop (p + 1))) := by
    refine (congrArg sessionCells e0.symm).trans ?_
    rw [sessionCells, List.flatMap_append, List.flatMap_cons]
    rfl
  have e2 : ls.set p ⟨ls[p].token, q, r⟩ = ls.take p ++ ⟨ls[p].token, q, r⟩ :: ls.drop (p + 1) := by rw [List.set_eq_take_append_cons_drop, if_pos hp]
  have hlen : (sessionCells (ls.take p)).length = p * 3 := by rw [sessionCells_length, List.length_take]; omega
  rw [e1, e2, List.set_append_right _ _ (by omega), List.set_append_right _ _ (by omega), hlen, show p * 3 + 1 - p * 3 = 1 by omega, show p * 3 + 2 - p * 3 = 2 by omega]
  simp [sessionCells, sessionEnc]
/-- what a right command's fields are -/
theorem command_ops {x : CommandD} (h : commandOk x = true) : (x.op = 1 ∨ x.op = 2 ∨ x.op = 3 ∨ x.op = 4 ∨ x.op = 5) ∧ (0 ≤ x.token ∧ x.token ≤ 1000000) ∧ (0 ≤ x.seq ∧ x.seq ≤ 1000000) := by
  simp only [commandOk, within, Bool.and_eq_true, decide_eq_true_eq] at h
  omega
theorem command_key {x : CommandD} (h : commandOk x = true) : x.key.size ≤ 8 ∧ x.val.size ≤ 20 := by
  simp only [commandOk, within, Bool.and_eq_true, decide_eq_true_eq] at h
  obtain ⟨_, _, _, h⟩ := h
  split at h
  · simp only [Bool.and_eq_true, decide_eq_true_eq] at h
    omega
  · simp only [Bool.and_eq_true, decide_eq_true_eq] at h
    omega
theorem session_bounds {s : SessionD} (h : sessionFine s = true) : (1 ≤ s.token ∧ s.token ≤ 1000000) ∧ (0 ≤ s.last ∧ s.last ≤ 1000000) ∧ s.reply.size ≤ 40 := by
  simp only [sessionFine, within, Bool.and_eq_true, decide_eq_true_eq] at h
  omega
theorem item_bounds {e : ItemD} (h : itemFine e = true) : (1 ≤ e.key.size ∧ e.key.size ≤ 8) ∧ e.val.size ≤ 20 ∧ (1 ≤ e.ver ∧ e.ver ≤ 1000000000) := by
  simp only [itemFine, within, Bool.and_eq_true, decide_eq_true_eq] at h
  omega
theorem may_facts {ls : List SessionD} {li : List ItemD} {index : Int} {x : CommandD} (h : mayDo ls li index x = true) : (0 ≤ index ∧ index ≤ 400000) ∧ ((AscBy tokenLt ls ∧ (∀ s ∈ ls, sessionFine s = true) ∧ ls.length ≤ 3) ∧ AscBy keyLt li ∧ (∀ e ∈ li, itemFine e = true) ∧ li.length ≤ 8) ∧ commandOk x = true := by
  simp only [mayDo, within, Bool.and_eq_true, decide_eq_true_eq] at h
  exact ⟨by omega, keep_facts h.1, h.2.2⟩
theorem split_len {α : Type} {lt : α → α → Bool} (ho : Ordered lt) (x : α) : ∀ (l : List α), (l.filter (fun a => lt a x)).length + (l.filter (fun a => lt x a)).length + (l.filter (fun a => !(lt a x) && !(lt x a))).length = l.length
  | [] => rfl
  | a :: l => by
    have ih := split_len ho x l
    cases h1 : lt a x with
    | true =>
      have h2 : lt x a = false := by
        rw [← Bool.not_eq_true]
        intro h2
        have := ho.trans _ _ _ h1 h2
        rw [ho.irrefl] at this
        cases this
      simp [h1, h2]
      omega
    | false =>
      cases h2 : lt x a with
      | true => simp [h1, h2]; omega
      | false => simp [h1, h2]; omega
theorem one_len {α : Type} {lt : α → α → Bool} {l : List α} (h : AscBy lt l) {p : α → Bool} (hp : ∀ a b, p a = true → p b = true → lt a b = false) : (l.filter p).length ≤ 1 := by
  have hq := asc_filter h p
  match hm : l.filter p with
  | [] => simp
  | [_] => simp
  | a :: b :: r =>
    rw [hm] at hq
    have h1 := (List.pairwise_cons.1 hq).1 b (by simp)
    have ha : a ∈ l.filter p := by rw [hm]; simp
    have hb : b ∈ l.filter p := by rw [hm]; simp
    rw [hp a b (List.mem_filter.1 ha).2 (List.mem_filter.1 hb).2] at h1
    cases h1
/-- how many there are behind a put -/
theorem putK_len {li : List ItemD} (h : AscBy keyLt li) (x : ItemD) : (putIn keyLt li x).length = if (itemOf li x.key).2 = true then li.length else li.length + 1 := by
  have h1 := split_len key_ordered x li
  have same : ∀ a, (!(keyLt a x) && !(keyLt x a)) = true → a.key = x.key := by
    intro a ha
    simp only [Bool.and_eq_true, Bool.not_eq_true'] at ha
    rcases Decidable.em (a.key = x.key) with q | q
    · exact q
    · rcases key_total q with q | q
      · rw [ha.1] at q; cases q
      · rw [ha.2] at q; cases q
  have h2 := one_len h (p := fun a => !(keyLt a x) && !(keyLt x a)) (fun a b ha hb => by
    rw [← Bool.not_eq_true]
    intro q
    exact keyLt_ne q ((same a ha).trans (same b hb).symm))
  rw [len_putIn]
  cases hi : (itemOf li x.key).2 with
  | true =>
    obtain ⟨m1, m2⟩ := itemOf_true hi
    have h3 : 0 < (li.filter (fun a => !(keyLt a x) && !(keyLt x a))).length := by
      refine List.length_pos_of_mem (a := (itemOf li x.key).1) (List.mem_filter.2 ⟨m1, ?_⟩)
      have e1 : keyLt (itemOf li x.key).1 x = false := by rw [← Bool.not_eq_true]; exact fun q => keyLt_ne q m2
      have e2 : keyLt x (itemOf li x.key).1 = false := by rw [← Bool.not_eq_true]; exact fun q => keyLt_ne q m2.symm
      rw [e1, e2]
      rfl
    rw [if_pos rfl]
    omega
  | false =>
    have h3 : (li.filter (fun a => !(keyLt a x) && !(keyLt x a))).length = 0 := by
      rw [List.length_eq_zero_iff, List.filter_eq_nil_iff]
      intro a ha q
      exact itemOf_false hi a ha (same a q)
    rw [if_neg (by simp)]
    omega
end Go.Proofs.YtoanhjjigbjecaaGreatDoor

namespace Go.Proofs.YtoanhjjigbjecaaGreatDoor
open Go.RowKit Go.Sort

theorem decT_ten {n : Int} (h0 : 0 ≤ n) (h1 : n ≤ 1000000000) : (decT n).size ≤ 10 := by
  have h := dd_len 10 n.natAbs (by omega)
  show (dec n).toArray.size ≤ 10
  rw [List.size_toArray]
  unfold dec
  split
  · decide
  · rw [if_neg (by omega)]
    exact h
theorem txt_size (l : List UInt8) : (txt l).size = l.length := by
  show l.toArray.size = _
  rw [List.size_toArray]
theorem command_keyOk {x : CommandD} (h : commandOk x = true) (ho : x.op ≠ 1) : 1 ≤ x.key.size ∧ x.key.size ≤ 8 ∧ x.val.size ≤ 20 := by
  simp only [commandOk, within, Bool.and_eq_true, decide_eq_true_eq, if_neg ho] at h
  omega
theorem putD_right {li : List ItemD} {index : Int} {x : CommandD} (ha : AscBy keyLt li) (hf : ∀ e ∈ li, itemFine e = true) (hl : li.length ≤ 8) (h0 : 1 ≤ index) (h1 : index ≤ 400000) (hx : commandOk x = true) (ho : x.op ≠ 1) :
    AscBy keyLt (putD li index x).1 ∧ (∀ e ∈ (putD li index x).1, itemFine e = true) ∧ (putD li index x).1.length ≤ 8 ∧ (putD li index x).2.size ≤ 40 := by
  obtain ⟨k1, k2, k3⟩ := command_keyOk hx ho
  unfold putD
  split
  · exact ⟨ha, hf, hl, by rw [txt_size]; decide⟩
  · rename_i q
    refine ⟨asc_putIn key_ordered ha _, fun e he => ?_, Nat.not_lt.1 q, ?_⟩
    · rcases mem_putK.1 he with rfl | ⟨he, _⟩
      · simp only [itemFine, within, Bool.and_eq_true, decide_eq_true_eq]
        omega
      · exact hf e he
    · have := decT_ten (show 0 ≤ index by omega) (by omega)
      rw [ByteArray.size_append, txt_size]
      show 4 + _ ≤ _
      omega
theorem doD_right {li : List ItemD} {index : Int} {x : CommandD} (ha : AscBy keyLt li) (hf : ∀ e ∈ li, itemFine e = true) (hl : li.length ≤ 8) (h0 : 1 ≤ index) (h1 : index ≤ 400000) (hx : commandOk x = true) (ho : x.op ≠ 1) :
    AscBy keyLt (doD li index x).1 ∧ (∀ e ∈ (doD li index x).1, itemFine e = true) ∧ (doD li index x).1.length ≤ 8 ∧ (doD li index x).2.size ≤ 40 := by
  unfold doD
  split
  · exact putD_right ha hf hl h0 h1 hx ho
  split
  · exact ⟨ha, hf, hl, by rw [txt_size]; decide⟩
  rename_i hh
  have hi : (itemOf li x.key).2 = true := by simpa using hh
  have hb := item_bounds (hf _ (itemOf_true hi).1)
  have hd := decT_ten (show 0 ≤ (itemOf li x.key).1.ver by omega) (by omega)
  split
  · refine ⟨ha, hf, hl, ?_⟩
    rw [ByteArray.size_append, ByteArray.size_append, ByteArray.size_append, txt_size, txt_size]
    show 3 + _ + 1 + _ ≤ _
    omega
  split
  · exact ⟨asc_filter ha _, fun e he => hf e (List.mem_filter.1 he).1, Nat.le_trans (List.length_filter_le _ _) hl, by rw [txt_size]; decide⟩
  split
  · exact putD_right ha hf hl h0 h1 hx ho
  · refine ⟨ha, hf, hl, ?_⟩
    rw [ByteArray.size_append, txt_size]
    show 4 + _ ≤ _
    omega
theorem opened_right {ls : List SessionD} {index : Int} (ha : AscBy tokenLt ls) (hf : ∀ s ∈ ls, sessionFine s = true) (hl : ls.length ≤ 3) (h0 : 1 ≤ index) (h1 : index ≤ 400000) :
    AscBy tokenLt (openedD ls index) ∧ (∀ s ∈ openedD ls index, sessionFine s = true) ∧ (openedD ls index).length ≤ 3 := by
  have hlen := len_putIn (lt := tokenLt) ls ⟨index, 0, ⟨#[]⟩⟩
  have hsp := split_len token_ordered ⟨index, 0, ⟨#[]⟩⟩ ls
  have hfine : ∀ s ∈ putIn tokenLt ls ⟨index, 0, ⟨#[]⟩⟩, sessionFine s = true := by
    intro s hs
    rcases mem_putS.1 hs with rfl | ⟨hs, _⟩
    · simp only [sessionFine, within, Bool.and_eq_true, decide_eq_true_eq]
      refine ⟨by omega, by omega, by show (0 : Int) ≤ 40; omega, ?_⟩
      rfl
    · exact hf s hs
  have hasc := asc_putIn token_ordered ha ⟨index, 0, ⟨#[]⟩⟩
  unfold openedD
  split
  · exact ⟨asc_tail hasc, fun s hs => hfine s (List.mem_of_mem_tail hs), by rw [List.length_tail]; omega⟩
  · rename_i q
    exact ⟨hasc, hfine, by omega⟩
/-- a right keep stays right -/
theorem done_right {ls : List SessionD} {li : List ItemD} {index : Int} {x : CommandD} (h : mayDo ls li index x = true) : keepOk (doneD ls li index x).ss (doneD ls li index x).is = true ∧ (doneD ls li index x).reply.size ≤ 40 ∧ (doneD ls li index x).ok = true := by
  obtain ⟨_, ⟨⟨ha, hsf, hl3⟩, hai, hif, hl8⟩, hx⟩ := may_facts h
  have hi0 : 1 ≤ index ∧ index ≤ 400000 := by
    simp only [mayDo, within, Bool.and_eq_true, decide_eq_true_eq] at h
    omega
  obtain ⟨hops, htk, hsq⟩ := command_ops hx
  unfold doneD
  split
  · refine ⟨facts_keep ⟨opened_right ha hsf hl3 hi0.1 hi0.2, hai, hif, hl8⟩, ?_, rfl⟩
    have := decT_ten (show 0 ≤ index by omega) (by omega)
    show (txt _ ++ decT index).size ≤ 40
    rw [ByteArray.size_append, txt_size]
    show 5 + _ ≤ _
    omega
  rename_i ho
  split
  · exact ⟨facts_keep ⟨⟨ha, hsf, hl3⟩, hai, hif, hl8⟩, by show (txt _).size ≤ 40; rw [txt_size]; decide, rfl⟩
  rename_i s hs
  obtain ⟨hsm, hst⟩ := sessOf_some hs
  have hb := session_bounds (hsf s hsm)
  unfold askD
  split
  · exact ⟨facts_keep ⟨⟨ha, hsf, hl3⟩, hai, hif, hl8⟩, by show (txt _).size ≤ 40; rw [txt_size]; decide, rfl⟩
  split
  · exact ⟨facts_keep ⟨⟨ha, hsf, hl3⟩, hai, hif, hl8⟩, by show s.reply.size ≤ 40; omega, rfl⟩
  split
  · exact ⟨facts_keep ⟨⟨ha, hsf, hl3⟩, hai, hif, hl8⟩, by show (txt _).size ≤ 40; rw [txt_size]; decide, rfl⟩
  rename_i q1 q2 q3
  obtain ⟨d1, d2, d3, d4⟩ := doD_right hai hif hl8 hi0.1 hi0.2 hx ho
  refine ⟨facts_keep ⟨⟨asc_putIn token_ordered ha _, fun y hy => ?_, ?_⟩, d1, d2, d3⟩, d4, rfl⟩
  · rcases mem_putS.1 hy with rfl | ⟨hy, _⟩
    · simp only [sessionFine, within, Bool.and_eq_true, decide_eq_true_eq, Bool.or_eq_true, Bool.not_eq_true', decide_eq_false_iff_not]
      refine ⟨by omega, by omega, by omega, Or.inl (by omega)⟩
    · exact hsf y hy
  · obtain ⟨p, hp, rfl⟩ := List.getElem_of_mem hsm
    show (putIn tokenLt ls ⟨x.token, x.seq, (doD li index x).2⟩).length ≤ 3
    rw [← set_putIn (y := ⟨x.token, x.seq, (doD li index x).2⟩) ha hp hst.symm, List.length_set]
    exact hl3
end Go.Proofs.YtoanhjjigbjecaaGreatDoor

namespace Go.Proofs.YtoanhjjigbjecaaGreatDoor
open Go.RowKit Go.Sort

def Young (n : Int) (ls : List SessionD) : Prop := ∀ s ∈ ls, s.token ≤ n + 1 ∧ s.last ≤ n
theorem Young.up {n m : Int} {ls : List SessionD} (h : Young n ls) (hm : n ≤ m) : Young m ls := fun s hs => by have := h s hs; omega
theorem young_done {ls : List SessionD} {li : List ItemD} {n : Int} {x : CommandD} (h0 : 0 ≤ n) (hy : Young n ls) : Young (n + 1) (doneD ls li (n + 2) x).ss := by
  have hput : ∀ y : SessionD, y.token ≤ n + 2 → y.last ≤ n + 1 → ∀ s ∈ putIn tokenLt ls y, s.token ≤ n + 1 + 1 ∧ s.last ≤ n + 1 := by
    intro y h1 h2 s hs
    rcases mem_putS.1 hs with rfl | ⟨hs, _⟩
    · omega
    · have := hy s hs
      omega
  unfold doneD
  split
  · intro s hs
    change s ∈ openedD ls (n + 2) at hs
    have hp := hput ⟨n + 2, 0, ⟨#[]⟩⟩ (by show n + 2 ≤ _; omega) (by show (0 : Int) ≤ _; omega)
    unfold openedD at hs
    split at hs
    · exact hp s (List.mem_of_mem_tail hs)
    · exact hp s hs
  split
  · exact hy.up (by omega)
  rename_i s hs
  obtain ⟨hsm, hst⟩ := sessOf_some hs
  have hb := hy s hsm
  unfold askD
  split
  · exact hy.up (by omega)
  split
  · exact hy.up (by omega)
  split
  · exact hy.up (by omega)
  · exact hput _ (by show x.token ≤ _; omega) (by show x.seq ≤ _; omega)
/-- what Perform leaves where it does anything -/
theorem young_perform {ls : List SessionD} {li : List ItemD} {n : Int} {x : CommandD} (h0 : 0 ≤ n) (hy : Young n ls) :
    ((performD ls li (n + 2) x).ok = true ∧ keepOk (performD ls li (n + 2) x).ss (performD ls li (n + 2) x).is = true ∧ Young (n + 1) (performD ls li (n + 2) x).ss) ∨ (performD ls li (n + 2) x).ok = false := by
  unfold performD
  split
  · rename_i h
    have hd := done_right h
    exact Or.inl ⟨hd.2.2, hd.1, young_done h0 hy⟩
  · exact Or.inr rfl
/-- the first keep -/
def rootI : ItemD := ⟨⟨#[114, 111, 111, 116]⟩, ⟨#[]⟩, 1⟩
theorem first_keep : performD [] [rootI] 1 ⟨1, 0, 0, ⟨#[]⟩, ⟨#[]⟩, 0⟩ = ⟨[⟨1, 0, ⟨#[]⟩⟩], [rootI], txt [111, 112, 101, 110, 32] ++ decT 1, true⟩ := by
  have hm : mayDo [] [rootI] 1 ⟨1, 0, 0, ⟨#[]⟩, ⟨#[]⟩, 0⟩ = true := by decide
  rw [performD, if_pos hm, doneD, if_pos rfl]
  rfl
theorem first_right : keepOk [⟨1, 0, ⟨#[]⟩⟩] [rootI] = true := by decide
theorem first_young : Young 0 [⟨1, 0, ⟨#[]⟩⟩] := by
  intro s hs
  rw [List.mem_singleton] at hs
  subst hs
  decide
end Go.Proofs.YtoanhjjigbjecaaGreatDoor

namespace Go.Proofs.YtoanhjjigbjecaaGreatDoor
open Go.RowKit

def PerfDid (d : KeepD) (w : World) (e : Ending) (w' : World) : Prop :=
  ∃ va vc vb vd, e = .returned (.tuple #[.agg #[.slice va d.ss.length vc, .slice vb d.is.length vd], .string d.reply, .bool d.ok]) ∧ KRows w' w.heap.size (.slice va d.ss.length vc) (.slice vb d.is.length vd) d.ss d.is ∧ Below w.heap.size w w'
theorem perf_none {w w' : World} (hb : Below w.heap.size w w') : PerfDid ⟨[], [], ⟨#[]⟩, false⟩ w (.returned (.tuple #[.agg #[.slice none 0 0, .slice none 0 0], .string ⟨#[]⟩, .bool false])) w' :=
  ⟨none, 0, none, 0, rfl, ⟨⟨rfl, Or.inl ⟨rfl, rfl⟩⟩, ⟨rfl, Or.inl ⟨rfl, rfl⟩⟩⟩, hb⟩
end Go.Proofs.YtoanhjjigbjecaaGreatDoor

namespace Go.Proofs.YtoanhjjigbjecaaGreatDoor
open Go.RowKit

/-- what the low seven bits of the bytes make, the least first -/
def val : List UInt8 → Nat
  | [] => 0
  | b :: r => b.toNat % 128 + 128 * val r

theorem val_snoc (p : List UInt8) (b : UInt8) : val (p ++ [b]) = val p + b.toNat % 128 * 128 ^ p.length := by
  induction p with
  | nil => simp [val]
  | cons x p ih =>
    simp only [List.cons_append, val, ih, List.length_cons, Nat.pow_succ, Nat.mul_add]
    rw [show b.toNat % 128 * (128 ^ p.length * 128) = 128 * (b.toNat % 128 * 128 ^ p.length) from by rw [Nat.mul_comm (128 ^ p.length) 128, Nat.mul_left_comm]]
    omega

theorem val_lt (p : List UInt8) : val p < 128 ^ p.length := by
  induction p with
  | nil => simp [val]
  | cons x p ih =>
    simp only [val, List.length_cons, Nat.pow_succ]
    omega

theorem val_zero_last (p : List UInt8) (b : UInt8) (hb : b.toNat < 128) (h : val (p ++ [b]) = 0) : b = 0 := by
  rw [val_snoc] at h
  have h1 : b.toNat % 128 * 128 ^ p.length = 0 := by omega
  have h2 : 0 < 128 ^ p.length := Nat.pow_pos (by omega)
  rcases Nat.mul_eq_zero.1 h1 with h | h
  · apply UInt8.toNat_inj.1
    rw [Nat.mod_eq_of_lt hb] at h
    simpa using h
  · omega

/-- bytes that go on, then one that ends: they are just what would be written, unless the last is a needless nought -/
theorem vb_val (p : List UInt8) (b : UInt8) (hp : ∀ x ∈ p, 128 ≤ x.toNat) (hb : b.toNat < 128) : (vb (val (p ++ [b])) = p ++ [b]) ↔ ¬ (b = 0 ∧ p ≠ []) := by
  induction p with
  | nil =>
    have : vb (val [b]) = [b] := by
      have e : val [b] = b.toNat := by simp [val]; omega
      rw [e, vb_small (by omega)]; simp
    simp [this]
  | cons x p ih =>
    have hx := hp x (by simp)
    have hx2 := x.toNat_lt
    have ih' := ih fun y hy => hp y (by simp [hy])
    simp only [List.cons_append, val]
    by_cases hv : val (p ++ [b]) = 0
    · have hb0 := val_zero_last p b hb hv
      rw [hv, vb_small (by omega)]
      constructor
      · intro h
        have := congrArg List.length h
        simp at this
      · intro h
        exact absurd ⟨hb0, by simp⟩ h
    · rw [vb_big (by omega)]
      have e1 : (x.toNat % 128 + 128 * val (p ++ [b])) % 128 + 128 = x.toNat := by omega
      have e2 : (x.toNat % 128 + 128 * val (p ++ [b])) / 128 = val (p ++ [b]) := by omega
      rw [e1, e2]
      simp only [UInt8.ofNat_toNat, List.cons.injEq, true_and]
      rw [ih']
      constructor
      · rintro h ⟨h1, _⟩
        apply h
        refine ⟨h1, ?_⟩
        rintro rfl
        apply hv
        simp [val, h1]
      · rintro h ⟨h1, _⟩
        exact h ⟨h1, by simp⟩

/-- reading on: p has been read, l is what is left -/
def rvFrom (p : List UInt8) : List UInt8 → Option (Nat × Nat)
  | [] => none
  | b :: r => if 5 ≤ p.length then none else if b.toNat < 128 then (if 1000000000 < val (p ++ [b]) ∨ (b = 0 ∧ p ≠ []) then none else some (val (p ++ [b]), p.length + 1)) else rvFrom (p ++ [b]) r

def rv (l : List UInt8) : Option (Nat × Nat) := rvFrom [] l

theorem rvFrom_full (p l : List UInt8) (h : 5 ≤ p.length) : rvFrom p l = none := by cases l <;> simp [rvFrom, h]
theorem rvFrom_on (p r : List UInt8) (b : UInt8) (h : p.length < 5) (hb : 128 ≤ b.toNat) : rvFrom p (b :: r) = rvFrom (p ++ [b]) r := by
  rw [rvFrom, if_neg (by omega), if_neg (by omega)]
theorem rvFrom_no (p r : List UInt8) (b : UInt8) (h : p.length < 5) (hb : b.toNat < 128) (hv : 1000000000 < val (p ++ [b]) ∨ (b = 0 ∧ p ≠ [])) : rvFrom p (b :: r) = none := by
  rw [rvFrom, if_neg (by omega), if_pos hb, if_pos hv]
theorem rvFrom_yes (p r : List UInt8) (b : UInt8) (h : p.length < 5) (hb : b.toNat < 128) (hv : ¬ (1000000000 < val (p ++ [b]) ∨ (b = 0 ∧ p ≠ []))) : rvFrom p (b :: r) = some (val (p ++ [b]), p.length + 1) := by
  rw [rvFrom, if_neg (by omega), if_pos hb, if_neg hv]

theorem rvFrom_some {p l : List UInt8} {n c : Nat} (h : rvFrom p l = some (n, c)) : n ≤ 1000000000 ∧ p.length < c ∧ c ≤ p.length + l.length := by
  induction l generalizing p with
  | nil => simp [rvFrom] at h
  | cons b r ih =>
    rw [rvFrom] at h
    split at h
    · cases h
    · split at h
      · split at h
        · cases h
        · simp only [Option.some.injEq, Prod.mk.injEq] at h
          obtain ⟨rfl, rfl⟩ := h
          simp only [List.length_cons]
          omega
      · have := ih h
        simp only [List.length_append, List.length_cons, List.length_nil] at this ⊢
        omega

/-- what both readers answer -/
def rvAns (a : Nat) : Option (Nat × Nat) → Value
  | none => .tuple #[.int .i64 0, .int .i64 0, .bool false]
  | some (n, c) => .tuple #[.int .i64 n, .int .i64 ((a + c : Nat) : Int), .bool true]

/-- the round's state: k bytes of the text from a on have been read, all of them go on -/
structure RvAt (s : ByteArray) (a k : Nat) (p : List UInt8) : Prop where
  lo : a ≤ k
  hi : k ≤ s.size
  five : k ≤ a + 5
  len : p.length = k - a
  on : ∀ x ∈ p, 128 ≤ x.toNat
  left : p = (s.data.toList.drop a).take (k - a)
  rv : rv (s.data.toList.drop a) = rvFrom p (s.data.toList.drop k)

theorem RvAt.start (s : ByteArray) (a : Nat) (h : a ≤ s.size) : RvAt s a a [] :=
  ⟨Nat.le_refl _, h, by omega, by simp, by simp, by simp, rfl⟩

theorem drop_cons (s : ByteArray) (k : Nat) (h : k < s.size) : s.data.toList.drop k = s[k] :: s.data.toList.drop (k + 1) := by
  rw [List.drop_eq_getElem_cons (by simpa using h)]; rfl

theorem RvAt.take {s : ByteArray} {a k : Nat} {p : List UInt8} (h : RvAt s a k p) (hk : k < s.size) : p ++ [s[k]] = (s.data.toList.drop a).take (k + 1 - a) := by
  have h1 := h.lo
  have e : k + 1 - a = (k - a) + 1 := by omega
  rw [e, List.take_succ_eq_append_getElem (by simp only [List.length_drop, Array.length_toList]; have : s.data.size = s.size := rfl; omega), ← h.left]
  congr 2
  simp only [List.getElem_drop, Array.getElem_toList, show a + (k - a) = k by omega]
  rfl

theorem RvAt.step {s : ByteArray} {a k : Nat} {p : List UInt8} (h : RvAt s a k p) (hk : k < s.size) (h5 : k < a + 5) (hb : 128 ≤ s[k].toNat) : RvAt s a (k + 1) (p ++ [s[k]]) := by
  have h1 := h.lo
  have h2 := h.len
  refine ⟨by omega, by omega, by omega, by simp; omega, ?_, h.take hk, ?_⟩
  · intro x hx
    rcases List.mem_append.1 hx with hx | hx
    · exact h.on x hx
    · simp at hx; subst hx; exact hb
  · rw [h.rv, drop_cons s k hk, rvFrom_on _ _ _ (by omega) hb]

theorem RvAt.none_end {s : ByteArray} {a k : Nat} {p : List UInt8} (h : RvAt s a k p) (he : s.size ≤ k ∨ a + 5 ≤ k) : Go.Proofs.YtoanhjjigbjecaaGreatDoor.rv (s.data.toList.drop a) = none := by
  rw [h.rv]
  rcases he with he | he
  · have : s.data.toList.drop k = [] := List.drop_eq_nil_of_le (by simpa using he)
    rw [this]; rfl
  · exact rvFrom_full _ _ (by have := h.len; omega)

theorem RvAt.no {s : ByteArray} {a k : Nat} {p : List UInt8} (h : RvAt s a k p) (hk : k < s.size) (h5 : k < a + 5) (hb : s[k].toNat < 128) (hv : 1000000000 < val (p ++ [s[k]]) ∨ (s[k] = 0 ∧ a < k)) :
    Go.Proofs.YtoanhjjigbjecaaGreatDoor.rv (s.data.toList.drop a) = none := by
  have h1 := h.lo
  have h2 := h.len
  rw [h.rv, drop_cons s k hk]
  refine rvFrom_no _ _ _ (by omega) hb ?_
  rcases hv with hv | ⟨hv, hk'⟩
  · exact Or.inl hv
  · exact Or.inr ⟨hv, by rintro rfl; simp at h2; omega⟩

theorem RvAt.yes {s : ByteArray} {a k : Nat} {p : List UInt8} (h : RvAt s a k p) (hk : k < s.size) (h5 : k < a + 5) (hb : s[k].toNat < 128) (hv : val (p ++ [s[k]]) ≤ 1000000000) (hz : ¬ (s[k] = 0 ∧ a < k)) :
    Go.Proofs.YtoanhjjigbjecaaGreatDoor.rv (s.data.toList.drop a) = some (val (p ++ [s[k]]), k + 1 - a) := by
  have h1 := h.lo
  have h2 := h.len
  rw [h.rv, drop_cons s k hk, rvFrom_yes _ _ _ (by omega) hb, show k + 1 - a = p.length + 1 by omega]
  rintro (h | ⟨h, h'⟩)
  · omega
  · exact hz ⟨h, by rcases Nat.lt_or_ge a k with q | q; exact q; exact absurd (List.eq_nil_of_length_eq_zero (by omega)) h'⟩

/-- the bounds of a round -/
theorem RvAt.bounds {s : ByteArray} {a k : Nat} {p : List UInt8} (h : RvAt s a k p) (h5 : k < a + 5) (b : Nat) : val p < 268435456 ∧ 1 ≤ 128 ^ (k - a) ∧ 128 ^ (k - a) ≤ 268435456 ∧ b % 128 * 128 ^ (k - a) ≤ 34091302912 := by
  have h1 := h.lo
  have h2 : 128 ^ (k - a) ≤ 128 ^ 4 := Nat.pow_le_pow_right (by omega) (by omega)
  have h3 : 0 < 128 ^ (k - a) := Nat.pow_pos (by omega)
  have h4 := val_lt p
  rw [h.len] at h4
  have h6 : b % 128 * 128 ^ (k - a) ≤ 127 * 128 ^ 4 := Nat.mul_le_mul (by omega) h2
  simp only [show (128 : Nat) ^ 4 = 268435456 from rfl] at h2 h6
  omega

theorem RvAt.val_step {s : ByteArray} {a k W : Nat} {p : List UInt8} (h : RvAt s a k p) (hW : W = 128 ^ (k - a)) (b : UInt8) : ((val (p ++ [b]) : Nat) : Int) = (val p : Int) + (b.toNat : Int) % 128 * (W : Int) := by
  rw [val_snoc, h.len, ← hW]
  simp

theorem RvAt.W_step {s : ByteArray} {a k W : Nat} {p : List UInt8} (h : RvAt s a k p) (hW : W = 128 ^ (k - a)) : W * 128 = 128 ^ (k + 1 - a) := by
  have := h.lo
  rw [hW, show k + 1 - a = (k - a) + 1 by omega, Nat.pow_succ]

theorem RvAt.same {s : ByteArray} {a k : Nat} {p : List UInt8} (h : RvAt s a k p) (hk : k < s.size) (hb : s[k].toNat < 128) : (vb (val (p ++ [s[k]])) = (s.extract a (k + 1)).toList) ↔ ¬ (s[k] = 0 ∧ a < k) := by
  rw [ByteArray.toList_eq, extract_eq, ← h.take hk, vb_val _ _ h.on hb]
  have h1 := h.lo
  have h2 := h.len
  constructor
  · rintro h3 ⟨h4, h5⟩
    exact h3 ⟨h4, by rintro rfl; simp at h2; omega⟩
  · rintro h3 ⟨h4, h5⟩
    exact h3 ⟨h4, by rcases Nat.lt_or_ge a k with q | q; exact q; exact absurd (List.eq_nil_of_length_eq_zero (by omega)) h5⟩
theorem RvAt.differs {s : ByteArray} {a k : Nat} {p : List UInt8} (h : RvAt s a k p) (hk : k < s.size) (hb : s[k].toNat < 128) (hn : (!vb (val (p ++ [s[k]])) == (s.extract a (k + 1)).toList) = true) : s[k] = 0 ∧ a < k := by
  simp only [Bool.not_eq_true', beq_eq_false_iff_ne, ne_eq] at hn
  exact Decidable.byContradiction fun h3 => hn ((h.same hk hb).2 h3)
theorem RvAt.meets {s : ByteArray} {a k : Nat} {p : List UInt8} (h : RvAt s a k p) (hk : k < s.size) (hb : s[k].toNat < 128) (hn : (!vb (val (p ++ [s[k]])) == (s.extract a (k + 1)).toList) = false) : ¬ (s[k] = 0 ∧ a < k) := by
  simp only [Bool.not_eq_false', beq_iff_eq] at hn
  exact (h.same hk hb).1 hn

theorem rvAns_none {a : Nat} {o : Option (Nat × Nat)} (h : o = none) : Ending.returned (.tuple #[.int .i64 0, .int .i64 0, .bool false]) = .returned (rvAns a o) := by subst h; rfl
theorem rvAns_some {a k n : Nat} {x y : Int} {o : Option (Nat × Nat)} (h : o = some (n, k + 1 - a)) (hk : a ≤ k) (hx : (n : Int) = x) (hy : (k : Int) + 1 = y) : Ending.returned (.tuple #[.int .i64 x, .int .i64 y, .bool true]) = .returned (rvAns a o) := by
  subst h hx hy
  simp only [rvAns]
  rw [show ((a + (k + 1 - a) : Nat) : Int) = (k : Int) + 1 by omega]
theorem zero_of_toNat {b : UInt8} (h : (b.toNat : Int) ≤ 0) : b = 0 := by
  apply UInt8.toNat_inj.1
  simp
  omega
theorem not_zero {b : UInt8} (h : ¬ (b.toNat : Int) ≤ 0) : b ≠ 0 := by
  rintro rfl
  simp at h
end Go.Proofs.YtoanhjjigbjecaaGreatDoor

namespace Go.Proofs.YtoanhjjigbjecaaGreatDoor
open Go.RowKit

theorem val_append (p q : List UInt8) : val (p ++ q) = val p + val q * 128 ^ p.length := by
  induction p with
  | nil => simp [val]
  | cons x p ih =>
    simp only [List.cons_append, val, ih, List.length_cons, Nat.pow_succ, Nat.mul_add]
    rw [show val q * (128 ^ p.length * 128) = 128 * (val q * 128 ^ p.length) from by rw [Nat.mul_comm (128 ^ p.length) 128, Nat.mul_left_comm]]
    omega

theorem val_vb (n : Nat) : val (vb n) = n := by
  induction n using Nat.strongRecOn with
  | _ n ih =>
    by_cases h : n ≤ 127
    · rw [vb_small h]; simp [val]; omega
    · rw [vb_big (by omega)]
      simp only [val, ih (n / 128) (by omega), UInt8.toNat_ofNat']
      omega

theorem vb_len {n : Nat} (h : n ≤ 1000000000) : (vb n).length ≤ 5 := by
  by_cases h1 : n ≤ 127
  · rw [vb_small h1]; simp
  rw [vb_big (by omega)]
  by_cases h2 : n / 128 ≤ 127
  · rw [vb_small h2]; simp
  rw [vb_big (by omega)]
  by_cases h3 : n / 128 / 128 ≤ 127
  · rw [vb_small h3]; simp
  rw [vb_big (by omega)]
  by_cases h4 : n / 128 / 128 / 128 ≤ 127
  · rw [vb_small h4]; simp
  rw [vb_big (by omega), vb_small (by omega)]; simp

theorem rvFrom_vb (m : Nat) : ∀ (p r : List UInt8), p.length + (vb m).length ≤ 5 → val (p ++ vb m) ≤ 1000000000 → (p = [] ∨ 0 < m) → rvFrom p (vb m ++ r) = some (val (p ++ vb m), p.length + (vb m).length) := by
  induction m using Nat.strongRecOn with
  | _ m ih =>
    intro p r h5 hv hp
    by_cases h : m ≤ 127
    · rw [vb_small h] at h5 hv ⊢
      have hb : (UInt8.ofNat m).toNat = m := by rw [UInt8.toNat_ofNat']; omega
      simp only [List.length_cons, List.length_nil] at h5 ⊢
      simp only [List.cons_append, List.nil_append]
      rw [rvFrom_yes _ _ _ (by omega) (by omega)]
      rintro (q | ⟨q1, q2⟩)
      · omega
      · rcases hp with hp | hp
        · exact q2 hp
        · have := congrArg UInt8.toNat q1
          rw [hb] at this
          simp at this
          omega
    · have e := vb_big (n := m) (by omega)
      have hb : (UInt8.ofNat (m % 128 + 128)).toNat = m % 128 + 128 := by rw [UInt8.toNat_ofNat']; omega
      have hp1 := vb_pos (m / 128)
      rw [e] at h5 hv ⊢
      simp only [List.length_cons] at h5 ⊢
      simp only [List.cons_append]
      have e2 : p ++ UInt8.ofNat (m % 128 + 128) :: vb (m / 128) = (p ++ [UInt8.ofNat (m % 128 + 128)]) ++ vb (m / 128) := by simp
      rw [e2] at hv ⊢
      rw [rvFrom_on _ _ _ (by omega) (by omega), ih (m / 128) (by omega) _ r (by simp; omega) hv (Or.inr (by omega))]
      simp only [List.length_append, List.length_cons, List.length_nil]
      congr 2
      omega

theorem rv_vb {n : Nat} (h : n ≤ 1000000000) (r : List UInt8) : rv (vb n ++ r) = some (n, (vb n).length) := by
  have := rvFrom_vb n [] r (by simpa using vb_len h) (by simpa [val_vb] using h) (Or.inl rfl)
  simpa [rv, val_vb] using this
end Go.Proofs.YtoanhjjigbjecaaGreatDoor

namespace Go.Proofs.YtoanhjjigbjecaaGreatDoor
open Go.RowKit

def sessB (d : SessionD) : List UInt8 := vb d.token.toNat ++ (vb d.last.toNat ++ (vb d.reply.size ++ d.reply.data.toList))
def itemB (d : ItemD) : List UInt8 := (vb d.key.size ++ d.key.data.toList) ++ ((vb d.val.size ++ d.val.data.toList) ++ vb d.ver.toNat)
def keepB (ls : List SessionD) (li : List ItemD) : List UInt8 := vb ls.length ++ (ls.flatMap sessB ++ (vb li.length ++ li.flatMap itemB))
def keepText (ls : List SessionD) (li : List ItemD) : ByteArray := ⟨(keepB ls li).toArray⟩
def keepAns (ls : List SessionD) (li : List ItemD) : Value := if keepOk ls li = true then .tuple #[.string (keepText ls li), .bool true] else .tuple #[.string ByteArray.empty, .bool false]
theorem sessB_len {d : SessionD} (h : sessionFine d = true) : (sessB d).length ≤ 60 := by
  obtain ⟨h1, h2, h3⟩ := session_bounds h
  have := vb_len (n := d.token.toNat) (by omega)
  have := vb_len (n := d.last.toNat) (by omega)
  have := vb_len (n := d.reply.size) (by omega)
  have : d.reply.data.toList.length = d.reply.size := Array.length_toList
  simp only [sessB, List.length_append]
  omega
theorem itemB_len {d : ItemD} (h : itemFine d = true) : (itemB d).length ≤ 60 := by
  obtain ⟨h1, h2, h3⟩ := item_bounds h
  have := vb_len (n := d.key.size) (by omega)
  have := vb_len (n := d.val.size) (by omega)
  have := vb_len (n := d.ver.toNat) (by omega)
  have : d.key.data.toList.length = d.key.size := Array.length_toList
  have : d.val.data.toList.length = d.val.size := Array.length_toList
  simp only [itemB, List.length_append]
  omega
theorem flat_take {α : Type} (f : α → List UInt8) (l : List α) (k : Nat) (h : k < l.length) : (l.take (k + 1)).flatMap f = (l.take k).flatMap f ++ f l[k] := by
  rw [List.take_succ_eq_append_getElem h, List.flatMap_append]
  simp
end Go.Proofs.YtoanhjjigbjecaaGreatDoor

namespace Go.Proofs.YtoanhjjigbjecaaGreatDoor
open Go.RowKit

def varB (n : Nat) : ByteArray := ⟨(vb n).toArray⟩
def shortB (s : ByteArray) : ByteArray := varB s.size ++ s
def cmdText (d : CommandD) : ByteArray := (⟨#[UInt8.ofNat d.op.toNat]⟩ : ByteArray) ++ varB d.token.toNat ++ varB d.seq.toNat ++ shortB d.key ++ shortB d.val ++ varB d.ver.toNat
def cmdAns (d : CommandD) : Value := if commandOk d = true then .tuple #[.string (cmdText d), .bool true] else .tuple #[.string ByteArray.empty, .bool false]
theorem cmd_bounds {x : CommandD} (h : commandOk x = true) : (1 ≤ x.op ∧ x.op ≤ 5) ∧ (0 ≤ x.token ∧ x.token ≤ 1000000) ∧ (0 ≤ x.seq ∧ x.seq ≤ 1000000) ∧ x.key.size ≤ 8 ∧ x.val.size ≤ 20 ∧ (0 ≤ x.ver ∧ x.ver ≤ 1000000000) := by
  simp only [commandOk, within, Bool.and_eq_true, decide_eq_true_eq] at h
  obtain ⟨h1, h2, h3, h4⟩ := h
  refine ⟨h3, h1, h2, ?_⟩
  by_cases e1 : x.op = 1
  · simp only [e1, if_true, Bool.and_eq_true, decide_eq_true_eq] at h4
    omega
  · simp only [e1, if_false, Bool.and_eq_true, decide_eq_true_eq] at h4
    obtain ⟨a, b, c⟩ := h4
    by_cases e2 : x.op = 2
    · simp only [e2, if_true, decide_eq_true_eq] at c
      omega
    · by_cases e5 : x.op = 5
      · rw [if_neg e2, if_pos e5] at c
        first | omega | (simp only [Bool.and_eq_true, decide_eq_true_eq] at c; omega)
      · rw [if_neg e2, if_neg e5] at c
        first | omega | (simp only [Bool.and_eq_true, decide_eq_true_eq] at c; omega)
theorem varB_list (n : Nat) : (varB n).data.toList = vb n := by simp [varB]
theorem cmdText_list (d : CommandD) : (cmdText d).data.toList = UInt8.ofNat d.op.toNat :: (vb d.token.toNat ++ (vb d.seq.toNat ++ ((vb d.key.size ++ d.key.data.toList) ++ ((vb d.val.size ++ d.val.data.toList) ++ vb d.ver.toNat)))) := by
  simp [cmdText, shortB, ByteArray.data_append, Array.toList_append, varB_list]
end Go.Proofs.YtoanhjjigbjecaaGreatDoor

namespace Go.Proofs.YtoanhjjigbjecaaGreatDoor
open Go.RowKit

/-- a number stands behind the one ahead of it -/
def behindI (zs : List Int) (k : Nat) (x : Int) : Bool := match k with
  | 0 => true
  | j + 1 => match zs[j]? with
    | none => true
    | some y => decide (y < x)
/-- the first k numbers are in their bounds, and ascend -/
def riseTo (zs : List Int) : Nat → Bool
  | 0 => true
  | k + 1 => riseTo zs k && match zs[k]? with
    | none => true
    | some x => within x 1 4 && behindI zs k x
def confOk (zs : List Int) : Bool := within zs.length 1 4 && riseTo zs zs.length

theorem riseTo_step {zs : List Int} {k : Nat} (hk : k < zs.length) : riseTo zs (k + 1) = (riseTo zs k && (within zs[k] 1 4 && behindI zs k zs[k])) := by
  rw [riseTo, List.getElem?_eq_getElem hk]
theorem behindI_step {zs : List Int} {j : Nat} (hj : j + 1 < zs.length) : behindI zs (j + 1) zs[j + 1] = decide (zs[j] < zs[j + 1]) := by
  rw [behindI, List.getElem?_eq_getElem (show j < zs.length by omega)]
theorem riseTo_down {zs : List Int} {n k : Nat} (h : riseTo zs n = true) (hk : k ≤ n) : riseTo zs k = true := by
  induction n with
  | zero => obtain rfl : k = 0 := by omega
            rfl
  | succ n ih =>
    rcases Nat.lt_or_ge k (n + 1) with q | q
    · rw [riseTo, Bool.and_eq_true] at h
      exact ih h.1 (by omega)
    · obtain rfl : k = n + 1 := by omega
      exact h
theorem not_rise {zs : List Int} {k : Nat} (hk : k < zs.length) (h : (within zs[k] 1 4 && behindI zs k zs[k]) = false) : riseTo zs zs.length = false := by
  cases hd : riseTo zs zs.length with
  | false => rfl
  | true =>
    have := riseTo_down hd (show k + 1 ≤ zs.length by omega)
    rw [riseTo_step hk, h] at this
    simp at this
theorem rise_at {zs : List Int} (h : riseTo zs zs.length = true) {k : Nat} (hk : k < zs.length) : 1 ≤ zs[k] ∧ zs[k] ≤ 4 := by
  have := riseTo_down h (show k + 1 ≤ zs.length by omega)
  rw [riseTo_step hk, Bool.and_eq_true, Bool.and_eq_true] at this
  exact within_iff.1 this.2.1
theorem confOk_len {zs : List Int} (h : confOk zs = true) : 1 ≤ zs.length ∧ zs.length ≤ 4 := by
  rw [confOk, Bool.and_eq_true] at h
  have := within_iff.1 h.1
  omega
theorem confOk_big {zs : List Int} (h : zs.length < 1 ∨ 4 < zs.length) : confOk zs = false := by
  rw [confOk, within_no (by omega)]
  rfl
theorem confOk_of {zs : List Int} (h : 1 ≤ zs.length) (h4 : zs.length ≤ 4) : confOk zs = riseTo zs zs.length := by
  rw [confOk, within_yes (by omega) (by omega), Bool.true_and]
theorem confOk_at {zs : List Int} (h : confOk zs = true) {k : Nat} (hk : k < zs.length) : 1 ≤ zs[k] ∧ zs[k] ≤ 4 := by
  have hl := confOk_len h
  rw [confOk_of hl.1 hl.2] at h
  exact rise_at h hk

/-- the bytes of a conf, and the numbers of bytes -/
def confBytes (zs : List Int) : List UInt8 := zs.map fun x => UInt8.ofNat x.toNat
def intsOf (l : List UInt8) : List Int := l.map fun b => (b.toNat : Int)
theorem confBytes_length (zs : List Int) : (confBytes zs).length = zs.length := by simp [confBytes]
theorem intsOf_length (l : List UInt8) : (intsOf l).length = l.length := by simp [intsOf]
theorem confBytes_take (zs : List Int) (k : Nat) (hk : k < zs.length) : confBytes (zs.take (k + 1)) = confBytes (zs.take k) ++ [UInt8.ofNat zs[k].toNat] := by
  simp only [confBytes]
  rw [List.take_succ_eq_append_getElem hk, List.map_append]
  rfl
theorem intsOf_take (l : List UInt8) (k : Nat) (hk : k < l.length) : intsOf (l.take (k + 1)) = intsOf (l.take k) ++ [(l[k].toNat : Int)] := by
  simp only [intsOf]
  rw [List.take_succ_eq_append_getElem hk, List.map_append]
  rfl
/-- what is read of a text -/
def readConf (s : ByteArray) : List Int × Bool := if confOk (intsOf s.data.toList) = true then (intsOf s.data.toList, true) else ([], false)
def confText (zs : List Int) : ByteArray × Bool := if confOk zs = true then (⟨(confBytes zs).toArray⟩, true) else (ByteArray.empty, false)
end Go.Proofs.YtoanhjjigbjecaaGreatDoor

namespace Go.Proofs.YtoanhjjigbjecaaGreatDoor
open Go.RowKit

/-- numbers lie at an address, one behind the other -/
def IntsAt (w : World) (ao : Option Addr) (zs : List Int) : Prop := zs ≠ [] → ∃ b off, ao = some ⟨b, off, none⟩ ∧ ∀ j (hj : j < zs.length), w.cell? ⟨b, off + j, none⟩ = some (.int .i64 zs[j])
theorem IntsAt.on {w w' : World} {ao : Option Addr} {zs : List Int} (h : IntsAt w ao zs) (hb : Below w.heap.size w w') : IntsAt w' ao zs := by
  intro h0
  obtain ⟨b, off, e1, e2⟩ := h h0
  exact ⟨b, off, e1, fun j hj => (hb.cell (p := ⟨b, off + j, none⟩) (World.block_lt_of_cell? w _ (e2 j hj))).trans (e2 j hj)⟩
/-- numbers in their cells -/
def intCells (zs : List Int) : List Value := zs.map (Value.int .i64)
theorem intsAt_of {w : World} {g : Nat} {t : TypeId} {zs : List Int} {r : List Value} (h : BlockIs w g t (intCells zs ++ r)) : IntsAt w (some ⟨g, 0, none⟩) zs := by
  intro _
  refine ⟨g, 0, rfl, fun j hj => ?_⟩
  rw [Nat.zero_add]
  refine h.cell ?_
  rw [List.getElem?_append_left (by simpa [intCells] using hj)]
  simp [intCells, hj]
/-- a cell of a list, written -/
theorem set_one (p : List Value) (a x : Value) (r : List Value) : (p ++ x :: r).set p.length a = p ++ a :: r := by
  rw [List.set_append_right _ _ (Nat.le_refl _)]
  simp
end Go.Proofs.YtoanhjjigbjecaaGreatDoor

namespace Go.Proofs.YtoanhjjigbjecaaGreatDoor
open Go.RowKit

theorem confText_yes {zs : List Int} (h : confOk zs = true) : confText zs = (⟨(confBytes zs).toArray⟩, true) := by rw [confText, if_pos h]
theorem confText_no {zs : List Int} (h : confOk zs = false) : confText zs = (ByteArray.empty, false) := by rw [confText, if_neg (by simp [h])]
theorem readConf_yes {s : ByteArray} (h : confOk (intsOf s.data.toList) = true) : readConf s = (intsOf s.data.toList, true) := by rw [readConf, if_pos h]
theorem readConf_no {s : ByteArray} (h : confOk (intsOf s.data.toList) = false) : readConf s = ([], false) := by rw [readConf, if_neg (by simp [h])]

theorem conf_byte {x : Int} (h1 : 1 ≤ x) (h4 : x ≤ 4) : IntKind.u8.wrap x = x := by
  rw [IntKind.wrap_u8]
  omega
/-- what both answer -/
def readConfAns (s : ByteArray) (w : World) (e : Ending) (w' : World) : Prop :=
  ∃ v, e = .returned (.tuple #[v, .bool (readConf s).2]) ∧ w'.ownsRow w.heap.size 3 1 v (readConf s).1.length (intCells (readConf s).1) ∧ Below w.heap.size w w'

theorem ints_row {w : World} {base : Nat} {ao : Option Addr} {n c : Nat} {zs : List Int} (hn : zs.length = n) (h : w.ownsRow base 3 1 (.slice ao n c) n (intCells zs)) : IntsAt w ao zs := by
  intro hne
  obtain ⟨_, va, vc, hv, hf⟩ := row_lie h
  simp only [Value.slice.injEq] at hv
  obtain ⟨rfl, _, _⟩ := hv
  have hp : 0 < zs.length := List.length_pos_iff.2 hne
  obtain ⟨g, e1, _, _, _, _, hc, _⟩ := hf (by omega)
  refine ⟨g, 0, e1, fun j hj => ?_⟩
  rw [Nat.zero_add]
  exact hc j _ (by simp [intCells, hj])

theorem readConf_none {s : ByteArray} {w w' : World} {v : Value} (h : confOk (intsOf s.data.toList) = false) (ho : w'.ownsRow w.heap.size 3 1 v 0 []) (hb : Below w.heap.size w w') : readConfAns s w (.returned (.tuple #[v, .bool false])) w' := by
  refine ⟨v, by rw [readConf_no h], ?_, hb⟩
  rw [readConf_no h]
  exact ho

theorem readConf_some {s : ByteArray} {w w' : World} {v : Value} (h : confOk (intsOf s.data.toList) = true) (ho : w'.ownsRow w.heap.size 3 1 v s.size (intCells (intsOf s.data.toList))) (hb : Below w.heap.size w w') : readConfAns s w (.returned (.tuple #[v, .bool true])) w' := by
  refine ⟨v, by rw [readConf_yes h], ?_, hb⟩
  rw [readConf_yes h]
  have : (intsOf s.data.toList).length = s.size := by rw [intsOf_length]; simp
  rw [this]
  exact ho

theorem kept_conf {w w2 : World} {base : Nat} {e : TypeId} {v : Value} {n : Nat} {xs : List Value} (h : w.ownsRow base e 1 v n xs) (hb : Below w.heap.size w w2) : w2.ownsRow base e 1 v n xs := by
  refine h.kept (grown_of_below hb none) ?_
  cases v.ownBlock with
  | none => exact Or.inl rfl
  | some g => exact Or.inr (by simp)
end Go.Proofs.YtoanhjjigbjecaaGreatDoor

namespace Go.Proofs.YtoanhjjigbjecaaGreatDoor
open Go.RowKit

structure EntD where
  term : Int
  kind : Int
  data : ByteArray

def EntD.value (e : EntD) : Value := .agg #[.int .i64 e.term, .int .i64 e.kind, .string e.data]

/-- an entry is right -/
def entryOk (e : EntD) : Bool :=
  within e.term 0 100000 && (if e.kind = 1 then decide (e.data.size = 0) else if e.kind = 2 then (readConf e.data).2 else if e.kind = 3 then decide (e.data.size ≤ 120) else false)

/-- the text of an entry -/
def entText (i : Int) (e : EntD) : ByteArray := ⟨#[69]⟩ ++ ⟨(vb i.toNat).toArray⟩ ++ ⟨(vb e.term.toNat).toArray⟩ ++ ⟨#[UInt8.ofNat e.kind.toNat]⟩ ++ e.data
def entryText (i : Int) (e : EntD) : ByteArray × Bool := if (entryOk e && within i 1 1000000) = true then (entText i e, true) else (ByteArray.empty, false)

theorem entryOk_term {e : EntD} (h : within e.term 0 100000 = false) : entryOk e = false := by rw [entryOk, h]; rfl
theorem entryOk_one {e : EntD} (h : within e.term 0 100000 = true) (hk : e.kind = 1) : entryOk e = decide (e.data.size = 0) := by rw [entryOk, h, if_pos hk, Bool.true_and]
theorem entryOk_two {e : EntD} (h : within e.term 0 100000 = true) (hk : e.kind = 2) : entryOk e = (readConf e.data).2 := by rw [entryOk, h, if_neg (by omega), if_pos hk, Bool.true_and]
theorem entryOk_three {e : EntD} (h : within e.term 0 100000 = true) (hk : e.kind = 3) : entryOk e = decide (e.data.size ≤ 120) := by rw [entryOk, h, if_neg (by omega), if_neg (by omega), if_pos hk, Bool.true_and]
theorem entryOk_else {e : EntD} (h : within e.term 0 100000 = true) (h1 : e.kind ≠ 1) (h2 : e.kind ≠ 2) (h3 : e.kind ≠ 3) : entryOk e = false := by rw [entryOk, h, if_neg h1, if_neg h2, if_neg h3, Bool.true_and]
theorem entryOk_bd {e : EntD} (h : entryOk e = true) : 0 ≤ e.term ∧ e.term ≤ 100000 ∧ 1 ≤ e.kind ∧ e.kind ≤ 3 ∧ e.data.size ≤ 120 := by
  rw [entryOk, Bool.and_eq_true] at h
  obtain ⟨h1, h2⟩ := h
  have ht := within_iff.1 h1
  refine ⟨ht.1, ht.2, ?_⟩
  by_cases k1 : e.kind = 1
  · rw [if_pos k1] at h2
    have : e.data.size = 0 := by simpa using h2
    omega
  · rw [if_neg k1] at h2
    by_cases k2 : e.kind = 2
    · rw [if_pos k2] at h2
      have hc : confOk (intsOf e.data.data.toList) = true := by
        cases hA : confOk (intsOf e.data.data.toList) with
        | true => rfl
        | false => rw [readConf, if_neg (by simp [hA])] at h2; cases h2
      have hl := confOk_len hc
      rw [intsOf_length] at hl
      have : e.data.data.toList.length = e.data.size := by simp
      omega
    · rw [if_neg k2] at h2
      by_cases k3 : e.kind = 3
      · rw [if_pos k3] at h2
        have : e.data.size ≤ 120 := by simpa using h2
        omega
      · rw [if_neg k3] at h2
        cases h2
end Go.Proofs.YtoanhjjigbjecaaGreatDoor

namespace Go.Proofs.YtoanhjjigbjecaaGreatDoor
open Go.RowKit

/-- what was read as a number is just what would be written -/
theorem rvFrom_text {p l : List UInt8} {n c : Nat} (hp : ∀ x ∈ p, 128 ≤ x.toNat) (h : rvFrom p l = some (n, c)) : (vb n).length = c ∧ p ++ l = vb n ++ (p ++ l).drop c := by
  induction l generalizing p with
  | nil => simp [rvFrom] at h
  | cons b r ih =>
    rw [rvFrom] at h
    split at h
    · cases h
    · split at h
      · rename_i hb
        split at h
        · cases h
        · rename_i hv
          simp only [Option.some.injEq, Prod.mk.injEq] at h
          obtain ⟨rfl, rfl⟩ := h
          have e := (vb_val p b hp hb).2 (fun q => hv (Or.inr q))
          rw [e]
          have e2 : p ++ b :: r = (p ++ [b]) ++ r := by simp
          refine ⟨by simp, ?_⟩
          rw [e2, List.drop_left' (by simp)]
      · rename_i hb
        have := ih (p := p ++ [b]) (by
          intro x hx
          rcases List.mem_append.1 hx with hx | hx
          · exact hp x hx
          · simp at hx; subst hx; omega) h
        simpa using this
theorem rv_text {l : List UInt8} {n c : Nat} (h : rv l = some (n, c)) : (vb n).length = c ∧ l = vb n ++ l.drop c := by
  simpa using rvFrom_text (p := []) (by simp) h
theorem rv_bd {l : List UInt8} {n c : Nat} (h : rv l = some (n, c)) : n ≤ 1000000000 ∧ 0 < c ∧ c ≤ l.length := by
  have := rvFrom_some h
  simpa using this

/-- what is read of the bytes of an entry -/
def readE (l : List UInt8) : Option (Nat × EntD) := match l with
  | [] => none
  | h :: l1 => if h = 69 then
      match rv l1 with
      | none => none
      | some (i, m) => match rv (l1.drop m) with
        | none => none
        | some (t, m2) => match (l1.drop m).drop m2 with
          | [] => none
          | k :: r => if (entryOk ⟨t, k.toNat, ⟨r.toArray⟩⟩ && within i 1 1000000) = true then some (i, ⟨t, k.toNat, ⟨r.toArray⟩⟩) else none
    else none

def readEntry (s : ByteArray) : Option (Nat × EntD) := readE s.data.toList
/-- what both readers answer -/
def reAns : Option (Nat × EntD) → Value
  | none => .tuple #[.int .i64 0, .agg #[.int .i64 0, .int .i64 0, .string ByteArray.empty], .bool false]
  | some (i, e) => .tuple #[.int .i64 i, .agg #[.int .i64 e.term, .int .i64 e.kind, .string e.data], .bool true]

theorem list_at (s : ByteArray) (k : Nat) (h : k < s.size) : s.data.toList.drop k = s[k] :: s.data.toList.drop (k + 1) := drop_cons s k h
theorem list_head (s : ByteArray) (h : 0 < s.size) : s.data.toList = s[0] :: s.data.toList.drop 1 := by
  have := drop_cons s 0 h
  simpa using this

theorem readE_empty {s : ByteArray} (h : s.size = 0) : readEntry s = none := by
  have : s.data.toList = [] := List.eq_nil_of_length_eq_zero (by simpa using h)
  rw [readEntry, this, readE]
theorem readE_head {s : ByteArray} (h : 0 < s.size) (h0 : s[0] ≠ 69) : readEntry s = none := by
  rw [readEntry, list_head s h, readE, if_neg h0]
theorem readE_one {s : ByteArray} (h1 : rv (s.data.toList.drop 1) = none) : readEntry s = none := by
  rcases Nat.eq_zero_or_pos s.size with q | q
  · exact readE_empty q
  · by_cases h0 : s[0] = 69
    · rw [readEntry, list_head s q, readE, if_pos h0, h1]
    · exact readE_head q h0
theorem readE_two {s : ByteArray} {i m : Nat} (h1 : rv (s.data.toList.drop 1) = some (i, m)) (h2 : rv (s.data.toList.drop (1 + m)) = none) : readEntry s = none := by
  rcases Nat.eq_zero_or_pos s.size with q | q
  · exact readE_empty q
  · by_cases h0 : s[0] = 69
    · rw [readEntry, list_head s q, readE, if_pos h0, h1]
      simp only
      rw [List.drop_drop, h2]
    · exact readE_head q h0
theorem readE_end {s : ByteArray} {i m t c : Nat} (h1 : rv (s.data.toList.drop 1) = some (i, m)) (h2 : rv (s.data.toList.drop (1 + m)) = some (t, c)) (h3 : s.size ≤ 1 + m + c) : readEntry s = none := by
  rcases Nat.eq_zero_or_pos s.size with q | q
  · exact readE_empty q
  · by_cases h0 : s[0] = 69
    · rw [readEntry, list_head s q, readE, if_pos h0, h1]
      simp only
      rw [List.drop_drop, h2]
      simp only
      rw [List.drop_drop, List.drop_eq_nil_of_le (by simp; omega)]
    · exact readE_head q h0
/-- the data behind a place -/
theorem data_from (s : ByteArray) (k : Nat) : (⟨(s.data.toList.drop k).toArray⟩ : ByteArray) = s.extract k s.size := by
  apply ByteArray.ext
  apply Array.toList_inj.1
  rw [extract_eq, List.take_of_length_le (by simp)]
theorem readE_go {s : ByteArray} {i m t c : Nat} (q : 0 < s.size) (h0 : s[0] = 69) (h1 : rv (s.data.toList.drop 1) = some (i, m)) (h2 : rv (s.data.toList.drop (1 + m)) = some (t, c)) (h3 : 1 + m + c < s.size) :
    readEntry s = if (entryOk ⟨t, s[1 + m + c].toNat, s.extract (1 + m + c + 1) s.size⟩ && within i 1 1000000) = true then some (i, ⟨t, s[1 + m + c].toNat, s.extract (1 + m + c + 1) s.size⟩) else none := by
  rw [readEntry, list_head s q, readE, if_pos h0, h1]
  simp only
  rw [List.drop_drop, h2]
  simp only
  rw [List.drop_drop, list_at s _ h3]
  simp only [data_from]

theorem readE_at {s : ByteArray} {i m t c a : Nat} (q : 0 < s.size) (h0 : s[0] = 69) (h1 : rv (s.data.toList.drop 1) = some (i, m)) (h2 : rv (s.data.toList.drop (1 + m)) = some (t, c)) (ha : 1 + m + c = a) (h3 : a < s.size) :
    readEntry s = if (entryOk ⟨t, s[a].toNat, s.extract (a + 1) s.size⟩ && within i 1 1000000) = true then some (i, ⟨t, s[a].toNat, s.extract (a + 1) s.size⟩) else none := by
  subst ha
  exact readE_go q h0 h1 h2 h3
theorem readE_index {s : ByteArray} {i m : Nat} (h1 : rv (s.data.toList.drop 1) = some (i, m)) (hi : within i 1 1000000 = false) : readEntry s = none := by
  rcases Nat.eq_zero_or_pos s.size with q | q
  · exact readE_empty q
  · by_cases h0 : s[0] = 69
    · cases h2 : rv (s.data.toList.drop (1 + m)) with
      | none => exact readE_two h1 h2
      | some p =>
        obtain ⟨t, c⟩ := p
        by_cases h3 : s.size ≤ 1 + m + c
        · exact readE_end h1 h2 h3
        · rw [readE_go q h0 h1 h2 (by omega), if_neg (by simp [hi])]
    · exact readE_head q h0

/-- the whole text, out of what was read of it -/
theorem text_read {s : ByteArray} {i m t c : Nat} (q : 0 < s.size) (h1 : rv (s.data.toList.drop 1) = some (i, m)) (h2 : rv (s.data.toList.drop (1 + m)) = some (t, c)) (h3 : 1 + m + c < s.size) :
    s.data.toList = s[0] :: (vb i ++ (vb t ++ (s[1 + m + c] :: (s.extract (1 + m + c + 1) s.size).data.toList))) := by
  have e1 := (rv_text h1).2
  have e2 := (rv_text h2).2
  rw [List.drop_drop] at e1 e2
  rw [list_at s _ h3] at e2
  rw [e2] at e1
  have e0 := list_head s q
  rw [e1] at e0
  rw [e0]
  congr 4
  rw [extract_eq, List.take_of_length_le (by simp)]
theorem entText_list (i : Int) (e : EntD) : (entText i e).data.toList = 69 :: (vb i.toNat ++ (vb e.term.toNat ++ (UInt8.ofNat e.kind.toNat :: e.data.data.toList))) := by
  simp [entText, ByteArray.data_append]
/-- what is written of what was read is the text itself, just when it begins as an entry does -/
theorem back_same {s : ByteArray} {i m t c : Nat} (q : 0 < s.size) (h1 : rv (s.data.toList.drop 1) = some (i, m)) (h2 : rv (s.data.toList.drop (1 + m)) = some (t, c)) (h3 : 1 + m + c < s.size) :
    ((entText i ⟨t, s[1 + m + c].toNat, s.extract (1 + m + c + 1) s.size⟩).toList == s.toList) = decide (s[0] = 69) := by
  rw [ByteArray.toList_eq, ByteArray.toList_eq, entText_list, text_read q h1 h2 h3]
  simp only [Int.toNat_natCast, UInt8.ofNat_toNat]
  by_cases h : s[0] = 69
  · simp [h]
  · have h' : ¬ (69 : UInt8) = s[0] := fun x => h x.symm
    simp [h, h']
end Go.Proofs.YtoanhjjigbjecaaGreatDoor

namespace Go.Proofs.YtoanhjjigbjecaaGreatDoor
open Go.RowKit

/-- where a short text that is read at a begins and ends -/
def rs (s : ByteArray) (a : Int) : Option (Nat × Nat) :=
  if 0 ≤ a ∧ a ≤ s.size then
    (match rv (s.data.toList.drop a.toNat) with
    | none => none
    | some (n, c) => if n ≤ 20000 ∧ a.toNat + c + n ≤ s.size then some (a.toNat + c, a.toNat + c + n) else none)
  else none

def rsAns (s : ByteArray) : Option (Nat × Nat) → Value
  | none => .tuple #[.string ByteArray.empty, .int .i64 0, .bool false]
  | some (b, e) => .tuple #[.string (s.extract b e), .int .i64 e, .bool true]

theorem rs_out {s : ByteArray} {a : Int} (h : a < 0 ∨ (s.size : Int) < a) : rs s a = none := by
  unfold rs; rw [if_neg (by omega)]
theorem rs_none {s : ByteArray} {a : Nat} (ha : a ≤ s.size) (h : rv (s.data.toList.drop a) = none) : rs s a = none := by
  unfold rs; rw [if_pos (by omega)]; simp [h]
theorem rs_big {s : ByteArray} {a n c : Nat} (ha : a ≤ s.size) (h : rv (s.data.toList.drop a) = some (n, c)) (hb : ¬ (n ≤ 20000 ∧ a + c + n ≤ s.size)) : rs s a = none := by
  unfold rs; rw [if_pos (by omega)]; simp only [Int.toNat_natCast, h]; rw [if_neg hb]
theorem rs_yes {s : ByteArray} {a n c : Nat} (ha : a ≤ s.size) (h : rv (s.data.toList.drop a) = some (n, c)) (hb : n ≤ 20000 ∧ a + c + n ≤ s.size) : rs s a = some (a + c, a + c + n) := by
  unfold rs; rw [if_pos (by omega)]; simp only [Int.toNat_natCast, h]; rw [if_pos hb]
theorem rv_fits {s : ByteArray} {a n c : Nat} (ha : a ≤ s.size) (h : rv (s.data.toList.drop a) = some (n, c)) : n ≤ 1000000000 ∧ 0 < c ∧ a + c ≤ s.size := by
  have h1 := rvFrom_some h
  have h2 : s.data.toList.length = s.size := by simp
  simp only [List.length_drop, List.length_nil, h2] at h1
  omega
end Go.Proofs.YtoanhjjigbjecaaGreatDoor

namespace Go.Proofs.YtoanhjjigbjecaaGreatDoor
open Go.RowKit

/-- one of the eight steps -/
def half (x : Nat) : Nat := if x % 2 = 1 then x / 2 ^^^ 3558460437 else x / 2

theorem half_lt {x : Nat} (h : x < 4294967296) : half x < 4294967296 := by
  unfold half
  split
  · exact Nat.xor_lt_two_pow (n := 32) (by omega) (by omega)
  · omega

theorem top_bit {a : Nat} (h : a < 2147483648) : 2147483648 ≤ a ^^^ 3558460437 := by
  have h1 : (a ^^^ 3558460437).testBit 31 = true := by
    rw [Nat.testBit_xor, Nat.testBit_lt_two_pow (x := a) (i := 31) (by omega)]
    decide
  exact Nat.ge_two_pow_of_testBit h1

theorem xor_cancel {a b c : Nat} (h : a ^^^ c = b ^^^ c) : a = b := by
  have := congrArg (· ^^^ c) h
  simpa [Nat.xor_assoc] using this

theorem half_inj {x y : Nat} (hx : x < 4294967296) (hy : y < 4294967296) (h : half x = half y) : x = y := by
  unfold half at h
  have tx := top_bit (a := x / 2) (by omega)
  have ty := top_bit (a := y / 2) (by omega)
  split at h <;> split at h
  · have := xor_cancel h; omega
  · omega
  · omega
  · omega

/-- k steps -/
def hsN : Nat → Nat → Nat
  | 0, x => x
  | k + 1, x => half (hsN k x)

theorem hsN_lt (k : Nat) {x : Nat} (h : x < 4294967296) : hsN k x < 4294967296 := by
  induction k with
  | zero => exact h
  | succ k ih => exact half_lt ih
theorem hsN_inj (k : Nat) {x y : Nat} (hx : x < 4294967296) (hy : y < 4294967296) (h : hsN k x = hsN k y) : x = y := by
  induction k with
  | zero => exact h
  | succ k ih => exact ih (half_inj (hsN_lt k hx) (hsN_lt k hy) h)

/-- a sum and one byte more -/
def crc1 (s : Nat) (b : UInt8) : Nat := hsN 8 (s ^^^ b.toNat)

theorem xb_lt {s : Nat} (h : s < 4294967296) (b : UInt8) : s ^^^ b.toNat < 4294967296 := Nat.xor_lt_two_pow (n := 32) (by omega) (by have := b.toNat_lt; omega)
theorem crc1_lt {s : Nat} (h : s < 4294967296) (b : UInt8) : crc1 s b < 4294967296 := hsN_lt 8 (xb_lt h b)
theorem crc1_inj {s t : Nat} (hs : s < 4294967296) (ht : t < 4294967296) {b : UInt8} (h : crc1 s b = crc1 t b) : s = t :=
  xor_cancel (hsN_inj 8 (xb_lt hs b) (xb_lt ht b) h)
theorem crc1_byte {s : Nat} (hs : s < 4294967296) {b c : UInt8} (h : crc1 s b = crc1 s c) : b = c := by
  have h1 := hsN_inj 8 (xb_lt hs b) (xb_lt hs c) h
  rw [Nat.xor_comm s, Nat.xor_comm s] at h1
  exact UInt8.toNat_inj.1 (xor_cancel h1)

/-- a sum and more bytes -/
def crc (s : Nat) (l : List UInt8) : Nat := l.foldl crc1 s

theorem crc_append (s : Nat) (l r : List UInt8) : crc s (l ++ r) = crc (crc s l) r := by simp [crc]
theorem crc_snoc (s : Nat) (l : List UInt8) (b : UInt8) : crc s (l ++ [b]) = crc1 (crc s l) b := by simp [crc]
theorem crc_lt {s : Nat} (h : s < 4294967296) (l : List UInt8) : crc s l < 4294967296 := by
  induction l generalizing s with
  | nil => exact h
  | cons b l ih => exact ih (crc1_lt h b)
theorem crc_inj {s t : Nat} (hs : s < 4294967296) (ht : t < 4294967296) (l : List UInt8) (h : crc s l = crc t l) : s = t := by
  induction l generalizing s t with
  | nil => exact h
  | cons b l ih => exact crc1_inj hs ht (ih (crc1_lt hs b) (crc1_lt ht b) h)
/-- one byte turned turns the sum -/
theorem crc_turned {s : Nat} (hs : s < 4294967296) (p q : List UInt8) {b c : UInt8} (h : crc s (p ++ b :: q) = crc s (p ++ c :: q)) : b = c := by
  rw [crc_append, crc_append] at h
  have hp := crc_lt hs p
  have h1 : crc (crc1 (crc s p) b) q = crc (crc1 (crc s p) c) q := h
  exact crc1_byte hp (crc_inj (crc1_lt hp b) (crc1_lt hp c) q h1)

/-- a sum in four bytes, the highest first -/
def four (x : Nat) : List UInt8 := [UInt8.ofNat (x / 16777216), UInt8.ofNat (x / 65536), UInt8.ofNat (x / 256), UInt8.ofNat x]
theorem four_length (x : Nat) : (four x).length = 4 := rfl
theorem four_inj {x y : Nat} (hx : x < 4294967296) (hy : y < 4294967296) (h : four x = four y) : x = y := by
  simp only [four, List.cons.injEq, and_true] at h
  obtain ⟨h1, h2, h3, h4⟩ := h
  have e1 := congrArg UInt8.toNat h1
  have e2 := congrArg UInt8.toNat h2
  have e3 := congrArg UInt8.toNat h3
  have e4 := congrArg UInt8.toNat h4
  simp only [UInt8.toNat_ofNat'] at e1 e2 e3 e4
  omega

def sumOf (l : List UInt8) : Nat := crc 4294967295 l
theorem sumOf_lt (l : List UInt8) : sumOf l < 4294967296 := crc_lt (by omega) l

/-- a sealed text with one byte turned is the sealed text of none of its length -/
theorem seal_turned (l m : List UInt8) (p q : List UInt8) (b c : UInt8) (h1 : l ++ four (sumOf l) = p ++ b :: q) (h2 : m ++ four (sumOf m) = p ++ c :: q) : b = c := by
  have hlen : l.length = m.length := by
    have e1 := congrArg List.length h1
    have e2 := congrArg List.length h2
    simp only [List.length_append, List.length_cons, four_length] at e1 e2
    omega
  have tl : l = (p ++ b :: q).take l.length := by rw [← h1, List.take_left]
  have tm : m = (p ++ c :: q).take l.length := by rw [← h2, hlen, List.take_left]
  have dl : four (sumOf l) = (p ++ b :: q).drop l.length := by rw [← h1, List.drop_left]
  have dm : four (sumOf m) = (p ++ c :: q).drop l.length := by rw [← h2, hlen, List.drop_left]
  rw [List.take_append] at tl tm
  rw [List.drop_append] at dl dm
  rcases Nat.lt_or_ge p.length l.length with hp | hp
  · -- the byte lies in the text: the sums' bytes are alike
    obtain ⟨k, hk⟩ : ∃ k, l.length - p.length = k + 1 := ⟨l.length - p.length - 1, by omega⟩
    rw [hk, List.take_of_length_le (by omega), List.take_succ_cons] at tl tm
    rw [hk, List.drop_of_length_le (by omega), List.drop_succ_cons] at dl dm
    have hs := four_inj (sumOf_lt l) (sumOf_lt m) (dl.trans dm.symm)
    rw [tl, tm] at hs
    exact crc_turned (by omega) p (q.take k) hs
  · -- the byte lies in the sum: the texts are alike
    have hk : l.length - p.length = 0 := by omega
    rw [hk, List.take_zero, List.append_nil] at tl tm
    have e : l = m := tl.trans tm.symm
    have h3 : p ++ b :: q = p ++ c :: q := by rw [← h1, ← h2, e]
    have h4 := List.append_cancel_left h3
    simp only [List.cons.injEq] at h4
    exact h4.1

/-- a text that is sealed -/
def Uns (s : ByteArray) : Prop := 4 ≤ s.size ∧ s.size ≤ 20004 ∧ s.data.toList.drop (s.size - 4) = four (sumOf (s.data.toList.take (s.size - 4)))

theorem slice_from {P : Program} {t : TypeId} (h : P.underlying t = some .string) (s : ByteArray) (a : Nat) (x : Int) (hx : x = a) (ha : a ≤ s.size) (w : World) :
    (Instr.slice t (.string s) (some (.int .i64 x)) none none).run P w = .ok (.string (s.extract a s.size)) w := by
  subst hx
  rw [run_slice_string_l w t s h .i64 a (by omega) (by omega)]
  simp
theorem slice_upto {P : Program} {t : TypeId} (h : P.underlying t = some .string) (s : ByteArray) (a : Nat) (x : Int) (hx : x = a) (ha : a ≤ s.size) (w : World) :
    (Instr.slice t (.string s) none (some (.int .i64 x)) none).run P w = .ok (.string (s.extract 0 a)) w := by
  subst hx
  rw [run_slice_string_h w t s h .i64 a (by omega) (by omega)]
  simp

theorem head_list (s : ByteArray) (a : Nat) : (s.extract 0 a).data.toList = s.data.toList.take a := by rw [extract_eq]; simp
theorem tail_list (s : ByteArray) (a : Nat) : (s.extract a s.size).data.toList = s.data.toList.drop a := by
  rw [extract_eq, List.take_of_length_le (by simp)]

theorem uns_same {s : ByteArray} (h4 : 4 ≤ s.size) (h2 : s.size ≤ 20004) : (s.extract (s.size - 4) s.size).toList = four (sumOf (s.extract 0 (s.size - 4)).data.toList) ↔ Uns s := by
  rw [ByteArray.toList_eq, tail_list s _, head_list]
  exact ⟨fun h => ⟨h4, h2, h⟩, fun h => h.2.2⟩
end Go.Proofs.YtoanhjjigbjecaaGreatDoor

namespace Go.Proofs.YtoanhjjigbjecaaGreatDoor
open Go.RowKit

/-- the sealed text -/
def sealOf (s : ByteArray) : ByteArray := s ++ ⟨(four (sumOf s.data.toList)).toArray⟩

theorem sealOf_list (s : ByteArray) : (sealOf s).data.toList = s.data.toList ++ four (sumOf s.data.toList) := by
  rw [sealOf, ByteArray.data_append, Array.toList_append]
theorem sealOf_size (s : ByteArray) : (sealOf s).size = s.size + 4 := by
  rw [sealOf, ByteArray.size_append]
  rfl
theorem sealOf_uns {s : ByteArray} (h : s.size ≤ 20000) : Uns (sealOf s) := by
  refine ⟨by rw [sealOf_size]; omega, by rw [sealOf_size]; omega, ?_⟩
  have e : (sealOf s).size - 4 = s.data.toList.length := by rw [sealOf_size]; simp
  rw [e, sealOf_list, List.take_left, List.drop_left]
theorem sealOf_head (s : ByteArray) : (sealOf s).extract 0 ((sealOf s).size - 4) = s := by
  apply ByteArray.ext
  apply Array.toList_inj.1
  have e : (sealOf s).size - 4 = s.data.toList.length := by rw [sealOf_size]; simp
  rw [head_list, e, sealOf_list, List.take_left]

/-- a sealed text with one byte turned is none -/
theorem turned_not {s t : ByteArray} {k : Nat} {b : UInt8} (hk : k < (sealOf s).size) (hb : b ≠ (sealOf s).data.toList[k]'(by simpa using hk)) (ht : t.data.toList = (sealOf s).data.toList.set k b) : ¬ Uns t := by
  intro h
  have hkl : k < (sealOf s).data.toList.length := by simpa using hk
  obtain ⟨L, hL⟩ : ∃ L, (sealOf s).data.toList = L := ⟨_, rfl⟩
  have h1 := sealOf_list s
  simp only [hL] at hb hkl ht h1
  obtain ⟨_, _, h3⟩ := h
  have h4 := List.take_append_drop (t.size - 4) t.data.toList
  rw [h3] at h4
  refine hb ?_
  refine (seal_turned s.data.toList (t.data.toList.take (t.size - 4)) (L.take k) (L.drop (k + 1)) L[k] b ?_ ?_).symm
  · rw [← h1]
    rw [List.getElem_cons_drop hkl, List.take_append_drop]
  · rw [h4, ht, List.set_eq_take_append_cons_drop, if_pos hkl]

/-- with one byte turned it is no sealed text -/
def TurnsNot (Q : ByteArray) : Prop := ∀ (t : ByteArray) (k : Nat) (b : UInt8) (hk : k < Q.size), b ≠ Q[k] → t.data.toList = Q.data.toList.set k b → ¬ Uns t
theorem sealOf_turns (s : ByteArray) : TurnsNot (sealOf s) := fun _ _ _ hk hb ht => turned_not hk (fun h => hb (h.trans rfl)) ht
end Go.Proofs.YtoanhjjigbjecaaGreatDoor

namespace Go.Proofs.YtoanhjjigbjecaaGreatDoor
open Go.RowKit

/-- a snapshot: its index, its term, its conf, its body -/
abbrev snapV (ix tm : Int) (v : Value) (bd : ByteArray) : Value := .agg #[.int .i64 ix, .int .i64 tm, v, .string bd]
/-- a short text with its length ahead -/
def shortT (s : ByteArray) : ByteArray := ⟨(vb s.size).toArray⟩ ++ s
/-- what is sealed of a snapshot -/
def snapIn (ix tm : Nat) (zs : List Int) (bd : ByteArray) : ByteArray := ⟨(vb ix).toArray⟩ ++ ⟨(vb tm).toArray⟩ ++ shortT ⟨(confBytes zs).toArray⟩ ++ shortT bd
def snapOk (ix tm : Int) (zs : List Int) (bd : ByteArray) : Bool := confOk zs && (within ix 0 1000000 && within tm 0 100000) && decide ((snapIn ix.toNat tm.toNat zs bd).size ≤ 19996)
def snapText (ix tm : Int) (zs : List Int) (bd : ByteArray) : ByteArray × Bool := if snapOk ix tm zs bd = true then (sealOf (snapIn ix.toNat tm.toNat zs bd), true) else (ByteArray.empty, false)

theorem snapOk_iff {ix tm : Int} {zs : List Int} {bd : ByteArray} : snapOk ix tm zs bd = true ↔ confOk zs = true ∧ ((0 ≤ ix ∧ ix ≤ 1000000) ∧ (0 ≤ tm ∧ tm ≤ 100000)) ∧ (snapIn ix.toNat tm.toNat zs bd).size ≤ 19996 := by
  simp only [snapOk, Bool.and_eq_true, within_iff, decide_eq_true_eq, and_assoc]
theorem snapText_no {ix tm : Int} {zs : List Int} {bd : ByteArray} (h : ¬ snapOk ix tm zs bd = true) : snapText ix tm zs bd = (ByteArray.empty, false) := by rw [snapText, if_neg h]
theorem snapText_yes {ix tm : Int} {zs : List Int} {bd : ByteArray} (h : snapOk ix tm zs bd = true) : snapText ix tm zs bd = (sealOf (snapIn ix.toNat tm.toNat zs bd), true) := by rw [snapText, if_pos h]
theorem shortT_size (s : ByteArray) : (shortT s).size = (vb s.size).length + s.size := by
  rw [shortT, ByteArray.size_append]
  rfl
theorem snapIn_size (ix tm : Nat) (zs : List Int) (bd : ByteArray) : (snapIn ix tm zs bd).size = (vb ix).length + (vb tm).length + (shortT ⟨(confBytes zs).toArray⟩).size + (shortT bd).size := by
  rw [snapIn, ByteArray.size_append, ByteArray.size_append, ByteArray.size_append]
  rfl
theorem snapText_conf {ix tm : Int} {zs : List Int} {bd : ByteArray} (h : confOk zs = false) : snapText ix tm zs bd = (ByteArray.empty, false) := snapText_no (by rw [snapOk_iff, h]; simp)
theorem snapText_ix {ix tm : Int} {zs : List Int} {bd : ByteArray} (h : within ix 0 1000000 = false) : snapText ix tm zs bd = (ByteArray.empty, false) := snapText_no (by rw [snapOk, h]; simp)
theorem snapText_tm {ix tm : Int} {zs : List Int} {bd : ByteArray} (h : within tm 0 100000 = false) : snapText ix tm zs bd = (ByteArray.empty, false) := snapText_no (by rw [snapOk, h]; simp)
theorem snapText_big {ix tm : Int} {zs : List Int} {bd : ByteArray} (h : 20000 < bd.size) : snapText ix tm zs bd = (ByteArray.empty, false) := snapText_no (by
  rw [snapOk_iff]
  rintro ⟨_, _, h3⟩
  rw [snapIn_size, shortT_size bd] at h3
  omega)
theorem snapText_long {ix tm : Int} {zs : List Int} {bd : ByteArray} (h : 19996 < (snapIn ix.toNat tm.toNat zs bd).size) : snapText ix tm zs bd = (ByteArray.empty, false) := snapText_no (by
  rw [snapOk_iff]
  rintro ⟨_, _, h3⟩
  omega)
theorem vb_short {n : Nat} (h : n ≤ 1000000) : (vb n).length ≤ 3 := by
  rcases Nat.lt_or_ge 127 n with h1 | h1
  · rw [vb_big h1]
    rcases Nat.lt_or_ge 127 (n / 128) with h2 | h2
    · rw [vb_big h2, vb_small (show n / 128 / 128 ≤ 127 by omega)]
      simp
    · rw [vb_small h2]
      simp
  · rw [vb_small h1]
    simp
theorem confBytes_size (zs : List Int) : (⟨(confBytes zs).toArray⟩ : ByteArray).size = zs.length := by
  show (confBytes zs).toArray.size = _
  rw [List.size_toArray, confBytes_length]
/-- how long what is sealed is, at the most -/
theorem snapIn_le {ix tm : Nat} {zs : List Int} {bd : ByteArray} (h1 : ix ≤ 1000000) (h2 : tm ≤ 1000000) (h3 : zs.length ≤ 1000000) (h4 : bd.size ≤ 1000000) : (snapIn ix tm zs bd).size ≤ 12 + zs.length + bd.size := by
  rw [snapIn_size, shortT_size, shortT_size, confBytes_size]
  have a := vb_short h1
  have b := vb_short h2
  have c := vb_short h3
  have d := vb_short h4
  omega
end Go.Proofs.YtoanhjjigbjecaaGreatDoor

namespace Go.Proofs.YtoanhjjigbjecaaGreatDoor
open Go.RowKit

theorem take_one (s : ByteArray) (k : Nat) (h : k < s.size) : s.data.toList.take (k + 1) = s.data.toList.take k ++ [s[k]] := by
  rw [List.take_succ_eq_append_getElem (by simpa using h)]; rfl

theorem ret_u32 {a b : Nat} (h : a = b) : Ending.returned (.int .u32 a) = .returned (.int .u32 b) := by rw [h]

end Go.Proofs.YtoanhjjigbjecaaGreatDoor

namespace Go.Proofs.YtoanhjjigbjecaaGreatDoor

/-- a snapshot's name -/
def sname (n : Int) : ByteArray := if within n 0 1000000 = true then ⟨#[115]⟩ ++ ⟨(dec n).toArray⟩ else ⟨#[]⟩
theorem sname_yes {n : Int} (h : within n 0 1000000 = true) : sname n = ⟨#[115]⟩ ++ ⟨(dec n).toArray⟩ := by rw [sname, if_pos h]
theorem sname_no {n : Int} (h : within n 0 1000000 = false) : sname n = ⟨#[]⟩ := by rw [sname, h]; rfl
theorem dec_small7 {n : Int} (h : 0 ≤ n ∧ n ≤ 1000000) : (⟨(dec n).toArray⟩ : ByteArray).size ≤ 7 := by
  show (dec n).toArray.size ≤ 7
  rw [List.size_toArray, dec]
  split
  · simp
  · rw [if_neg (by omega)]
    exact dd_len 7 _ (by omega)
end Go.Proofs.YtoanhjjigbjecaaGreatDoor

namespace Go.Proofs.YtoanhjjigbjecaaGreatDoor
open Go.RowKit

/-- a file as data -/
structure FileD where
  name : ByteArray
  text : ByteArray
  kept : Int

def FileD.value (f : FileD) : Value := .agg #[.string f.name, .string f.text, .int .i64 f.kept]

/-- the cells of files -/
def fileEnc (f : FileD) : List Value := [.string f.name, .string f.text, .int .i64 f.kept]
def fileCells (l : List FileD) : List Value := l.flatMap fileEnc
theorem fileCells_length (l : List FileD) : (fileCells l).length = l.length * 3 := row_length fileEnc 3 (fun _ => rfl) l
theorem fileCells_take (l : List FileD) (k : Nat) (h : k < l.length) : fileCells (l.take (k + 1)) = fileCells (l.take k) ++ fileEnc l[k] := by
  rw [List.take_succ_eq_append_getElem h, fileCells, fileCells, List.flatMap_append]
  simp
/-- how many letters and files -/
def fileBulk : List FileD → Int
  | [] => 0
  | f :: l => f.name.size + f.text.size + fileBulk l
theorem fileBulk_nonneg (l : List FileD) : 0 ≤ fileBulk l := by
  induction l with
  | nil => exact Int.le_refl 0
  | cons f l ih => simp only [fileBulk]; omega
theorem fileBulk_take (l : List FileD) (k : Nat) (h : k < l.length) : fileBulk (l.take (k + 1)) = fileBulk (l.take k) + l[k].name.size + l[k].text.size := by
  induction l generalizing k with
  | nil => simp at h
  | cons f l ih =>
    cases k with
    | zero => simp [fileBulk]
    | succ k =>
      have := ih k (by simpa using h)
      simp only [List.take_succ_cons, fileBulk, List.getElem_cons_succ] at this ⊢
      omega

theorem fileBulk_le (l : List FileD) (k : Nat) : fileBulk (l.take k) ≤ fileBulk l := by
  induction l generalizing k with
  | nil => simp [fileBulk]
  | cons f l ih =>
    cases k with
    | zero => have := fileBulk_nonneg (f :: l); simpa [fileBulk] using this
    | succ k => have := ih k; simp only [List.take_succ_cons, fileBulk]; omega

theorem file_le_bulk {l : List FileD} {f : FileD} (h : f ∈ l) : (f.name.size : Int) + f.text.size ≤ fileBulk l := by
  induction l with
  | nil => cases h
  | cons g l ih =>
    simp only [fileBulk]
    have := fileBulk_nonneg l
    rcases List.mem_cons.1 h with e | e
    · subst e; omega
    · have := ih e; omega
theorem filesSmall {l : List FileD} (h : 0 ≤ (1048576 : Int) - l.length - fileBulk l) : l.length ≤ 1048576 ∧ ∀ f ∈ l, f.name.size ≤ 1048576 ∧ f.text.size ≤ 1048576 := by
  have := fileBulk_nonneg l
  exact ⟨by omega, fun f hf => by have := file_le_bulk hf; omega⟩

/-- files lie at an address, one behind the other -/
def FilesAt (w : World) (ao : Option Addr) (l : List FileD) : Prop :=
  l ≠ [] → ∃ b off, ao = some ⟨b, off, none⟩ ∧ ∀ j (hj : j < l.length), w.cell? ⟨b, off + j * 3, none⟩ = some (.string l[j].name) ∧ w.cell? ⟨b, off + j * 3 + 1, none⟩ = some (.string l[j].text) ∧ w.cell? ⟨b, off + j * 3 + 2, none⟩ = some (.int .i64 l[j].kept)
theorem filesAt_of {w : World} {g : Nat} {t : TypeId} {l : List FileD} {r : List Value} (h : BlockIs w g t (fileCells l ++ r)) : FilesAt w (some ⟨g, 0, none⟩) l := by
  intro _
  refine ⟨g, 0, rfl, fun j hj => ?_⟩
  rw [Nat.zero_add]
  exact ⟨h.cell (row_at fileEnc 3 (fun _ => rfl) l r j 0 hj (by omega)), h.cell (row_at fileEnc 3 (fun _ => rfl) l r j 1 hj (by omega)), h.cell (row_at fileEnc 3 (fun _ => rfl) l r j 2 hj (by omega))⟩
/-- texts that fit -/
def FilesFit (l : List FileD) : Prop := ∀ j (hj : j < l.length), l[j].name.size ≤ 9223372036854775807 ∧ l[j].text.size ≤ 9223372036854775807
theorem FilesAt.on {w w' : World} {ao : Option Addr} {l : List FileD} (h : FilesAt w ao l) (hb : Below w.heap.size w w') : FilesAt w' ao l := by
  intro h0
  obtain ⟨b, off, e1, e2⟩ := h h0
  refine ⟨b, off, e1, fun j hj => ?_⟩
  obtain ⟨x, y, z⟩ := e2 j hj
  exact ⟨(hb.cell (p := ⟨b, off + j * 3, none⟩) (World.block_lt_of_cell? w _ x)).trans x, (hb.cell (p := ⟨b, off + j * 3 + 1, none⟩) (World.block_lt_of_cell? w _ y)).trans y, (hb.cell (p := ⟨b, off + j * 3 + 2, none⟩) (World.block_lt_of_cell? w _ z)).trans z⟩
end Go.Proofs.YtoanhjjigbjecaaGreatDoor

namespace Go.Proofs.YtoanhjjigbjecaaGreatDoor
open Go.RowKit

theorem toFile_info : (Tryz.prog.info? 61).map (fun i => (i.zero, i.size, i.bytes)) = some (some (.agg #[.string ByteArray.empty, .string ByteArray.empty, .int .i64 0]), 3, 40) := by kernel_rfl
/-- three blocks laid one behind the other -/
theorem three_new (w : World) (o p q : Obj) : Below w.heap.size w (((w.alloc o).alloc p).alloc q) ∧ (((w.alloc o).alloc p).alloc q).heap.size = w.heap.size + 3 ∧ (((w.alloc o).alloc p).alloc q).heap[w.heap.size + 1]? = some p ∧ (((w.alloc o).alloc p).alloc q).heap[w.heap.size + 1 + 1]? = some q := by
  refine ⟨below_more (below_more (below_more (Below.refl _ w) _) _) _, ?_, ?_, ?_⟩
  · simp [World.alloc, -World.alloc_eq]
  · show (((w.heap.push o).push p).push q)[w.heap.size + 1]? = some p
    rw [Array.getElem?_push, if_neg (by simp), Array.getElem?_push, if_pos (by simp)]
  · show (((w.heap.push o).push p).push q)[w.heap.size + 1 + 1]? = some q
    rw [Array.getElem?_push, if_pos (by simp)]

end Go.Proofs.YtoanhjjigbjecaaGreatDoor

namespace Go.Proofs.YtoanhjjigbjecaaGreatDoor
open Go.RowKit

def nameOk (s : ByteArray) : Bool := within s.size 1 8
def fileOk (f : FileD) : Bool := nameOk f.name && decide (f.text.size ≤ 20000) && within f.kept 0 f.text.size
/-- is a text less than another one -/
def textLt (s t : ByteArray) : Bool := Op.bytesLess s.toList t.toList
/-- a file stands behind the one ahead of it -/
def behind (l : List FileD) (k : Nat) (f : FileD) : Bool := match k with
  | 0 => true
  | j + 1 => match l[j]? with
    | none => true
    | some g => textLt g.name f.name
/-- the first k files are right, and ascend -/
def rightTo (l : List FileD) : Nat → Bool
  | 0 => true
  | k + 1 => rightTo l k && match l[k]? with
    | none => true
    | some f => fileOk f && behind l k f
def diskOk (l : List FileD) : Bool := decide (l.length ≤ 30) && rightTo l l.length

theorem rightTo_step {l : List FileD} {k : Nat} (hk : k < l.length) : rightTo l (k + 1) = (rightTo l k && (fileOk l[k] && behind l k l[k])) := by
  rw [rightTo, List.getElem?_eq_getElem hk]
theorem behind_step {l : List FileD} {j : Nat} (hj : j + 1 < l.length) : behind l (j + 1) l[j + 1] = textLt l[j].name l[j + 1].name := by
  rw [behind, List.getElem?_eq_getElem (show j < l.length by omega)]
theorem rightTo_down {l : List FileD} {n k : Nat} (h : rightTo l n = true) (hk : k ≤ n) : rightTo l k = true := by
  induction n with
  | zero => obtain rfl : k = 0 := by omega
            rfl
  | succ n ih =>
    rcases Nat.lt_or_ge k (n + 1) with q | q
    · rw [rightTo, Bool.and_eq_true] at h
      exact ih h.1 (by omega)
    · obtain rfl : k = n + 1 := by omega
      exact h
theorem diskOk_of {l : List FileD} (h : l.length ≤ 30) (hr : rightTo l l.length = true) : diskOk l = true := by
  rw [diskOk, hr]
  simpa using h
theorem not_diskOk {l : List FileD} {k : Nat} (hk : k < l.length) (h : (fileOk l[k] && behind l k l[k]) = false) : diskOk l = false := by
  cases hd : diskOk l with
  | false => rfl
  | true =>
    rw [diskOk, Bool.and_eq_true] at hd
    have := rightTo_down hd.2 (show k + 1 ≤ l.length by omega)
    rw [rightTo_step hk, h] at this
    simp at this
end Go.Proofs.YtoanhjjigbjecaaGreatDoor

namespace Go.Proofs.YtoanhjjigbjecaaGreatDoor
open Go.RowKit

/-- an act as data -/
structure ActD where
  kind : Int
  name : ByteArray
  text : ByteArray
  to : ByteArray
def ActD.value (a : ActD) : Value := .agg #[.int .i64 a.kind, .string a.name, .string a.text, .string a.to]
def actEnc (a : ActD) : List Value := [.int .i64 a.kind, .string a.name, .string a.text, .string a.to]
def ActD.bulk (a : ActD) : Int := a.name.size + a.text.size + a.to.size
def ActD.Fits (a : ActD) : Prop := a.name.size ≤ 9223372036854775807 ∧ a.text.size ≤ 9223372036854775807 ∧ a.to.size ≤ 9223372036854775807
end Go.Proofs.YtoanhjjigbjecaaGreatDoor

namespace Go.Proofs.YtoanhjjigbjecaaGreatDoor
open Go.RowKit

/-- how much is left of a file -/
def leftOf (f : FileD) (n : Int) : Int := if (if (f.text.size : Int) < n then (f.text.size : Int) else n) < f.kept then f.kept else (if (f.text.size : Int) < n then (f.text.size : Int) else n)
def lostOf (f : FileD) (n : Int) : FileD := ⟨f.name, f.text.extract 0 (leftOf f n).toNat, leftOf f n⟩
def loseTo (l : List FileD) (zs : List Int) : Nat → List FileD
  | 0 => []
  | k + 1 => loseTo l zs k ++ match l[k]? with
    | none => []
    | some f => [lostOf f (zs.getD k 0)]
theorem loseTo_step {l : List FileD} {zs : List Int} {k : Nat} (hk : k < l.length) : loseTo l zs (k + 1) = loseTo l zs k ++ [lostOf l[k] (zs.getD k 0)] := by
  rw [loseTo, List.getElem?_eq_getElem hk]
theorem loseTo_length {l : List FileD} {zs : List Int} {k : Nat} (hk : k ≤ l.length) : (loseTo l zs k).length = k := by
  induction k with
  | zero => rfl
  | succ k ih => rw [loseTo_step (by omega), List.length_append, ih (by omega)]; rfl
theorem diskOk_kept {l : List FileD} (h : diskOk l = true) {k : Nat} (hk : k < l.length) : 0 ≤ l[k].kept ∧ l[k].kept ≤ l[k].text.size ∧ l[k].text.size ≤ 20000 := by
  rw [diskOk, Bool.and_eq_true] at h
  have h2 := rightTo_down h.2 (show k + 1 ≤ l.length by omega)
  rw [rightTo_step hk] at h2
  simp only [Bool.and_eq_true, fileOk, within, decide_eq_true_eq] at h2
  omega
/-- a right disk is small -/
theorem diskOk_small {l : List FileD} (h : diskOk l = true) : ∀ f ∈ l, f.name.size ≤ 1048576 ∧ f.text.size ≤ 1048576 := by
  intro f hf
  obtain ⟨k, hk, rfl⟩ := List.getElem_of_mem hf
  rw [diskOk, Bool.and_eq_true] at h
  have h2 := rightTo_down h.2 (show k + 1 ≤ l.length by omega)
  rw [rightTo_step hk] at h2
  simp only [Bool.and_eq_true, fileOk, nameOk, within, decide_eq_true_eq] at h2
  omega
end Go.Proofs.YtoanhjjigbjecaaGreatDoor

namespace Go.Proofs.YtoanhjjigbjecaaGreatDoor
open Go.RowKit

/-- acts lie at an address, one behind the other -/
def ActsAt (w : World) (ao : Option Addr) (acts : List ActD) : Prop :=
  acts ≠ [] → ∃ b off, ao = some ⟨b, off, none⟩ ∧ ∀ j (hj : j < acts.length), w.cell? ⟨b, off + j * 4, none⟩ = some (.int .i64 acts[j].kind) ∧ w.cell? ⟨b, off + j * 4 + 1, none⟩ = some (.string acts[j].name) ∧ w.cell? ⟨b, off + j * 4 + 2, none⟩ = some (.string acts[j].text) ∧ w.cell? ⟨b, off + j * 4 + 3, none⟩ = some (.string acts[j].to)
theorem ActsAt.on {w w' : World} {ao : Option Addr} {acts : List ActD} (h : ActsAt w ao acts) (hb : Below w.heap.size w w') : ActsAt w' ao acts := by
  intro h0
  obtain ⟨b, off, e1, e2⟩ := h h0
  refine ⟨b, off, e1, fun j hj => ?_⟩
  obtain ⟨x, y, z, u⟩ := e2 j hj
  exact ⟨(hb.cell (p := ⟨b, off + j * 4, none⟩) (World.block_lt_of_cell? w _ x)).trans x, (hb.cell (p := ⟨b, off + j * 4 + 1, none⟩) (World.block_lt_of_cell? w _ y)).trans y, (hb.cell (p := ⟨b, off + j * 4 + 2, none⟩) (World.block_lt_of_cell? w _ z)).trans z, (hb.cell (p := ⟨b, off + j * 4 + 3, none⟩) (World.block_lt_of_cell? w _ u)).trans u⟩
end Go.Proofs.YtoanhjjigbjecaaGreatDoor

namespace Go.Proofs.YtoanhjjigbjecaaGreatDoor
open Go.RowKit

def actCells (acts : List ActD) : List Value := acts.flatMap actEnc
theorem actCells_length (acts : List ActD) : (actCells acts).length = acts.length * 4 := row_length actEnc 4 (fun _ => rfl) acts
theorem actCells_take (acts : List ActD) (k : Nat) (h : k < acts.length) : actCells (acts.take (k + 1)) = actCells (acts.take k) ++ actEnc acts[k] := by
  rw [List.take_succ_eq_append_getElem h, actCells, actCells, List.flatMap_append]
  simp
theorem actsAt_of {w : World} {g : Nat} {t : TypeId} {acts : List ActD} {r : List Value} (h : BlockIs w g t (actCells acts ++ r)) : ActsAt w (some ⟨g, 0, none⟩) acts := by
  intro _
  refine ⟨g, 0, rfl, fun j hj => ?_⟩
  rw [Nat.zero_add]
  exact ⟨h.cell (row_at actEnc 4 (fun _ => rfl) acts r j 0 hj (by omega)), h.cell (row_at actEnc 4 (fun _ => rfl) acts r j 1 hj (by omega)), h.cell (row_at actEnc 4 (fun _ => rfl) acts r j 2 hj (by omega)), h.cell (row_at actEnc 4 (fun _ => rfl) acts r j 3 hj (by omega))⟩
theorem acts_of {w : World} {g : Nat} {t : TypeId} {acts : List ActD} (h : BlockIs w g t (actCells acts)) : ActsAt w (some ⟨g, 0, none⟩) acts := actsAt_of (r := []) (by rw [List.append_nil]; exact h)
end Go.Proofs.YtoanhjjigbjecaaGreatDoor

namespace Go.Proofs.YtoanhjjigbjecaaGreatDoor
open Go.RowKit

theorem actR_info : (Tryz.prog.info? 74).map (fun i => (i.zero, i.size, i.bytes)) = some (some (.agg #[.int .i64 0, .string ByteArray.empty, .string ByteArray.empty, .string ByteArray.empty]), 4, 56) := by kernel_rfl
theorem actR_one (a : ActD) : ∀ u ∈ actEnc a, u.oneCell' = true := by
  intro u hu
  simp only [actEnc, List.mem_cons, List.not_mem_nil, or_false] at hu
  rcases hu with rfl | rfl | rfl | rfl <;> rfl
theorem actR_all (l : List ActD) : ∀ u ∈ actCells l, u.oneCell' = true := by
  intro u hu
  obtain ⟨a, _, h⟩ := List.mem_flatMap.1 hu
  exact actR_one a u h
theorem actR_snoc (l : List ActD) (a : ActD) : actCells (l ++ [a]) = actCells l ++ actEnc a := by simp [actCells]
theorem actR_append (l m : List ActD) : actCells (l ++ m) = actCells l ++ actCells m := by simp [actCells]
theorem actR_below {w w2 : World} {base n : Nat} {v : Value} {xs : List Value} (h : w.ownsRow base 74 4 v n xs) (hb : Below w.heap.size w w2) : w2.ownsRow base 74 4 v n xs := by
  refine h.kept (grown_of_below hb none) ?_
  cases v.ownBlock with
  | none => exact Or.inl rfl
  | some g => exact Or.inr (by simp)
theorem actR_block {w : World} {base n j : Nat} {v : Value} {xs : List Value} (h : w.ownsRow base 74 4 v n xs) (hv : v.ownBlock = some j) : base ≤ j ∧ ∃ cs, BlockIs w j 74 cs := by
  rcases h.2 with ⟨rfl, _⟩ | ⟨g, cap, cur, rfl, hb, hh, _⟩
  · simp [Value.ownBlock] at hv
  · have : g = j := by simpa [Value.ownBlock] using hv
    subst this
    exact ⟨hb, cur.toList, by unfold BlockIs; rw [hh]⟩
/-- a block of another type stands where a row of acts grows -/
theorem blk_row {w w1 : World} {base n g : Nat} {t : TypeId} {v : Value} {xs cs : List Value} (h : BlockIs w g t cs) (hr : w.ownsRow base 74 4 v n xs) (hg : w.grownBy w1 v.ownBlock) (ht : t ≠ 74) : BlockIs w1 g t cs := by
  have hlt := h.lt
  have h0 := h
  unfold BlockIs at h ⊢
  rw [hg.block g hlt ?_]
  · exact h
  · intro e
    obtain ⟨_, cs2, h2⟩ := actR_block hr e.symm
    unfold BlockIs at h2
    rw [h] at h2
    simp only [Option.some.injEq, Obj.cells.injEq] at h2
    exact ht h2.2.1
theorem below_row {w w1 w2 : World} {m base n : Nat} {v : Value} {xs : List Value} (h : Below m w w1) (hr : w1.ownsRow base 74 4 v n xs) (hg : w1.grownBy w2 v.ownBlock) (hb : m ≤ base) (hm : m ≤ w1.heap.size) : Below m w w2 :=
  h.grown hg hm (fun k e => by have := (actR_block hr e).1; omega)
theorem actR_nil (w : World) (m : Nat) (hm : m ≤ w.heap.size) : World.ownsRow (w.alloc (.cells #[] 74)) m 74 4 (.slice (some ⟨w.heap.size, 0, none⟩) 0 0) 0 (actCells []) :=
  row_down (World.ownsRow_made w (size := 4) (e := 74) #[] 0 (Nat.le_refl _) (Nat.zero_le _) rfl) hm
/-- a row of acts that is laid at once -/
theorem actR_made {W : World} {g m : Nat} {A : List ActD} (h : BlockIs W g 74 (actCells A)) (hm : m ≤ g) (hl : A.length ≤ 1000000) : W.ownsRow m 74 4 (.slice (some ⟨g, 0, none⟩) A.length A.length) A.length (actCells A) :=
  ⟨actCells_length A, Or.inr ⟨g, A.length, (actCells A).toArray, rfl, hm, h, Nat.le_refl _, by unfold maxLen; omega, by simp [actCells_length], by rw [List.toList_toArray, List.take_of_length_le (by rw [actCells_length]; exact Nat.le_refl _)]⟩⟩
/-- an act that is laid by itself -/
theorem actR_new (w : World) (a : ActD) : ∀ j u, (actEnc a)[j]? = some u → (w.alloc (.cells #[.int .i64 a.kind, .string a.name, .string a.text, .string a.to] 74)).cell? ((⟨w.heap.size, 0, none⟩ : Addr).add j) = some u := by
  intro j u hu
  rw [Addr.add_lit, Nat.zero_add]
  exact (show BlockIs _ _ 74 (actEnc a) from heap_alloc_new w _).cell hu
/-- acts behind a row of the call's own -/
theorem append_acts {W : World} {v : Value} {base base2 c : Nat} {L M : List ActD} {ao : Option Addr} (hn : L.length + M.length ≤ 2097152) (hbase : base ≤ W.heap.size) (hr : W.ownsRow base 74 4 v L.length (actCells L)) (hM : W.ownsRow base2 74 4 (.slice ao M.length c) M.length (actCells M)) :
    ∃ v' W', (Builtin.append_ #[37, 37] 37 #[v, .slice ao M.length c]).run Tryz.prog W = .ok v' W' ∧ W'.ownsRow base 74 4 v' (L ++ M).length (actCells (L ++ M)) ∧ W.grownBy W' v.ownBlock := by
  obtain ⟨i0, hi, hz0, hz1, hz2⟩ := info_parts actR_info
  rw [List.length_append, actR_append]
  rcases hM.2 with ⟨hv, h0⟩ | ⟨g, cp, cur, hv, hgb, hh, hle, hmx, hsz, ht⟩
  · have hM0 : M = [] := List.eq_nil_of_length_eq_zero h0
    subst hM0
    simp only [Value.slice.injEq] at hv
    obtain ⟨rfl, _, rfl⟩ := hv
    refine ⟨v, W, ?_, by simpa [actCells] using hr, World.grownBy.refl _ _⟩
    obtain ⟨va, vc, rfl⟩ := row_shape hr
    have hlc : L.length ≤ vc := by
      rcases hr.2 with ⟨hq, hz⟩ | ⟨_, cp, _, hq, _, _, hle, _⟩
      · omega
      · simp only [Value.slice.injEq] at hq
        omega
    cases va <;> simp [Builtin.append_, run_underlying Tryz.underlying37, sizeOf, typeInfo, hi, Builtin.lenOf, Builtin.firstCells, storeCells, hlc]
  · simp only [Value.slice.injEq] at hv
    obtain ⟨rfl, _, rfl⟩ := hv
    have hnews : ∀ j u, (actCells M)[j]? = some u → W.cell? ((⟨g, 0, none⟩ : Addr).add j) = some u := by
      intro j u hu
      rw [Addr.add_lit, Nat.zero_add]
      have hb : BlockIs W g 74 cur.toList := by unfold BlockIs; rw [hh]
      refine hb.cell ?_
      rw [← ht] at hu
      have hj : j < M.length * 4 := by
        have := (List.getElem?_eq_some_iff.1 hu).1
        rw [List.length_take] at this
        omega
      rw [List.getElem?_take_of_lt hj] at hu
      exact hu
    obtain ⟨v', W', h1, h2, h3, _⟩ := run_append_own (P := Tryz.prog) W base 37 37 74 i0 _ 4 56 Tryz.underlying37 hi hz0 hz1 hz2 rfl (by decide) v L.length _ hr ⟨g, 0, none⟩ M.length c (actCells M) (actCells_length M) hnews (actR_all M) (by unfold maxLen; omega) (by omega) hbase
    exact ⟨v', W', h1, h2, h3⟩
theorem wpList_append_acts {w : World} {ops : Array Oper} {rest : List Oper} {o : Oper} {a : Act} {Q : Exit → Act → World → Prop} (hgd : o.guard = none) (s x : Operand)
    (ho : o.op = .call { callee := .builtin .append, args := #[s, x], argTypes := #[37, 37] }) (hty : o.type = 37) {v : Value} {base base2 c m N : Nat} {L M : List ActD} {ao : Option Addr} (hs : a.eval s = v) (hx : a.eval x = .slice ao m c)
    (hm : M.length = m) (hN : (L ++ M).length = N) (hn : N ≤ 2097152) (hbase : base ≤ w.heap.size) (hr : w.ownsRow base 74 4 v L.length (actCells L)) (hM : w.ownsRow base2 74 4 (.slice ao m c) m (actCells M))
    (h : ∀ va vc w1, w1.ownsRow base 74 4 (.slice va N vc) N (actCells (L ++ M)) → w.grownBy w1 v.ownBlock → wpList Tryz.prog ops Q rest (a.put o.dst (.slice va N vc)) w1) : wpList Tryz.prog ops Q (o :: rest) a w := by
  subst hm hN
  obtain ⟨v', W', hrun, h2, h3⟩ := append_acts (c := c) (by rw [← List.length_append]; exact hn) hbase hr hM
  obtain ⟨va, vc, rfl⟩ := row_shape h2
  refine wpList_plain hgd fun K hK => ?_
  unfold Oper.wp
  simp [execOp, ho, hty, resolve, invoke, builtin, hs, hx, hrun, Result.andThen]
  have h4 := h va vc W' h2 h3
  rw [List.length_append] at h4
  exact hK _ _ h4

/-- an act that drops a file -/
def dropA (name : ByteArray) : ActD := ⟨4, name, ⟨#[]⟩, ⟨#[]⟩⟩
/-- the acts that drop the files of some names -/
def dropsOf (p : ByteArray → Bool) (l : List FileD) : List ActD := (l.filter fun f => p f.name).map fun f => dropA f.name
theorem dropsOf_step {p : ByteArray → Bool} {l : List FileD} {k : Nat} (hk : k < l.length) : dropsOf p (l.take (k + 1)) = if p l[k].name = true then dropsOf p (l.take k) ++ [dropA l[k].name] else dropsOf p (l.take k) := by
  unfold dropsOf
  rw [List.take_succ_eq_append_getElem hk, List.filter_append, List.map_append]
  by_cases h : p l[k].name = true
  · simp [h]
  · simp [h]
theorem dropsOf_length (p : ByteArray → Bool) (l : List FileD) : (dropsOf p l).length ≤ l.length := by
  unfold dropsOf
  rw [List.length_map]
  exact List.length_filter_le _ _
end Go.Proofs.YtoanhjjigbjecaaGreatDoor

namespace Go.Proofs.YtoanhjjigbjecaaGreatDoor
open Go.RowKit

/-- the bytes that figures, two by two, make -/
def unh : List UInt8 → List UInt8
  | a :: b :: r => UInt8.ofNat (16 * lv (a.toNat : Int) + lv (b.toNat : Int)).toNat :: unh r
  | _ => []

theorem unh_snoc2 (a b : UInt8) : ∀ (n : Nat) (l : List UInt8), l.length = 2 * n → unh (l ++ [a, b]) = unh l ++ unh [a, b]
  | 0, l, h => by
    have : l = [] := List.eq_nil_of_length_eq_zero (by omega)
    subst this; rfl
  | n + 1, l, h => by
    match l, h with
    | x :: y :: r, h =>
      have ih := unh_snoc2 a b n r (by simp at h; omega)
      simp [unh, ih]

theorem unh_length : ∀ (n : Nat) (l : List UInt8), l.length = 2 * n → (unh l).length = n
  | 0, l, h => by
    have : l = [] := List.eq_nil_of_length_eq_zero (by omega)
    subst this; rfl
  | n + 1, l, h => by
    match l, h with
    | x :: y :: r, h =>
      have ih := unh_length n r (by simp at h; omega)
      simp [unh, ih]

theorem take_snoc2 (s : ByteArray) (k : Nat) (h : k + 1 < s.size) : s.data.toList.take (k + 2) = s.data.toList.take k ++ [s[k], s[k + 1]] := by
  rw [take_snoc s (k + 1) h, take_snoc s k (by omega)]
  simp

theorem unh_step {s : ByteArray} {k : Nat} {w wr w1 : World} {v v' : Value} {B : Obj} (hk : 2 * k + 1 < s.size) (h1 : 0 ≤ lv (s[2 * k].toNat : Int)) (h2 : 0 ≤ lv (s[2 * k + 1].toNat : Int)) (hown : wr.ownsRow w.heap.size 5 1 v k (cs (unh (s.data.toList.take (2 * k)))))
    (hown' : w1.ownsRow w.heap.size 5 1 v' (k + 1) (cs (unh (s.data.toList.take (2 * k))) ++ [.int .u8 (16 * lv (s[2 * k].toNat : Int) + lv (s[2 * k + 1].toNat : Int))])) (hgrow : (wr.alloc B).grownBy w1 v.ownBlock) (hb : Below w.heap.size w wr) :
    w1.ownsRow w.heap.size 5 1 v' (k + 1) (cs (unh (s.data.toList.take (2 * (k + 1))))) ∧ Below w.heap.size w w1 := by
  refine ⟨?_, (hb.alloc hb.size _).grown hgrow (by have := hb.size; simp; omega) (fun j hj => (hown.lt j hj).1)⟩
  have b1 := lv_bd (s[2 * k].toNat : Int)
  have b2 := lv_bd (s[2 * k + 1].toNat : Int)
  have e : [Value.int .u8 (16 * lv (s[2 * k].toNat : Int) + lv (s[2 * k + 1].toNat : Int))] = cs (unh [s[2 * k], s[2 * k + 1]]) := by
    rw [cs_one (by omega) (by omega)]
    simp [unh]
  rw [e, ← cs_append, ← unh_snoc2 _ _ k _ (take_len s (2 * k) (by omega)), ← take_snoc2 s (2 * k) hk] at hown'
  exact hown'

theorem Figs.snoc2 {s : ByteArray} {k : Nat} (hk : 2 * k + 1 < s.size) (h : Figs 16 (s.data.toList.take (2 * k))) (h1 : 0 ≤ lv (s[2 * k].toNat : Int)) (h2 : 0 ≤ lv (s[2 * k + 1].toNat : Int)) : Figs 16 (s.data.toList.take (2 * (k + 1))) := by
  have b1 := lv_bd (s[2 * k].toNat : Int)
  have b2 := lv_bd (s[2 * k + 1].toNat : Int)
  show Figs 16 (s.data.toList.take (2 * k + 2))
  rw [take_snoc2 s (2 * k) hk]
  intro x hx
  rcases List.mem_append.1 hx with hx | hx
  · exact h x hx
  · simp only [List.mem_cons, List.not_mem_nil, or_false] at hx
    rcases hx with hx | hx <;> subst hx <;> constructor <;> omega

theorem not_Figs {s : ByteArray} {k : Nat} (hk : k < s.size) (h : lv (s[k].toNat : Int) < 0) : ¬ Figs 16 s.data.toList := by
  intro hall
  have := hall s[k] (mem_at s k hk)
  omega
end Go.Proofs.YtoanhjjigbjecaaGreatDoor

namespace Go.Proofs.YtoanhjjigbjecaaGreatDoor
open Go.RowKit

theorem figs_hex (l : List UInt8) : Figs 16 (hexOf l) := by
  induction l with
  | nil => simp [hexOf, Figs]
  | cons b l ih =>
    have hb := b.toNat_lt
    intro c hc
    simp only [hexOf, List.mem_cons] at hc
    have one : ∀ x : Int, 0 ≤ x → x ≤ 15 → 0 ≤ lv ((UInt8.ofNat (fig x).toNat).toNat : Int) ∧ lv ((UInt8.ofNat (fig x).toNat).toNat : Int) < (16 : Nat) := by
      intro x h0 h1
      have hf := fig_bd h0 h1
      have e : ((UInt8.ofNat (fig x).toNat).toNat : Int) = fig x := by rw [UInt8.toNat_ofNat']; omega
      have := (fig_lv (c := fig x) (j := x) h0 h1).1 rfl
      rw [e, this]
      omega
    rcases hc with hc | hc | hc
    · subst hc; exact one _ (by omega) (by omega)
    · subst hc; exact one _ (by omega) (by omega)
    · exact ih c hc

theorem unh_hex (l : List UInt8) : unh (hexOf l) = l := by
  induction l with
  | nil => rfl
  | cons b l ih =>
    have hb := b.toNat_lt
    have one : ∀ x : Int, 0 ≤ x → x ≤ 15 → lv ((UInt8.ofNat (fig x).toNat).toNat : Int) = x := by
      intro x h0 h1
      have hf := fig_bd h0 h1
      have e : ((UInt8.ofNat (fig x).toNat).toNat : Int) = fig x := by rw [UInt8.toNat_ofNat']; omega
      rw [e]
      exact (fig_lv (c := fig x) (j := x) h0 h1).1 rfl
    simp only [hexOf, unh, ih]
    rw [one _ (by omega) (by omega), one _ (by omega) (by omega)]
    congr 1
    apply UInt8.toNat_inj.1
    rw [UInt8.toNat_ofNat']
    omega

theorem num_dd (n : Nat) : num (dd n) = n := by
  induction n using Nat.strongRecOn with
  | _ n ih =>
    by_cases h : n = 0
    · subst h; rw [dd_zero]; rfl
    · rw [dd_pos (by omega), num_snoc, ih (n / 10) (by omega), UInt8.toNat_ofNat']
      omega
theorem digits_dd (n : Nat) : Digits (dd n) := by
  induction n using Nat.strongRecOn with
  | _ n ih =>
    by_cases h : n = 0
    · subst h; rw [dd_zero]; simp [Digits]
    · rw [dd_pos (by omega)]
      refine (ih (n / 10) (by omega)).snoc ?_
      rw [UInt8.toNat_ofNat']
      omega
theorem dec_back (n : Nat) (hn : n ≤ 1000000000) : DecOk (dec n) ∧ num (dec n) = n ∧ (dec n).length ≤ 10 := by
  have hd : Digits (dec n) ∧ num (dec n) = n ∧ (dec n).length ≤ 10 := by
    unfold dec
    by_cases h : (n : Int) = 0
    · rw [if_pos h]
      have e : n = 0 := by omega
      subst e
      refine ⟨?_, rfl, by simp⟩
      intro c hc
      simp at hc
      subst hc
      decide
    · rw [if_neg h, if_neg (by omega), Int.natAbs_natCast]
      exact ⟨digits_dd n, num_dd n, dd_len 10 n (by omega)⟩
  obtain ⟨h1, h2, h3⟩ := hd
  refine ⟨⟨h1, by omega, (dec_num _ h1).1 (by rw [h2])⟩, h2, h3⟩

theorem text_list (s : ByteArray) : (⟨s.data.toList.toArray⟩ : ByteArray) = s := by simp

/-- a short text is read back -/
theorem rs_back (t : ByteArray) (ht : t.size ≤ 20000) : rs (⟨(vb t.size).toArray⟩ ++ t) 0 = some ((vb t.size).length, (vb t.size).length + t.size) := by
  have hl : (⟨(vb t.size).toArray⟩ ++ t : ByteArray).data.toList = vb t.size ++ t.data.toList := by simp [ByteArray.data_append]
  have hsz : (⟨(vb t.size).toArray⟩ ++ t : ByteArray).size = (vb t.size).length + t.size := by
    rw [ByteArray.size_append]
    show (vb t.size).toArray.size + t.size = _
    simp
  have := rs_yes (s := ⟨(vb t.size).toArray⟩ ++ t) (a := 0) (n := t.size) (c := (vb t.size).length) (by omega) (by rw [hl]; simpa using rv_vb (n := t.size) (by omega) t.data.toList) ⟨ht, by omega⟩
  simpa using this
theorem extract_back (l : List UInt8) (t : ByteArray) : (⟨l.toArray⟩ ++ t : ByteArray).extract l.length (l.length + t.size) = t := by
  apply ByteArray.ext
  apply Array.toList_inj.1
  rw [extract_eq]
  have hl : (⟨l.toArray⟩ ++ t : ByteArray).data.toList = l ++ t.data.toList := by simp [ByteArray.data_append]
  have ht : t.data.toList.length = t.size := by simp
  rw [hl, List.drop_left, List.take_of_length_le (by omega)]
end Go.Proofs.YtoanhjjigbjecaaGreatDoor

namespace Go.Proofs.YtoanhjjigbjecaaGreatDoor
open Go.RowKit

/-- the number of a name: a letter and the figures of a number up to a limit -/
def nameNum (c : UInt8) (lim : Nat) (name : ByteArray) : Option Nat :=
  if num (name.data.toList.drop 1) ≤ lim ∧ name.data.toList = c :: dec (num (name.data.toList.drop 1)) then some (num (name.data.toList.drop 1)) else none
theorem nameNum_some {c : UInt8} {lim n : Nat} {name : ByteArray} (hl : lim ≤ 1000000000) : nameNum c lim name = some n ↔ n ≤ lim ∧ name.data.toList = c :: dec n := by
  unfold nameNum
  constructor
  · intro h
    split at h
    · rename_i q
      simp only [Option.some.injEq] at h
      subst h
      exact q
    · cases h
  · rintro ⟨h1, h2⟩
    have e : num (name.data.toList.drop 1) = n := by
      rw [h2]
      exact (dec_back n (by omega)).2.1
    rw [e, if_pos ⟨h1, h2⟩]
theorem nameNum_dec {c : UInt8} {lim : Nat} {name : ByteArray} {r : List UInt8} (h : name.data.toList = c :: r) (hd : DecOk r) (hl : num r ≤ lim) : nameNum c lim name = some (num r) := by
  unfold nameNum
  rw [h]
  simp only [List.drop_succ_cons, List.drop_zero]
  rw [if_pos ⟨hl, by rw [(dec_num r hd.1).2 ⟨hd.2.2.1, hd.2.2.2⟩]⟩]
theorem nameNum_not {c : UInt8} {lim : Nat} {name : ByteArray} (hl : lim ≤ 1000000000) (h : ∀ n, n ≤ lim → name.data.toList ≠ c :: dec n) : nameNum c lim name = none := by
  cases hq : nameNum c lim name with
  | none => rfl
  | some n =>
    have := (nameNum_some hl).1 hq
    exact absurd this.2 (h n this.1)
theorem nameNum_figs {c : UInt8} {lim : Nat} {name : ByteArray} {r : List UInt8} (hl : lim ≤ 1000000000) (h : name.data.toList = c :: r) (hd : ¬ (DecOk r ∧ num r ≤ lim ∧ r.length ≤ 10)) : nameNum c lim name = none := by
  refine nameNum_not hl fun n hn e => hd ?_
  rw [h, List.cons.injEq] at e
  rw [e.2]
  have := dec_back n (by omega)
  exact ⟨this.1, by omega, this.2.2⟩
theorem nameNum_head {c : UInt8} {lim : Nat} {name : ByteArray} (hl : lim ≤ 1000000000) (h : name.data.toList.head? ≠ some c) : nameNum c lim name = none := by
  refine nameNum_not hl fun n _ e => h ?_
  rw [e]
  rfl
theorem nameNum_short {c : UInt8} {lim : Nat} {name : ByteArray} (hl : lim ≤ 1000000000) (h : name.size < 2) : nameNum c lim name = none := by
  refine nameNum_not hl fun n hn e => ?_
  have h1 : name.data.toList.length = name.size := Array.length_toList
  rw [e, List.length_cons] at h1
  have := (dec_back n (by omega)).1.2.2.1
  exact this (List.eq_nil_of_length_eq_zero (by omega))
/-- the number's place in the answer -/
def nameAns (o : Option Nat) : Int := match o with
  | none => -1
  | some n => n
theorem name_of_list {name : ByteArray} {l : List UInt8} (h : name.data.toList = l) : name = ⟨l.toArray⟩ := by
  apply ByteArray.ext
  apply Array.toList_inj.1
  simpa using h
end Go.Proofs.YtoanhjjigbjecaaGreatDoor

namespace Go.Proofs.YtoanhjjigbjecaaGreatDoor
open Go.RowKit

theorem less_irr : ∀ a : List UInt8, Op.bytesLess a a = false
  | [] => rfl
  | x :: a => by simp [Op.bytesLess, less_irr a]
theorem less_trans : ∀ (a b c : List UInt8), Op.bytesLess a b = true → Op.bytesLess b c = true → Op.bytesLess a c = true
  | [], b, c, h1, h2 => by
    cases c with
    | nil => cases b <;> simp [Op.bytesLess] at h2
    | cons z c => rfl
  | x :: a, [], c, h1, _ => by simp [Op.bytesLess] at h1
  | x :: a, y :: b, [], _, h2 => by simp [Op.bytesLess] at h2
  | x :: a, y :: b, z :: c, h1, h2 => by
    simp only [Op.bytesLess, Bool.or_eq_true, Bool.and_eq_true, decide_eq_true_eq, beq_iff_eq] at h1 h2 ⊢
    rcases h1 with h1 | ⟨h1, h1'⟩
    · rcases h2 with h2 | ⟨h2, h2'⟩
      · exact Or.inl (UInt8.lt_trans h1 h2)
      · subst h2; exact Or.inl h1
    · subst h1
      rcases h2 with h2 | ⟨h2, h2'⟩
      · exact Or.inl h2
      · exact Or.inr ⟨h2, less_trans a b c h1' h2'⟩
theorem textLt_trans {a b c : ByteArray} (h1 : textLt a b = true) (h2 : textLt b c = true) : textLt a c = true := less_trans _ _ _ h1 h2
theorem textLt_irr (a : ByteArray) : textLt a a = false := less_irr _

/-- the files of a right disk ascend -/
theorem disk_pairs {l : List FileD} (h : diskOk l = true) : l.Pairwise fun f g => textLt f.name g.name = true := by
  rw [diskOk, Bool.and_eq_true] at h
  have hstep : ∀ j (hj : j + 1 < l.length), textLt (l[j]'(by omega)).name l[j + 1].name = true := by
    intro j hj
    have := rightTo_down h.2 (show j + 1 + 1 ≤ l.length by omega)
    rw [rightTo_step hj, Bool.and_eq_true, Bool.and_eq_true, behind_step hj] at this
    exact this.2.2
  rw [List.pairwise_iff_getElem]
  intro i j hi hj hij
  induction j with
  | zero => omega
  | succ j ih =>
    rcases Nat.lt_or_ge i j with q | q
    · exact textLt_trans (ih (by omega) q) (hstep j hj)
    · obtain rfl : i = j := by omega
      exact hstep i hj
theorem filter_two {α : Type} {R : α → α → Prop} {p q : α → Bool} (hd : ∀ a, p a = true → q a = false) (hR : ∀ a b, q a = true → p b = true → ¬ R a b) : ∀ (l : List α), l.Pairwise R → l.filter (fun a => p a || q a) = l.filter p ++ l.filter q
  | [], _ => rfl
  | x :: l, h => by
    have h1 := List.pairwise_cons.1 h
    have ih := filter_two hd hR l h1.2
    cases hp : p x with
    | true => simp [hp, hd x hp, ih]
    | false =>
      cases hq : q x with
      | false => simp [hp, hq, ih]
      | true =>
        have hn : l.filter p = [] := by
          rw [List.filter_eq_nil_iff]
          intro b hb hpb
          exact hR x b hq hpb (h1.1 b hb)
        simp [hp, hq, ih, hn]
/-- the name under which a snapshot is written -/
def sNew : ByteArray := ⟨#[115, 43]⟩
def isNew (nm : ByteArray) : Bool := nm.toList == [115, 43]
/-- another snapshot's name -/
def isOther (ix : Int) (nm : ByteArray) : Bool := match nameNum 115 1000000 nm with
  | none => false
  | some n => !((n : Int) == ix)
theorem isOther_none {ix : Int} {nm : ByteArray} (h : nameNum 115 1000000 nm = none) : isOther ix nm = false := by rw [isOther, h]
theorem isOther_some {ix : Int} {nm : ByteArray} {n : Nat} (h : nameNum 115 1000000 nm = some n) : isOther ix nm = !((n : Int) == ix) := by rw [isOther, h]
theorem isNew_iff {nm : ByteArray} : isNew nm = true ↔ nm.data.toList = [115, 43] := by
  rw [isNew, beq_iff_eq, ByteArray.toList_eq]
theorem dec_first (n : Nat) (hn : n ≤ 1000000000) : ∃ d r, dec (n : Int) = d :: r ∧ 48 ≤ d.toNat := by
  have h := dec_back n hn
  match hq : dec (n : Int), h.1.2.2.1 with
  | d :: r, _ => exact ⟨d, r, rfl, (h.1.1 d (by rw [hq]; simp)).1⟩
theorem other_behind {ix : Int} {nm nn : ByteArray} (h : isOther ix nm = true) (hn : isNew nn = true) : textLt nn nm = true := by
  cases hq : nameNum 115 1000000 nm with
  | none => rw [isOther_none hq] at h; cases h
  | some n =>
    have h2 := (nameNum_some (by omega)).1 hq
    obtain ⟨d, r, h3, h4⟩ := dec_first n (by omega)
    rw [textLt, ByteArray.toList_eq, ByteArray.toList_eq, isNew_iff.1 hn, h2.2, h3]
    simp only [Op.bytesLess, Bool.or_eq_true, Bool.and_eq_true, decide_eq_true_eq, beq_iff_eq]
    refine Or.inr ⟨trivial, Or.inl ?_⟩
    rw [UInt8.lt_iff_toNat_lt]
    show 43 < d.toNat
    omega
theorem new_not_other {ix : Int} {nm : ByteArray} (h : isNew nm = true) : isOther ix nm = false := by
  cases hq : isOther ix nm with
  | false => rfl
  | true =>
    have := other_behind hq h
    rw [textLt_irr] at this
    cases this
/-- the act that drops what was begun, if it is there -/
def newA (l : List FileD) : List ActD := if l.any (fun f => isNew f.name) = true then [dropA sNew] else []
theorem dropsOf_new {l : List FileD} (h : l.Pairwise fun f g => textLt f.name g.name = true) : dropsOf isNew l = newA l := by
  induction l with
  | nil => rfl
  | cons x l ih =>
    have h1 := List.pairwise_cons.1 h
    have ih := ih h1.2
    cases hp : isNew x.name with
    | false =>
      unfold dropsOf newA at ih ⊢
      simp only [List.filter_cons, hp, List.any_cons, Bool.false_or, Bool.false_eq_true, if_false]
      exact ih
    | true =>
      have hn : l.filter (fun f => isNew f.name) = [] := by
        rw [List.filter_eq_nil_iff]
        intro b hb hpb
        have h2 := h1.1 b hb
        have e : x.name = b.name := by
          apply ByteArray.ext
          apply Array.toList_inj.1
          rw [isNew_iff.1 hp, isNew_iff.1 hpb]
        rw [e, textLt_irr] at h2
        cases h2
      have e : x.name = sNew := by
        apply ByteArray.ext
        apply Array.toList_inj.1
        rw [isNew_iff.1 hp]
        rfl
      have h2 : (x :: l).filter (fun f => isNew f.name) = [x] := by rw [List.filter_cons, if_pos hp, hn]
      have h3 : (x :: l).any (fun f => isNew f.name) = true := by rw [List.any_cons, hp]; rfl
      rw [dropsOf, newA, h2, h3, if_pos rfl, List.map_cons, List.map_nil, e]
theorem dropsOf_both {l : List FileD} (ix : Int) (h : l.Pairwise fun f g => textLt f.name g.name = true) : dropsOf (fun nm => isNew nm || isOther ix nm) l = newA l ++ dropsOf (isOther ix) l := by
  rw [← dropsOf_new h, dropsOf, filter_two (R := fun f g => textLt f.name g.name = true) (p := fun f => isNew f.name) (q := fun f => isOther ix f.name) (fun a ha => new_not_other ha) (fun a b ha hb hR => ?_) l h, List.map_append]
  · rfl
  · have h2 := textLt_trans hR (other_behind ha hb)
    rw [textLt_irr] at h2
    cases h2
theorem newA_length (l : List FileD) : (newA l).length ≤ 1 := by
  unfold newA
  split <;> simp
end Go.Proofs.YtoanhjjigbjecaaGreatDoor

namespace Go.Proofs.YtoanhjjigbjecaaGreatDoor
open Go.RowKit

def addA (t : ByteArray) : ActD := ⟨1, sNew, t, ⟨#[]⟩⟩
def keepA : ActD := ⟨2, sNew, ⟨#[]⟩, ⟨#[]⟩⟩
def moveA (to : ByteArray) : ActD := ⟨3, sNew, ⟨#[]⟩, to⟩
/-- how many chunks a text has -/
def chunks (n : Nat) : Nat := (n + 59) / 60
def chunkAt (t : ByteArray) (k : Nat) : ByteArray := t.extract (60 * k) (min (60 * k + 60) t.size)
def chunksTo (t : ByteArray) (k : Nat) : List ActD := (List.range k).map fun j => addA (chunkAt t j)
theorem chunksTo_length (t : ByteArray) (k : Nat) : (chunksTo t k).length = k := by simp [chunksTo]
theorem chunksTo_succ (t : ByteArray) (k : Nat) : chunksTo t (k + 1) = chunksTo t k ++ [addA (chunkAt t k)] := by simp [chunksTo, List.range_succ]
theorem chunks_lt {n k : Nat} (h : k < chunks n) : 60 * k < n := by unfold chunks at h; omega
theorem chunks_ge {n k : Nat} (h : chunks n ≤ k) : n ≤ 60 * k := by unfold chunks at h; omega
theorem chunks_le (n : Nat) : chunks n ≤ n := by unfold chunks; omega
/-- what is left behind k chunks -/
def restAt (t : ByteArray) (k : Nat) : ByteArray := t.extract (60 * k) t.size
theorem restAt_zero (t : ByteArray) : restAt t 0 = t := by
  apply ByteArray.ext
  apply Array.toList_inj.1
  rw [restAt, extract_eq]
  simp only [Nat.mul_zero, List.drop_zero, Nat.sub_zero]
  exact List.take_of_length_le (by have : t.data.toList.length = t.size := Array.length_toList; omega)
theorem restAt_size (t : ByteArray) (k : Nat) : (restAt t k).size = t.size - 60 * k := by rw [restAt, ByteArray.size_extract]; omega
theorem restAt_chunk (t : ByteArray) (k : Nat) {n : Nat} (hn : n = min 60 (t.size - 60 * k)) (hk : 60 * k ≤ t.size) : (restAt t k).extract 0 n = chunkAt t k := by
  apply ByteArray.ext
  apply Array.toList_inj.1
  have hl : t.data.toList.length = t.size := Array.length_toList
  rw [restAt, chunkAt, extract_eq, extract_eq, extract_eq, List.drop_zero, List.take_take]
  congr 1
  omega
theorem restAt_next (t : ByteArray) (k : Nat) {n : Nat} (hn : n = min 60 (t.size - 60 * k)) (hk : 60 * k ≤ t.size) : (restAt t k).extract n (restAt t k).size = restAt t (k + 1) := by
  apply ByteArray.ext
  apply Array.toList_inj.1
  have hl : t.data.toList.length = t.size := Array.length_toList
  rw [extract_eq, restAt_size, restAt, restAt, extract_eq, extract_eq]
  rw [List.take_of_length_le (i := t.size - 60 * k) (by rw [List.length_drop]; omega), List.drop_drop]
  rw [List.take_of_length_le (by rw [List.length_drop]; omega), List.take_of_length_le (by rw [List.length_drop]; omega)]
  by_cases h : 60 ≤ t.size - 60 * k
  · congr 1
    omega
  · rw [List.drop_eq_nil_of_le (by omega), List.drop_eq_nil_of_le (by omega)]
/-- the acts that write a snapshot -/
def snapActs (l : List FileD) (ix tm : Int) (zs : List Int) (bd : ByteArray) : List ActD × Bool :=
  if snapOk ix tm zs bd = true ∧ diskOk l = true then (newA l ++ chunksTo (snapText ix tm zs bd).1 (chunks (snapText ix tm zs bd).1.size) ++ [keepA, moveA (sname ix)] ++ dropsOf (isOther ix) l, true) else ([], false)
theorem snapActs_no {l : List FileD} {ix tm : Int} {zs : List Int} {bd : ByteArray} (h : ¬ (snapOk ix tm zs bd = true ∧ diskOk l = true)) : snapActs l ix tm zs bd = ([], false) := by rw [snapActs, if_neg h]
theorem snapActs_yes {l : List FileD} {ix tm : Int} {zs : List Int} {bd t : ByteArray} (h1 : snapOk ix tm zs bd = true) (h2 : diskOk l = true) (ht : (snapText ix tm zs bd).1 = t) : snapActs l ix tm zs bd = (newA l ++ chunksTo t (chunks t.size) ++ [keepA, moveA (sname ix)] ++ dropsOf (isOther ix) l, true) := by rw [snapActs, if_pos ⟨h1, h2⟩, ht]
theorem snapText_ok {ix tm : Int} {zs : List Int} {bd : ByteArray} : (snapText ix tm zs bd).2 = true ↔ snapOk ix tm zs bd = true := by
  by_cases h : snapOk ix tm zs bd = true
  · rw [snapText_yes h]; simp [h]
  · rw [snapText_no h]; simp [h]
theorem snapText_size {ix tm : Int} {zs : List Int} {bd : ByteArray} : (snapText ix tm zs bd).1.size ≤ 20000 := by
  by_cases h : snapOk ix tm zs bd = true
  · rw [snapText_yes h]
    have := (snapOk_iff.1 h).2.2
    show (sealOf _).size ≤ 20000
    rw [sealOf_size]
    omega
  · rw [snapText_no h]; exact Nat.zero_le _
theorem snapActs_few {l : List FileD} {ix tm : Int} {zs : List Int} {bd : ByteArray} : (snapActs l ix tm zs bd).1.length ≤ 20040 := by
  unfold snapActs
  split
  · rename_i h
    have hd := h.2
    rw [diskOk, Bool.and_eq_true, decide_eq_true_eq] at hd
    simp only [List.length_append, chunksTo_length, List.length_cons, List.length_nil]
    have h1 := newA_length l
    have h2 := dropsOf_length (isOther ix) l
    have h3 := chunks_le (snapText ix tm zs bd).1.size
    have h4 := snapText_size (ix := ix) (tm := tm) (zs := zs) (bd := bd)
    omega
  · exact Nat.zero_le _
end Go.Proofs.YtoanhjjigbjecaaGreatDoor

namespace Go.Proofs.YtoanhjjigbjecaaGreatDoor
open Go.RowKit

structure SnapD where
  ix : Nat
  tm : Nat
  conf : List Int
  body : ByteArray

/-- what is read of what was sealed -/
def readSnapIn (t : ByteArray) : Option SnapD :=
  match rv (t.data.toList.drop 0) with
  | none => none
  | some (ix, c1) => if 1000000 < ix then none else
    match rv (t.data.toList.drop c1) with
    | none => none
    | some (tm, c2) => if 100000 < tm then none else
      match rs t ((c1 + c2 : Nat) : Int) with
      | none => none
      | some (a, b) => if confOk (intsOf (t.extract a b).data.toList) = true then
          match rs t (b : Int) with
          | none => none
          | some (a', b') => if b' = t.size then some ⟨ix, tm, intsOf (t.extract a b).data.toList, t.extract a' b'⟩ else none
        else none
/-- a text that is sealed, and no longer than a text may be -/
def snapSealed (s : ByteArray) : Bool := decide (4 ≤ s.size ∧ s.size ≤ 20000 ∧ s.data.toList.drop (s.size - 4) = four (sumOf (s.data.toList.take (s.size - 4))))
theorem snapSealed_iff {s : ByteArray} : snapSealed s = true ↔ Uns s ∧ s.size ≤ 20000 := by
  rw [snapSealed, decide_eq_true_eq, Uns]
  constructor
  · rintro ⟨h1, h2, h3⟩
    exact ⟨⟨h1, by omega, h3⟩, h2⟩
  · rintro ⟨⟨h1, _, h3⟩, h2⟩
    exact ⟨h1, h2, h3⟩
def readSnap (s : ByteArray) : Option SnapD := if snapSealed s = true then readSnapIn (s.extract 0 (s.size - 4)) else none

def takeStN (s : ByteArray) (n : Nat) : Option Nat → Option Nat
  | none => none
  | some k => if k + n ≤ s.size then some (k + n) else none
def takeTxtN (s : ByteArray) (n : Nat) : Option Nat → ByteArray
  | none => ByteArray.empty
  | some k => if k + n ≤ s.size then s.extract k (k + n) else ByteArray.empty
def varSt' (s : ByteArray) : Option Nat → Option Nat
  | none => none
  | some k => (rv (s.data.toList.drop k)).map fun p => k + p.2
def varNum' (s : ByteArray) : Option Nat → Nat
  | none => 0
  | some k => match rv (s.data.toList.drop k) with
    | none => 0
    | some p => p.1
def shortSt (s : ByteArray) (o : Option Nat) : Option Nat := takeStN s (varNum' s o) (varSt' s o)
def shortTxt (s : ByteArray) (o : Option Nat) : ByteArray := takeTxtN s (varNum' s o) (varSt' s o)

/-- the other way: all is read, and held against what would be written -/
def askSnapIn (text t : ByteArray) (o : Option Nat) : Option SnapD :=
  let o1 := varSt' t o
  let o2 := varSt' t o1
  let o3 := shortSt t o2
  let o4 := shortSt t o3
  let c := (readConf (shortTxt t o2)).1
  let bd := shortTxt t o3
  if o4.isSome = true ∧ snapOk (varNum' t o) (varNum' t o1) c bd = true ∧ sealOf (snapIn (varNum' t o) (varNum' t o1) c bd) = text then some ⟨varNum' t o, varNum' t o1, c, bd⟩ else none

theorem varSt'_none (s : ByteArray) : varSt' s none = none := rfl
theorem shortSt_none (s : ByteArray) : shortSt s none = none := rfl
theorem ask_none (text t : ByteArray) : askSnapIn text t none = none := by
  unfold askSnapIn
  simp [varSt', shortSt, takeStN]

theorem short_read {s : ByteArray} {k : Nat} (hk : k ≤ s.size) (hs : s.size ≤ 20000) : rs s (k : Int) = (match shortSt s (some k) with | none => none | some e => some (e - (shortTxt s (some k)).size, e)) ∧
    ∀ a b, rs s (k : Int) = some (a, b) → shortSt s (some k) = some b ∧ shortTxt s (some k) = s.extract a b ∧ a ≤ b ∧ b ≤ s.size ∧ k ≤ a ∧ s.data.toList.drop k = (shortT (s.extract a b)).data.toList ++ s.data.toList.drop b := by
  cases h : rv (s.data.toList.drop k) with
  | none =>
    rw [rs_none hk h]
    refine ⟨by simp [shortSt, varSt', h, takeStN], fun a b e => by cases e⟩
  | some p =>
    obtain ⟨n, c⟩ := p
    have hf := rv_fits hk h
    have e1 : shortSt s (some k) = if k + c + n ≤ s.size then some (k + c + n) else none := by simp [shortSt, varSt', varNum', h, takeStN]
    have e2 : shortTxt s (some k) = if k + c + n ≤ s.size then s.extract (k + c) (k + c + n) else ByteArray.empty := by simp [shortTxt, varSt', varNum', h, takeTxtN]
    by_cases hb : k + c + n ≤ s.size
    · rw [rs_yes hk h ⟨by omega, hb⟩, e1, e2, if_pos hb, if_pos hb]
      have hz : (s.extract (k + c) (k + c + n)).size = n := by rw [ByteArray.size_extract]; omega
      refine ⟨by simp only [hz]; congr 2; omega, ?_⟩
      rintro a b e
      simp only [Option.some.injEq, Prod.mk.injEq] at e
      obtain ⟨rfl, rfl⟩ := e
      refine ⟨rfl, rfl, by omega, hb, by omega, ?_⟩
      obtain ⟨l1, l2⟩ := rv_text h
      rw [List.drop_drop] at l2
      rw [shortT, hz, ByteArray.data_append, Array.toList_append, List.append_assoc]
      show _ = vb n ++ _
      conv => lhs; rw [l2]
      congr 1
      rw [extract_eq, show k + c + n - (k + c) = n by omega]
      conv => lhs; rw [← List.take_append_drop n (s.data.toList.drop (k + c))]
      rw [List.drop_drop]
    · rw [rs_big hk h (by omega), e1, if_neg hb]
      exact ⟨rfl, fun a b e => by cases e⟩

theorem extract_all {s : ByteArray} (h : Uns s) : sealOf (s.extract 0 (s.size - 4)) = s := by
  apply ByteArray.ext
  apply Array.toList_inj.1
  rw [sealOf_list, head_list, ← h.2.2, List.take_append_drop]
theorem sealOf_inj {a b : ByteArray} (h : sealOf a = sealOf b) : a = b := by
  have h1 := sealOf_head a
  have h2 := sealOf_head b
  rw [h] at h1
  exact h1.symm.trans h2

theorem conf_back (s : ByteArray) : (⟨(confBytes (intsOf s.data.toList)).toArray⟩ : ByteArray) = s := by
  have : confBytes (intsOf s.data.toList) = s.data.toList := by
    simp only [confBytes, intsOf, List.map_map]
    conv => rhs; rw [← List.map_id s.data.toList]
    apply List.map_congr_left
    intro b _
    simp
  rw [this]

/-- both ways are one -/
theorem ask_read {text : ByteArray} (hu : Uns text) (h2 : text.size ≤ 20000) : askSnapIn text (text.extract 0 (text.size - 4)) (some 0) = readSnapIn (text.extract 0 (text.size - 4)) := by
  have hts : (text.extract 0 (text.size - 4)).size = text.size - 4 := by rw [ByteArray.size_extract]; have := hu.1; omega
  have hall := extract_all hu
  obtain ⟨t, ht⟩ : ∃ t, text.extract 0 (text.size - 4) = t := ⟨_, rfl⟩
  rw [ht] at hts hall ⊢
  have hl : t.data.toList.length = t.size := by simp
  unfold readSnapIn
  cases h1 : rv (t.data.toList.drop 0) with
  | none =>
    have o1 : varSt' t (some 0) = none := by rw [varSt', h1]; rfl
    simp only [askSnapIn, o1, varSt'_none, shortSt_none]
    rw [if_neg (by simp)]
  | some p1 =>
    obtain ⟨ix, c1⟩ := p1
    dsimp only
    have f1 := rv_fits (Nat.zero_le _) h1
    obtain ⟨_, x1⟩ := rv_text h1
    rw [List.drop_drop, Nat.zero_add] at x1
    have o1 : varSt' t (some 0) = some c1 := by rw [varSt', h1]; simp
    have n1 : varNum' t (some 0) = ix := by rw [varNum', h1]
    cases h3 : rv (t.data.toList.drop c1) with
    | none =>
      have o2 : varSt' t (some c1) = none := by rw [varSt', h3]; rfl
      simp only [askSnapIn, o1, n1, o2, shortSt_none]
      refine (if_neg (by simp)).trans ?_
      split <;> rfl
    | some p2 =>
      obtain ⟨tm, c2⟩ := p2
      dsimp only
      have f2 := rv_fits (show c1 ≤ t.size by omega) h3
      obtain ⟨_, x2⟩ := rv_text h3
      rw [List.drop_drop] at x2
      have o2 : varSt' t (some c1) = some (c1 + c2) := by rw [varSt', h3]; rfl
      have n2 : varNum' t (some c1) = tm := by rw [varNum', h3]
      have q2 := short_read (s := t) (k := c1 + c2) (by omega) (by omega)
      simp only [askSnapIn, o1, n1, o2, n2]
      cases h4 : rs t ((c1 + c2 : Nat) : Int) with
      | none =>
        have o3 : shortSt t (some (c1 + c2)) = none := by
          have := q2.1
          rw [h4] at this
          cases hx : shortSt t (some (c1 + c2)) with
          | none => rfl
          | some e => rw [hx] at this; cases this
        rw [o3, shortSt_none]
        refine (if_neg (by simp)).trans ?_
        split
        · rfl
        · split <;> rfl
      | some p3 =>
        obtain ⟨a, b⟩ := p3
        dsimp only
        obtain ⟨o3, t3, hab, hb, hka, x3⟩ := q2.2 a b h4
        have q3 := short_read (s := t) (k := b) hb (by omega)
        rw [o3, t3]
        cases hc : confOk (intsOf (t.extract a b).data.toList) with
        | false =>
          rw [readConf_no hc]
          have hn : ∀ x y z, ¬ snapOk x y ([] : List Int) z = true := by
            intro x y z
            rw [snapOk_iff]
            rintro ⟨q, _⟩
            cases q
          refine (if_neg (fun q => hn _ _ _ q.2.1)).trans ?_
          split
          · rfl
          · split <;> rfl
        | true =>
          rw [readConf_yes hc]
          dsimp only
          cases h5 : rs t (b : Int) with
          | none =>
            have o4 : shortSt t (some b) = none := by
              have := q3.1
              rw [h5] at this
              cases hx : shortSt t (some b) with
              | none => rfl
              | some e => rw [hx] at this; cases this
            rw [o4]
            refine (if_neg (by simp)).trans ?_
            split
            · rfl
            · split <;> rfl
          | some p4 =>
            obtain ⟨a', b'⟩ := p4
            dsimp only
            obtain ⟨o4, t4, hab', hb', hka', x4⟩ := q3.2 a' b' h5
            rw [o4, t4]
            have hin : t.data.toList = (snapIn ix tm (intsOf (t.extract a b).data.toList) (t.extract a' b')).data.toList ++ t.data.toList.drop b' := by
              rw [snapIn, conf_back]
              simp only [ByteArray.data_append, Array.toList_append, List.append_assoc]
              show _ = vb ix ++ (vb tm ++ _)
              rw [← x4, ← x3, ← x2, ← x1]
              rfl
            have hsz := congrArg List.length hin
            rw [hl, List.length_append, List.length_drop, hl] at hsz
            have hsi : (snapIn ix tm (intsOf (t.extract a b).data.toList) (t.extract a' b')).data.toList.length = (snapIn ix tm (intsOf (t.extract a b).data.toList) (t.extract a' b')).size := Array.length_toList
            rw [hsi] at hsz
            by_cases hi : 1000000 < ix
            · rw [if_pos hi]
              refine if_neg ?_
              rintro ⟨_, q, _⟩
              have := (snapOk_iff.1 q).2.1
              omega
            · rw [if_neg hi]
              by_cases hm : 100000 < tm
              · rw [if_pos hm]
                refine if_neg ?_
                rintro ⟨_, q, _⟩
                have := (snapOk_iff.1 q).2.1
                omega
              · rw [if_neg hm, if_pos rfl]
                by_cases he : b' = t.size
                · rw [if_pos he]
                  have hsame : snapIn ix tm (intsOf (t.extract a b).data.toList) (t.extract a' b') = t := by
                    apply ByteArray.ext
                    apply Array.toList_inj.1
                    conv => rhs; rw [hin]
                    rw [he, ← hl, List.drop_length, List.append_nil]
                  refine if_pos ⟨rfl, snapOk_iff.2 ⟨hc, ⟨⟨by omega, by omega⟩, by omega, by omega⟩, ?_⟩, ?_⟩
                  · simp only [Int.toNat_natCast]
                    rw [hsame]
                    omega
                  · rw [hsame, hall]
                · rw [if_neg he]
                  refine if_neg ?_
                  rintro ⟨_, _, q⟩
                  rw [← hall] at q
                  rw [sealOf_inj q] at hsz
                  omega

/-- what is left to be read behind the two numbers, and behind the conf -/
def readSnapC (t : ByteArray) (ix tm : Nat) (zs : List Int) (y : Nat) : Option SnapD := match rs t (y : Int) with
  | none => none
  | some (a', b') => if b' = t.size then some ⟨ix, tm, zs, t.extract a' b'⟩ else none
def readSnapB (t : ByteArray) (ix tm k : Nat) : Option SnapD := match rs t (k : Int) with
  | none => none
  | some (a, b) => if confOk (intsOf (t.extract a b).data.toList) = true then readSnapC t ix tm (intsOf (t.extract a b).data.toList) b else none
theorem readSnap_sealed {s : ByteArray} (h : Uns s ∧ s.size ≤ 20000) : readSnap s = readSnapIn (s.extract 0 (s.size - 4)) := by rw [readSnap, if_pos (snapSealed_iff.2 h)]
theorem rs_sealed {s : ByteArray} (h : ¬ (Uns s ∧ s.size ≤ 20000)) : readSnap s = none := by rw [readSnap, if_neg (fun q => h (snapSealed_iff.1 q))]
theorem rsi1 {t : ByteArray} (h1 : rv (t.data.toList.drop 0) = none) : readSnapIn t = none := by rw [readSnapIn, h1]
theorem rsi2 {t : ByteArray} {ix k1 : Nat} (h1 : rv (t.data.toList.drop 0) = some (ix, k1)) (hi : 1000000 < ix) : readSnapIn t = none := by rw [readSnapIn, h1]; simp only [hi, if_true]
theorem rsi3 {t : ByteArray} {ix k1 : Nat} (h1 : rv (t.data.toList.drop 0) = some (ix, k1)) (hi : ¬ 1000000 < ix) (h2 : rv (t.data.toList.drop k1) = none) : readSnapIn t = none := by rw [readSnapIn, h1]; simp only [hi, if_false, h2]
theorem rsi4 {t : ByteArray} {ix k1 tm k2 : Nat} (h1 : rv (t.data.toList.drop 0) = some (ix, k1)) (hi : ¬ 1000000 < ix) (h2 : rv (t.data.toList.drop k1) = some (tm, k2)) (hm : 100000 < tm) : readSnapIn t = none := by rw [readSnapIn, h1]; simp only [hi, if_false, h2, hm, if_true]
theorem rsi5 {t : ByteArray} {ix k1 tm k2 : Nat} (h1 : rv (t.data.toList.drop 0) = some (ix, k1)) (hi : ¬ 1000000 < ix) (h2 : rv (t.data.toList.drop k1) = some (tm, k2)) (hm : ¬ 100000 < tm) : readSnapIn t = readSnapB t ix tm (k1 + k2) := by rw [readSnapIn, h1]; simp only [hi, if_false, h2, hm]; rfl
theorem rsb1 {t : ByteArray} {ix tm k : Nat} (h : rs t (k : Int) = none) : readSnapB t ix tm k = none := by rw [readSnapB, h]
theorem rsb2 {t : ByteArray} {ix tm k x y : Nat} (h : rs t (k : Int) = some (x, y)) (hc : confOk (intsOf (t.extract x y).data.toList) = false) : readSnapB t ix tm k = none := by rw [readSnapB, h]; simp only [hc, Bool.false_eq_true, if_false]
theorem rsb3 {t : ByteArray} {ix tm k x y : Nat} (h : rs t (k : Int) = some (x, y)) (hc : confOk (intsOf (t.extract x y).data.toList) = true) : readSnapB t ix tm k = readSnapC t ix tm (intsOf (t.extract x y).data.toList) y := by rw [readSnapB, h]; simp only [hc, if_true]
theorem rsc1 {t : ByteArray} {ix tm y : Nat} {zs : List Int} (h : rs t (y : Int) = none) : readSnapC t ix tm zs y = none := by rw [readSnapC, h]
theorem rsc2 {t : ByteArray} {ix tm y x' y' : Nat} {zs : List Int} (h : rs t (y : Int) = some (x', y')) : readSnapC t ix tm zs y = if y' = t.size then some ⟨ix, tm, zs, t.extract x' y'⟩ else none := by rw [readSnapC, h]
theorem ask_sealed {s : ByteArray} (h : Uns s) : askSnapIn s (s.extract 0 (s.size - 4)) (some 0) = readSnap s := by
  by_cases h2 : s.size ≤ 20000
  · rw [readSnap_sealed ⟨h, h2⟩, ask_read h h2]
  · rw [rs_sealed (fun q => h2 q.2)]
    refine if_neg ?_
    rintro ⟨_, q1, q2⟩
    have q3 := (snapOk_iff.1 q1).2.2
    simp only [Int.toNat_natCast] at q3
    have q4 := congrArg ByteArray.size q2
    rw [sealOf_size] at q4
    omega
theorem ask_not {s : ByteArray} (h : ¬ Uns s) : askSnapIn s ByteArray.empty none = readSnap s := by rw [ask_none, rs_sealed (fun q => h q.1)]
theorem shortTxt_size (t : ByteArray) (o : Option Nat) : (shortTxt t o).size ≤ t.size := by
  rw [shortTxt]
  generalize varSt' t o = o1
  cases o1 with
  | none => exact Nat.zero_le _
  | some k =>
    rw [takeTxtN]
    split
    · rw [ByteArray.size_extract]; omega
    · exact Nat.zero_le _
theorem readConf_small (s : ByteArray) : (readConf s).1.length ≤ 4 := by
  cases h : confOk (intsOf s.data.toList) with
  | false => rw [readConf_no h]; exact Nat.zero_le _
  | true => rw [readConf_yes h]; exact (confOk_len h).2
end Go.Proofs.YtoanhjjigbjecaaGreatDoor

namespace Go.Proofs.YtoanhjjigbjecaaGreatDoor
open Go

theorem grown_draws (w : World) (r : Option Nat) (n : Nat) : w.grownBy (w.drewN n) r := ⟨rfl, rfl, rfl, Nat.le_refl _, fun _ _ _ => rfl⟩
end Go.Proofs.YtoanhjjigbjecaaGreatDoor

namespace Go.Proofs.YtoanhjjigbjecaaGreatDoor
open Go.RowKit

theorem blk_grown {w w' : World} {g r : Nat} {t : TypeId} {cs : List Value} (h : BlockIs w g t cs) (hg : w.grownBy w' (some r)) (hr : g ≠ r) : BlockIs w' g t cs := by
  have hlt := h.lt
  unfold BlockIs at h ⊢
  rw [hg.block g hlt (by simp; omega)]
  exact h
theorem below_grown {n r : Nat} {w w1 w2 : World} (h : Below n w w1) (hg : w1.grownBy w2 (some r)) (hr : n ≤ r) (hs : n ≤ w1.heap.size) : Below n w w2 :=
  h.grown hg hs (fun k e => by simp at e; omega)
theorem grown_none {w w' : World} (h : w.grownBy w' none) (r : Nat) : w.grownBy w' (some r) := by
  obtain ⟨h1, h2, h3, h4, h5⟩ := h
  exact ⟨h1, h2, h3, h4, fun b hb _ => h5 b hb (by simp)⟩
theorem three_blocks (w : World) (o p q : Obj) : Below w.heap.size w (((w.alloc o).alloc p).alloc q) ∧ (((w.alloc o).alloc p).alloc q).heap.size = w.heap.size + 3 ∧ (((w.alloc o).alloc p).alloc q).heap[w.heap.size]? = some o ∧ (((w.alloc o).alloc p).alloc q).heap[w.heap.size + 1]? = some p ∧ (((w.alloc o).alloc p).alloc q).heap[w.heap.size + 1 + 1]? = some q := by
  refine ⟨below_more (below_more (below_more (Below.refl _ w) _) _) _, by simp [World.alloc, -World.alloc_eq], ?_, ?_, ?_⟩
  · show (((w.heap.push o).push p).push q)[w.heap.size]? = some o
    rw [Array.getElem?_push, if_neg (by simp; omega), Array.getElem?_push, if_neg (by simp), Array.getElem?_push, if_pos rfl]
  · show (((w.heap.push o).push p).push q)[w.heap.size + 1]? = some p
    rw [Array.getElem?_push, if_neg (by simp), Array.getElem?_push, if_pos (by simp)]
  · show (((w.heap.push o).push p).push q)[w.heap.size + 1 + 1]? = some q
    rw [Array.getElem?_push, if_pos (by simp)]
theorem two_blocks (w : World) (o p : Obj) : Below w.heap.size w ((w.alloc o).alloc p) ∧ ((w.alloc o).alloc p).heap.size = w.heap.size + 2 ∧ ((w.alloc o).alloc p).heap[w.heap.size]? = some o ∧ ((w.alloc o).alloc p).heap[w.heap.size + 1]? = some p := by
  refine ⟨below_more (below_more (Below.refl _ w) _) _, by simp [World.alloc, -World.alloc_eq], ?_, ?_⟩
  · show ((w.heap.push o).push p)[w.heap.size]? = some o
    rw [Array.getElem?_push, if_neg (by simp), Array.getElem?_push, if_pos rfl]
  · show ((w.heap.push o).push p)[w.heap.size + 1]? = some p
    rw [Array.getElem?_push, if_pos (by simp)]

/-- what hangs on blocks of two types alone -/
def Stays (t1 t2 : TypeId) (Q : World → Prop) : Prop := ∀ x y : World, (∀ g t cs, t = t1 ∨ t = t2 → BlockIs x g t cs → BlockIs y g t cs) → Q x → Q y
theorem Stays.alloc {t1 t2 : TypeId} {Q : World → Prop} (h : Stays t1 t2 Q) {x : World} (q : Q x) (o : Obj) : Q (x.alloc o) :=
  h _ _ (fun _ _ _ _ hb => hb.on (below_more (Below.refl _ _) o) hb.lt) q
theorem Stays.drawn {t1 t2 : TypeId} {Q : World → Prop} (h : Stays t1 t2 Q) {x : World} (q : Q x) (n : Nat) : Q (x.drewN n) := h x (x.drewN n) (fun _ _ _ _ hb => hb) q
theorem Stays.put {t1 t2 tb : TypeId} {Q : World → Prop} {cb : List Value} {b : Nat} (h : Stays t1 t2 Q) {x : World} (q : Q x) (hb : BlockIs x b tb cb) (h1 : tb ≠ t1) (h2 : tb ≠ t2) (j : Nat) (u : Value) : Q (x.setCell ⟨b, j, none⟩ u) :=
  h _ _ (fun _ _ _ ht hg => hg.far (fun e => by subst e; have := (block_one hb hg).1; rcases ht with rfl | rfl; exact h1 this; exact h2 this) u) q
theorem Stays.grown {t1 t2 tb : TypeId} {Q : World → Prop} {cb : List Value} {b : Nat} (h : Stays t1 t2 Q) {x y : World} (q : Q x) (hg : x.grownBy y (some b)) (hb : BlockIs x b tb cb) (h1 : tb ≠ t1) (h2 : tb ≠ t2) : Q y :=
  h _ _ (fun _ _ _ ht hc => blk_grown hc hg (fun e => by subst e; have := (block_one hb hc).1; rcases ht with rfl | rfl; exact h1 this; exact h2 this)) q
end Go.Proofs.YtoanhjjigbjecaaGreatDoor

namespace Go.Proofs.YtoanhjjigbjecaaGreatDoor
open Go.RowKit

/-- what both answer -/
def snapDid (o : Option SnapD) (w : World) (e : Ending) (w' : World) : Prop := match o with
  | none => e = .returned (.tuple #[snapV 0 0 (.slice none 0 0) ByteArray.empty, .bool false]) ∧ Below w.heap.size w w'
  | some d => ∃ v, e = .returned (.tuple #[snapV d.ix d.tm v d.body, .bool true]) ∧ w'.ownsRow w.heap.size 3 1 v d.conf.length (intCells d.conf) ∧ Below w.heap.size w w'

/-- a block of another type is written -/
theorem own_put {x : World} {base n b j : Nat} {tb : TypeId} {v u : Value} {xs cb : List Value} (h : x.ownsRow base 3 1 v n xs) (hb : BlockIs x b tb cb) (ht : tb ≠ 3) : (x.setCell ⟨b, j, none⟩ u).ownsRow base 3 1 v n xs := by
  refine ⟨h.1, h.2.imp id ?_⟩
  rintro ⟨g, cap, cur, a, c, d, r⟩
  refine ⟨g, cap, cur, a, c, ?_, r⟩
  have hne : b ≠ g := by
    intro q
    subst q
    unfold BlockIs at hb
    rw [hb] at d
    simp only [Option.some.injEq, Obj.cells.injEq] at d
    exact ht d.2.1
  have hg : BlockIs x g 3 cur.toList := by unfold BlockIs; rw [d]
  have := hg.far hne (j := j) u
  unfold BlockIs at this
  simpa using this
theorem own_grown {x y : World} {base n r : Nat} {tb : TypeId} {v : Value} {xs cb : List Value} (h : x.ownsRow base 3 1 v n xs) (hg : x.grownBy y (some r)) (hb : BlockIs x r tb cb) (ht : tb ≠ 3) : y.ownsRow base 3 1 v n xs := by
  have hh := h
  rcases h.2 with ⟨hv, hn⟩ | ⟨g, cap, cur, hv, _, d, _⟩
  · subst hv
    exact hh.kept hg (Or.inl rfl)
  · subst hv
    refine hh.kept hg (Or.inr ?_)
    intro e
    have e2 : g = r := by simpa [Value.ownBlock] using e
    subst e2
    unfold BlockIs at hb
    rw [hb] at d
    simp only [Option.some.injEq, Obj.cells.injEq] at d
    exact ht d.2.1
theorem text_same {s t : ByteArray} (h : s.toList = t.toList) : s = t := by
  rw [ByteArray.toList_eq, ByteArray.toList_eq] at h
  apply ByteArray.ext
  exact Array.toList_inj.1 h
/-- the answer's parts, whether there is a snapshot or not -/
def snapIx (o : Option SnapD) : Int := match o with | none => 0 | some d => d.ix
def snapTm (o : Option SnapD) : Int := match o with | none => 0 | some d => d.tm
def snapZs (o : Option SnapD) : List Int := match o with | none => [] | some d => d.conf
def snapBd (o : Option SnapD) : ByteArray := match o with | none => ⟨#[]⟩ | some d => d.body
theorem own_nil (w : World) (base : Nat) : w.ownsRow base 3 1 (.slice none 0 0) 0 [] := ⟨rfl, Or.inl ⟨rfl, rfl⟩⟩
theorem snapDid_parts {o : Option SnapD} {w w' : World} {e : Ending} (h : snapDid o w e w') : ∃ ao cap, e = .returned (.tuple #[snapV (snapIx o) (snapTm o) (.slice ao (snapZs o).length cap) (snapBd o), .bool o.isSome]) ∧ w'.ownsRow w.heap.size 3 1 (.slice ao (snapZs o).length cap) (snapZs o).length (intCells (snapZs o)) ∧ Below w.heap.size w w' := by
  cases o with
  | none => exact ⟨none, 0, h.1, own_nil _ _, h.2⟩
  | some d =>
    obtain ⟨v, h1, h2, h3⟩ := h
    obtain ⟨va, vc, rfl⟩ := row_shape h2
    exact ⟨va, vc, h1, h2, h3⟩
theorem readSnap_small {s : ByteArray} : (snapZs (readSnap s)).length ≤ 4 := by
  cases h : readSnap s with
  | none => exact Nat.zero_le _
  | some d =>
    have : d.conf.length ≤ 4 := by
      unfold readSnap readSnapIn at h
      repeat' split at h
      all_goals first
        | contradiction
        | (cases h; exact (confOk_len (by assumption)).2)
    exact this
/-- the same as a post of its own -/
def snapAns (o : Option SnapD) (w : World) (e : Ending) (w' : World) : Prop := ∃ ao cap, e = .returned (.tuple #[snapV (snapIx o) (snapTm o) (.slice ao (snapZs o).length cap) (snapBd o), .bool o.isSome]) ∧ w'.ownsRow w.heap.size 3 1 (.slice ao (snapZs o).length cap) (snapZs o).length (intCells (snapZs o)) ∧ Below w.heap.size w w'
end Go.Proofs.YtoanhjjigbjecaaGreatDoor

namespace Go.Proofs.YtoanhjjigbjecaaGreatDoor
open Go.RowKit

/-- the snapshot of a file that has its name -/
def fileSnap (f : FileD) : Option SnapD := match nameNum 115 1000000 f.name with
  | none => none
  | some n => match readSnap f.text with
    | none => none
    | some s => if s.ix = n then some s else none
def newer (b : Option SnapD) (f : FileD) : Option SnapD := match fileSnap f with
  | none => b
  | some s => match b with
    | none => some s
    | some d => if d.ix < s.ix then some s else some d
def newestTo (l : List FileD) (k : Nat) : Option SnapD := (l.take k).foldl newer none
def newestSnap (l : List FileD) : Option SnapD := if diskOk l = true then l.foldl newer none else none
theorem newestTo_zero (l : List FileD) : newestTo l 0 = none := by simp [newestTo]
theorem newestTo_step {l : List FileD} {k : Nat} (hk : k < l.length) : newestTo l (k + 1) = newer (newestTo l k) l[k] := by
  rw [newestTo, List.take_succ_eq_append_getElem hk, List.foldl_append]
  rfl
theorem newestTo_all {l : List FileD} {k : Nat} (hd : diskOk l = true) (hk : l.length ≤ k) : newestSnap l = newestTo l k := by
  rw [newestSnap, if_pos hd, newestTo, List.take_of_length_le hk]
theorem newest_no {l : List FileD} (hd : diskOk l = false) : newestSnap l = none := by rw [newestSnap, hd]; rfl
theorem fileSnap_name {f : FileD} (h : nameNum 115 1000000 f.name = none) : fileSnap f = none := by rw [fileSnap, h]
theorem fileSnap_text {f : FileD} (h : readSnap f.text = none) : fileSnap f = none := by
  rw [fileSnap]
  split
  · rfl
  · rw [h]
theorem fileSnap_eq {f : FileD} {n : Nat} {s : SnapD} (h : nameNum 115 1000000 f.name = some n) (h2 : readSnap f.text = some s) : fileSnap f = if s.ix = n then some s else none := by rw [fileSnap, h]; simp only [h2]
def pickSnap (n : Nat) (o : Option SnapD) : Option SnapD := match o with
  | none => none
  | some s => if s.ix = n then some s else none
theorem fileSnap_pick {f : FileD} {n : Nat} (h : nameNum 115 1000000 f.name = some n) : fileSnap f = pickSnap n (readSnap f.text) := by rw [fileSnap, h]; rfl
theorem pick_yes {n : Nat} {s : SnapD} (h : s.ix = n) : pickSnap n (some s) = some s := by rw [pickSnap, if_pos h]
theorem pick_no {n : Nat} {s : SnapD} (h : ¬ s.ix = n) : pickSnap n (some s) = none := by rw [pickSnap, if_neg h]
theorem newer_no {b : Option SnapD} {f : FileD} (h : fileSnap f = none) : newer b f = b := by rw [newer, h]
theorem newer_first {f : FileD} {s : SnapD} (h : fileSnap f = some s) : newer none f = some s := by rw [newer, h]
theorem newer_more {f : FileD} {s d : SnapD} (h : fileSnap f = some s) (hl : d.ix < s.ix) : newer (some d) f = some s := by rw [newer, h]; simp only [hl, if_true]
theorem newer_less {f : FileD} {s d : SnapD} (h : fileSnap f = some s) (hl : ¬ d.ix < s.ix) : newer (some d) f = some d := by rw [newer, h]; simp only [hl, if_false]
theorem fileSnap_conf {f : FileD} {s : SnapD} (h : fileSnap f = some s) : s.conf.length ≤ 4 ∧ s.ix ≤ 1000000000 := by
  unfold fileSnap at h
  split at h
  · cases h
  · rename_i n hn
    split at h
    · cases h
    · rename_i d hd
      split at h
      · cases h
        have h1 := readSnap_small (s := f.text)
        rw [hd] at h1
        have h2 := ((nameNum_some (by omega)).1 hn).1
        rename_i hq
        exact ⟨h1, by omega⟩
      · cases h
/-- a snapshot that is answered, with a flag; without it, it is any one -/
def SnapSome (o : Option SnapD) (w : World) (e : Ending) (w' : World) : Prop := ∃ (ix tm : Int) (ao : Option Addr) (zs : List Int) (cap : Nat) (bd : ByteArray), e = .returned (.tuple #[snapV ix tm (.slice ao zs.length cap) bd, .bool o.isSome]) ∧ w'.ownsRow w.heap.size 3 1 (.slice ao zs.length cap) zs.length (intCells zs) ∧ Below w.heap.size w w' ∧ (∀ d, o = some d → ix = d.ix ∧ tm = d.tm ∧ zs = d.conf ∧ bd = d.body)
end Go.Proofs.YtoanhjjigbjecaaGreatDoor

namespace Go.Proofs.YtoanhjjigbjecaaGreatDoor
open Go.RowKit

def shedActs (l : List FileD) : List ActD := match newestSnap l with
  | none => []
  | some s => newA l ++ dropsOf (isOther (s.ix : Int)) l
theorem newest_disk {l : List FileD} {s : SnapD} (h : newestSnap l = some s) : diskOk l = true := by
  unfold newestSnap at h
  split at h
  · assumption
  · cases h
theorem shed_small {l : List FileD} (hl : l.length ≤ 1048576) : (shedActs l).length ≤ 1048577 := by
  unfold shedActs
  split
  · exact Nat.zero_le _
  · rw [List.length_append]
    have h1 := newA_length l
    rename_i s _
    have h2 := dropsOf_length (isOther (s.ix : Int)) l
    omega
end Go.Proofs.YtoanhjjigbjecaaGreatDoor

namespace Go.Proofs.YtoanhjjigbjecaaGreatDoor
open Go.RowKit

/-- the number ahead of a place, 0 at the first -/
def lastOf (zs : List Int) (k : Nat) : Int := match k with
  | 0 => 0
  | j + 1 => (zs[j]?).getD 0
theorem lastOf_step {zs : List Int} {k : Nat} (hk : k < zs.length) : lastOf zs (k + 1) = zs[k] := by
  rw [lastOf, List.getElem?_eq_getElem hk, Option.getD_some]
theorem rise_last {zs : List Int} {k : Nat} (hk : k < zs.length) (h : riseTo zs k = true) : (within zs[k] 1 4 && behindI zs k zs[k]) = true ↔ lastOf zs k < zs[k] ∧ zs[k] ≤ 4 := by
  cases k with
  | zero =>
    rw [Bool.and_eq_true, within_iff, lastOf, behindI]
    simp
    omega
  | succ j =>
    have hj : j < zs.length := by omega
    have h1 := riseTo_down h (Nat.le_refl (j + 1))
    rw [riseTo_step hj, Bool.and_eq_true, Bool.and_eq_true, within_iff] at h1
    rw [Bool.and_eq_true, within_iff, behindI_step hk, lastOf_step hj, decide_eq_true_eq]
    omega
theorem rise_on {zs : List Int} {k : Nat} (hk : k < zs.length) (h : riseTo zs k = true) (h1 : lastOf zs k < zs[k]) (h2 : zs[k] ≤ 4) : riseTo zs (k + 1) = true := by
  rw [riseTo_step hk, h, Bool.true_and]
  exact (rise_last hk h).2 ⟨h1, h2⟩
theorem rise_off {zs : List Int} {k : Nat} (hk : k < zs.length) (h : riseTo zs k = true) (h1 : ¬ (lastOf zs k < zs[k] ∧ zs[k] ≤ 4)) : riseTo zs zs.length = false := by
  refine not_rise hk ?_
  cases hb : (within zs[k] 1 4 && behindI zs k zs[k]) with
  | false => rfl
  | true => exact absurd ((rise_last hk h).1 hb) h1

/-- how many of the first k numbers are in a list -/
def countIn (zs ls : List Int) : Nat → Nat
  | 0 => 0
  | k + 1 => countIn zs ls k + match zs[k]? with
    | none => 0
    | some x => if x ∈ ls then 1 else 0
theorem countIn_step {zs ls : List Int} {k : Nat} (hk : k < zs.length) : countIn zs ls (k + 1) = countIn zs ls k + if zs[k] ∈ ls then 1 else 0 := by
  rw [countIn, List.getElem?_eq_getElem hk]
theorem countIn_le (zs ls : List Int) : ∀ k, countIn zs ls k ≤ k
  | 0 => Nat.le_refl _
  | k + 1 => by
    have := countIn_le zs ls k
    rw [countIn]
    split
    · omega
    · split <;> omega
def most (zs ls : List Int) : Bool := confOk zs && decide (zs.length < 2 * countIn zs ls zs.length)
end Go.Proofs.YtoanhjjigbjecaaGreatDoor

namespace Go.Proofs.YtoanhjjigbjecaaGreatDoor
open Go.RowKit

theorem ints_back {zs : List Int} (h : ∀ z ∈ zs, 1 ≤ z ∧ z ≤ 4) : intsOf (confBytes zs) = zs := by
  induction zs with
  | nil => rfl
  | cons z zs ih =>
    have hz := h z List.mem_cons_self
    have := ih (fun x hx => h x (List.mem_cons_of_mem _ hx))
    simp only [confBytes, intsOf, List.map_cons] at this ⊢
    rw [this]
    congr 1
    rw [UInt8.toNat_ofNat']
    omega
theorem confs_back {zs : List Int} (h : confOk zs = true) : readConf ⟨(confBytes zs).toArray⟩ = (zs, true) := by
  have hz : ∀ z ∈ zs, 1 ≤ z ∧ z ≤ 4 := by
    intro z hz
    obtain ⟨k, hk, rfl⟩ := List.getElem_of_mem hz
    exact confOk_at h hk
  have e : intsOf ((⟨(confBytes zs).toArray⟩ : ByteArray).data.toList) = zs := by
    show intsOf ((confBytes zs).toArray.toList) = zs
    exact ints_back hz
  rw [readConf, e, if_pos h]
end Go.Proofs.YtoanhjjigbjecaaGreatDoor

namespace Go.Proofs.YtoanhjjigbjecaaGreatDoor
open Go.RowKit

/-- files in a row of the call's own: where they lie -/
theorem own_files {w : World} {base : Nat} {v : Value} {l : List FileD} (h : w.ownsRow base 61 3 v l.length (fileCells l)) :
    ∃ va vc, v = .slice va l.length vc ∧ FilesAt w va l ∧ (l = [] ∨ ∃ g r, va = some ⟨g, 0, none⟩ ∧ base ≤ g ∧ BlockIs w g 61 (fileCells l ++ r)) := by
  obtain ⟨_, (⟨rfl, h0⟩ | ⟨g, cap, cur, rfl, hb, hg, _, _, _, ht⟩)⟩ := h
  · have hl : l = [] := List.length_eq_zero_iff.1 h0
    subst hl
    exact ⟨none, 0, rfl, fun h => absurd rfl h, Or.inl rfl⟩
  · have hcur : cur.toList = fileCells l ++ cur.toList.drop (l.length * 3) := by rw [← ht, List.take_append_drop]
    have hk : BlockIs w g 61 (fileCells l ++ cur.toList.drop (l.length * 3)) := by
      unfold BlockIs
      rw [hg, ← hcur]
    exact ⟨_, _, rfl, filesAt_of hk, Or.inr ⟨g, _, rfl, hb, hk⟩⟩
theorem OwnAt.files {w : World} {l : List FileD} {va : Option Addr} {lo hi : Nat} (h : OwnAt w 61 (fileCells l) l.length va lo hi) : FilesAt w va l := by
  rcases h with h | ⟨g, r, rfl, _, _, h⟩
  · intro h0
    exact absurd (List.length_eq_zero_iff.1 h) h0
  · exact filesAt_of h
theorem own_of_row {w : World} {base : Nat} {v : Value} {l : List FileD} (h : w.ownsRow base 61 3 v l.length (fileCells l)) : ∃ va vc, v = .slice va l.length vc ∧ OwnAt w 61 (fileCells l) l.length va base w.heap.size := by
  obtain ⟨va, vc, rfl, _, (h0 | ⟨g, r, rfl, hb, hk⟩)⟩ := own_files h
  · exact ⟨va, vc, rfl, Or.inl (by rw [h0]; rfl)⟩
  · exact ⟨_, vc, rfl, Or.inr ⟨g, r, rfl, hb, hk.lt, hk⟩⟩
theorem own_of_block {w : World} {base g : Nat} {l : List FileD} (hb : base ≤ g) (hk : BlockIs w g 61 (fileCells l)) : OwnAt w 61 (fileCells l) l.length (some ⟨g, 0, none⟩) base w.heap.size :=
  Or.inr ⟨g, [], rfl, hb, hk.lt, by rw [List.append_nil]; exact hk⟩

end Go.Proofs.YtoanhjjigbjecaaGreatDoor

namespace Go.Proofs.YtoanhjjigbjecaaGreatDoor
open Go.RowKit

theorem half_xor (a b : Nat) : half (a ^^^ b) = half a ^^^ half b := by
  have hm : (a ^^^ b) % 2 = (a % 2 + b % 2) % 2 := by
    have h := Nat.testBit_xor a b 0
    simp only [Nat.testBit_zero] at h
    have e1 : a % 2 = 0 ∨ a % 2 = 1 := by omega
    have e2 : b % 2 = 0 ∨ b % 2 = 1 := by omega
    have e3 : (a ^^^ b) % 2 = 0 ∨ (a ^^^ b) % 2 = 1 := by omega
    rcases e1 with e1 | e1 <;> rcases e2 with e2 | e2 <;> rcases e3 with e3 | e3 <;> rw [e1, e2, e3] at h <;> simp at h <;> omega
  have hd : (a ^^^ b) / 2 = a / 2 ^^^ b / 2 := by
    apply Nat.eq_of_testBit_eq
    intro i
    simp only [Nat.testBit_xor, Nat.testBit_div_two]
  unfold half
  rw [hm, hd]
  have e1 : a % 2 = 0 ∨ a % 2 = 1 := by omega
  have e2 : b % 2 = 0 ∨ b % 2 = 1 := by omega
  rcases e1 with e1 | e1 <;> rcases e2 with e2 | e2 <;> simp only [e1, e2]
  · rfl
  · simp [Nat.xor_assoc]
  · have : a / 2 ^^^ b / 2 ^^^ 3558460437 = a / 2 ^^^ 3558460437 ^^^ b / 2 := by rw [Nat.xor_assoc, Nat.xor_assoc, Nat.xor_comm (b / 2)]
    simpa using this
  · have : a / 2 ^^^ 3558460437 ^^^ (b / 2 ^^^ 3558460437) = a / 2 ^^^ b / 2 := by
      rw [Nat.xor_comm (b / 2), ← Nat.xor_assoc, Nat.xor_assoc (a / 2), Nat.xor_self, Nat.xor_zero]
    simp [this]

theorem hsN_xor (k a b : Nat) : hsN k (a ^^^ b) = hsN k a ^^^ hsN k b := by
  induction k with
  | zero => rfl
  | succ k ih =>
    show half (hsN k (a ^^^ b)) = _
    rw [ih, half_xor]
    rfl

theorem half_even (y : Nat) : half (2 * y) = y := by
  unfold half
  rw [if_neg (by omega)]
  omega

theorem low_high (x : Nat) : x = (16 * (x / 16)) ^^^ (x % 16) := by
  apply Nat.eq_of_testBit_eq
  intro i
  rw [Nat.testBit_xor, show 16 * (x / 16) = 2 ^ 4 * (x / 2 ^ 4) from rfl, show x % 16 = x % 2 ^ 4 from rfl, Nat.testBit_two_pow_mul, Nat.testBit_mod_two_pow, Nat.testBit_div_two_pow]
  by_cases h : 4 ≤ i
  · have : ¬ i < 4 := by omega
    simp [h, this]
  · have : i < 4 := by omega
    simp [h, this]

theorem hsN_add (k j x : Nat) : hsN (k + j) x = hsN j (hsN k x) := by
  induction j with
  | zero => rfl
  | succ j ih => show half (hsN (k + j) x) = half (hsN j (hsN k x)); rw [ih]

theorem four_high (q : Nat) : hsN 4 (16 * q) = q := by
  show half (half (half (half (16 * q)))) = q
  rw [show 16 * q = 2 * (2 * (2 * (2 * q))) by omega, half_even, half_even, half_even, half_even]

theorem four_steps (x : Nat) : hsN 4 x = x / 16 ^^^ hsN 4 (x % 16) := by
  have h := congrArg (hsN 4) (low_high x)
  rw [hsN_xor, four_high] at h
  exact h

def stepsTab : List Int := [0, 1166650509, 2333301018, 3466261911, 3189058079, 4221339282, 889615109, 1888477064, 3558460437, 2442158232, 1594529039, 444807554, 1779230218, 797264519, 3776954128, 2761298845]
theorem stepsTab_at : ∀ r : Nat, r < 16 → stepsTab.getD r 0 = ((hsN 4 r : Nat) : Int) := by decide +kernel
end Go.Proofs.YtoanhjjigbjecaaGreatDoor

namespace Go.Proofs.YtoanhjjigbjecaaGreatDoor
open Go.RowKit

/-- a number at a place, and the place behind it -/
def numAt (s : ByteArray) (lim k : Nat) : Option (Nat × Nat) := match rv (s.data.toList.drop k) with
  | some (n, c) => if n ≤ lim then some (n, k + c) else none
  | none => none
/-- a short text at a place, and the place behind it -/
def txtAt (s : ByteArray) (k : Nat) : Option (ByteArray × Nat) := match rs s (k : Int) with
  | some (x, y) => some (s.extract x y, y)
  | none => none
theorem numAt_fits {s : ByteArray} {lim k n k' : Nat} (hk : k ≤ s.size) (h : numAt s lim k = some (n, k')) : n ≤ lim ∧ n ≤ 1000000000 ∧ k < k' ∧ k' ≤ s.size ∧ s.data.toList.drop k = vb n ++ s.data.toList.drop k' := by
  unfold numAt at h
  cases hv : rv (s.data.toList.drop k) with
  | none => rw [hv] at h; cases h
  | some p =>
    obtain ⟨a, c⟩ := p
    rw [hv] at h
    dsimp only at h
    have hf := rv_fits hk hv
    obtain ⟨_, l2⟩ := rv_text hv
    rw [List.drop_drop] at l2
    by_cases hl : a ≤ lim
    · rw [if_pos hl] at h
      cases h
      exact ⟨hl, hf.1, by omega, hf.2.2, l2⟩
    · rw [if_neg hl] at h
      cases h
theorem txtAt_fits {s : ByteArray} {k k' : Nat} {t : ByteArray} (hk : k ≤ s.size) (h : txtAt s k = some (t, k')) : t.size ≤ 20000 ∧ k < k' ∧ k' ≤ s.size ∧ s.data.toList.drop k = vb t.size ++ (t.data.toList ++ s.data.toList.drop k') := by
  unfold txtAt at h
  cases hv : rv (s.data.toList.drop k) with
  | none => rw [rs_none hk hv] at h; cases h
  | some p =>
    obtain ⟨n, c⟩ := p
    have hf := rv_fits hk hv
    by_cases hb : n ≤ 20000 ∧ k + c + n ≤ s.size
    · rw [rs_yes hk hv hb] at h
      dsimp only at h
      cases h
      have hz : (s.extract (k + c) (k + c + n)).size = n := by rw [ByteArray.size_extract]; omega
      obtain ⟨_, l2⟩ := rv_text hv
      rw [List.drop_drop] at l2
      refine ⟨by rw [hz]; exact hb.1, by omega, hb.2, ?_⟩
      rw [hz]
      conv => lhs; rw [l2]
      congr 1
      rw [extract_eq, show k + c + n - (k + c) = n by omega]
      conv => lhs; rw [← List.take_append_drop n (s.data.toList.drop (k + c))]
      rw [List.drop_drop]
    · rw [rs_big hk hv hb] at h
      cases h
end Go.Proofs.YtoanhjjigbjecaaGreatDoor

namespace Go.Proofs.YtoanhjjigbjecaaGreatDoor
open Go

theorem leaves_put {P : Program} {fn : Func} {j : Nat} {v : Value} {R : Ending → World → Prop} (hr : ∀ t : Array Value, results fn (t.setIfInBounds j v) = results fn t) :
    ∀ (ds : List Deferred) (t : Array Value) (u : FrameMode) (w : World), Leaves P fn (t.setIfInBounds j v) R ds u w → Leaves P fn t R ds u w
  | [], t, .returning, _, h => by
    obtain ⟨x, h1, h2⟩ := h
    rw [hr] at h1
    exact ⟨x, h1, h2⟩
  | [], _, .panicking _, _, h => h
  | [], _, .run, _, h => h
  | _ :: ds, t, _, _, ⟨hu, fv, cap, f, args, e1, e2, e3⟩ => ⟨hu, fv, cap, f, args, e1, e2, e3.mono fun e u' w' hh => by
      cases e with
      | returned _ => exact leaves_put hr ds t _ _ hh
      | panicked _ => exact leaves_put hr ds t _ _ hh
      | outgrown => exact hh⟩
theorem panic_put {P : Program} {fn : Func} {j : Nat} {v : Value} {R : Ending → World → Prop} (hr : ∀ t : Array Value, results fn (t.setIfInBounds j v) = results fn t) (c : List PanicEntry) (a : Act) (w : World) (h : bodyPostD P fn R (.panic c) (a.put (some j) v) w) : bodyPostD P fn R (.panic c) a w :=
  leaves_put hr a.defers a.tmps (.panicking c) w h
end Go.Proofs.YtoanhjjigbjecaaGreatDoor
