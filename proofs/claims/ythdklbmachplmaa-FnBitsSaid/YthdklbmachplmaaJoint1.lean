/-
  Plain facts on the bytes of a number in sevens and on rows of bytes in memory; nothing of the program stands here.
  A block of memory of the call's own: its cells as a list; rows of elements of so many cells each.
  Rows of the call's own that grow: what stands behind an append.
  Rows of the call's own between two sizes of memory; blocks laid one behind the other.
  Plain facts on rows that a call owns; nothing of the program stands here.
  Numbers in memory, one behind the other.
  Rows of values of one cell each (texts, numbers): they lie at an address; rows of the call's own, which grow.
  A slice as data: where it lies, how long it is, how much room it has.
  Bits as data; rows of them in memory, one behind the other.
  An element of a row of Bits, written; a row that was just made.
  Rows of Bits of the call's own: they grow.
  Bits that wait as data, with their texts and places; how they lie in memory, and which memory is the call's own.
  What TidyBits answers; nested lists stand where a row of bits grows.
  Bits whose lists are rows of the call's own, which may grow.
  Dgram as data; rows of them in memory, one behind the other.
  A number within bounds; nothing of the program stands here.
  Plain facts on sums of sixteen bits, whose carry comes in at the low end; nothing of the program stands here.
  Plain facts on datagrams: which are right, their text, what a text tells; nothing of the program stands here.
  What JoinBits answers, plainly.
  What is put together of bits, round by round, as the specification puts it; nothing of the program stands here.
  Rows of bits of the call's own: one of them is open; appends within a region that draws; the boxes of JoinBits.
  Plain facts on a datagram's parts; nothing of the program stands here.
  An element of a row of Dgram, written; a row that was just made.
  Rows of Dgram of the call's own: they grow.
  What CutDgram answers: parts in memory of the call's own.
  Maps of the call's own whose keys are numbers: what is told of each key, by a function.
-/
import Derived.WalkKit
import Derived.RowKit
import Derived.WalkSmall
import Derived.Laws.AppendOwn
import Derived.Maps.AppendAt
import Derived.Test.YthdklbmachplmaaRows
import Derived.OwnWalk
import Derived.BigQuiet
import Derived.Deep.LoopGhost
import Derived.Deep.RegionLaw
import Derived.Maps.OwnSet
import Derived.Maps.OwnOps
namespace Go.Proofs.Ythdklbmachplmaa
open Go.RowKit

/-- the bytes of n, seven bits a byte, the least first (with so many steps at the most) -/
def vbF : Nat → Nat → List UInt8
  | 0, n => [UInt8.ofNat n]
  | f + 1, n => if n ≤ 127 then [UInt8.ofNat n] else UInt8.ofNat (n % 128 + 128) :: vbF f (n / 128)
/-- the bytes of n, seven bits a byte, the least first -/
def vb (n : Nat) : List UInt8 := vbF n n

theorem vbF_eq : ∀ (f g n : Nat), n ≤ f → n ≤ g → vbF f n = vbF g n
  | 0, 0, _, _, _ => rfl
  | 0, g + 1, n, h, _ => by
    obtain rfl : n = 0 := by omega
    rw [vbF, vbF, if_pos (by omega)]
  | f + 1, 0, n, _, h => by
    obtain rfl : n = 0 := by omega
    rw [vbF, vbF, if_pos (by omega)]
  | f + 1, g + 1, n, h1, h2 => by
    rw [vbF, vbF]
    by_cases h : n ≤ 127
    · rw [if_pos h, if_pos h]
    · rw [if_neg h, if_neg h, vbF_eq f g (n / 128) (by omega) (by omega)]
theorem vb_small {n : Nat} (h : n ≤ 127) : vb n = [UInt8.ofNat n] := by
  rw [vb, vbF_eq n (n + 1) n (Nat.le_refl _) (by omega), vbF, if_pos h]
theorem vb_big {n : Nat} (h : 127 < n) : vb n = UInt8.ofNat (n % 128 + 128) :: vb (n / 128) := by
  rw [vb, vbF_eq n (n + 1) n (Nat.le_refl _) (by omega), vbF, if_neg (by omega), vb, vbF_eq n (n / 128) (n / 128) (by omega) (Nat.le_refl _)]

theorem vb_pos (n : Nat) : 0 < (vb n).length := by
  by_cases h : n ≤ 127
  · rw [vb_small h]; simp
  · rw [vb_big (by omega)]; simp

theorem vb_le (n : Nat) : (vb n).length ≤ n + 1 := by
  induction n using Nat.strongRecOn with
  | _ n ih =>
    by_cases h : n ≤ 127
    · rw [vb_small h]; simp
    · rw [vb_big (by omega)]
      have := ih (n / 128) (by omega)
      simp only [List.length_cons]
      omega

/-- bytes as the cells of a row -/
def cs (l : List UInt8) : List Value := l.map fun b => Value.int .u8 (b.toNat : Int)

theorem cs_append (l r : List UInt8) : cs (l ++ r) = cs l ++ cs r := by simp [cs]
theorem cs_length (l : List UInt8) : (cs l).length = l.length := by simp [cs]
theorem cs_one {x : Int} (h0 : 0 ≤ x) (h1 : x ≤ 255) : [Value.int .u8 x] = cs [UInt8.ofNat x.toNat] := by
  simp [cs]
  omega

/-- a row that the call owns, turned into a text -/
theorem text_of_row {P : Program} {w : World} {base : Nat} {v : Value} {l : List UInt8} {src dst e : TypeId} (hs : P.underlying src = some (.slice e)) (he : P.underlying e = some (.int .u8)) (hd : P.underlying dst = some .string)
    (h : w.ownsRow base e 1 v l.length (cs l)) : (convert src dst v).run P w = .ok (.string ⟨l.toArray⟩) w := by
  obtain ⟨h1, h2⟩ := h
  rcases h2 with ⟨hv, hn⟩ | ⟨g, cap, cur, hv, hg, hh, hle, hm, hsz, hx⟩
  · have hl : l = [] := by cases l with | nil => rfl | cons a r => simp at hn
    subst hl hv
    exact run_convert_bytes_nil w src e hs he 0 0 dst hd
  · subst hv
    refine run_convert_bytes_back w src dst e ⟨g, 0, none⟩ cap l hs he hd fun j hj => ?_
    have hu : (cs l)[j]? = some (.int .u8 (l[j].toNat : Int)) := by simp [cs, hj]
    exact World.ownsRow.cells (w := w) (base := base) (e := e) (size := 1) ⟨h1, Or.inr ⟨g, cap, cur, rfl, hg, hh, hle, hm, hsz, hx⟩⟩ rfl j _ hu

/-- a piece of a text, its bounds as whole numbers -/
theorem slice_nat {P : Program} {t : TypeId} (h : P.underlying t = some .string) (s : ByteArray) (a b : Nat) (x y : Int) (hx : x = a) (hy : y = b) (hab : a ≤ b) (hb : b ≤ s.size) (w : World) :
    (Instr.slice t (.string s) (some (.int .i64 x)) (some (.int .i64 y)) none).run P w = .ok (.string (s.extract a b)) w := by
  subst hx hy
  rw [run_slice_string w t s .i64 .i64 a b h (by omega) (by omega) (by omega)]
  simp

theorem extract_eq (s : ByteArray) (a b : Nat) : (s.extract a b).data.toList = (s.data.toList.drop a).take (b - a) := by
  simp [ByteArray.extract, ByteArray.copySlice]

theorem var_step {n m : Nat} {acc : List UInt8} {w wr w1 : World} {v v' : Value} (hm : 127 < m) (hacc : acc ++ vb m = vb n) (hown : wr.ownsRow w.heap.size 5 1 v acc.length (cs acc))
    (hown' : w1.ownsRow w.heap.size 5 1 v' (acc.length + 1) (cs acc ++ [.int .u8 ((m : Int) % 128 + 128)])) (hgrow : (wr.alloc (.cells #[.int .u8 ((m : Int) % 128 + 128)] 5)).grownBy w1 v.ownBlock) (hb : Below w.heap.size w wr) :
    (acc ++ [UInt8.ofNat (m % 128 + 128)]) ++ vb (m / 128) = vb n ∧ w1.ownsRow w.heap.size 5 1 v' (acc ++ [UInt8.ofNat (m % 128 + 128)]).length (cs (acc ++ [UInt8.ofNat (m % 128 + 128)])) ∧ Below w.heap.size w w1 := by
  refine ⟨by rw [← hacc, vb_big hm]; simp, ?_, (hb.alloc hb.size _).grown hgrow (by have := hb.size; simp; omega) (fun k hk => (hown.lt k hk).1)⟩
  have e : [Value.int .u8 ((m : Int) % 128 + 128)] = cs [UInt8.ofNat (m % 128 + 128)] := by
    rw [cs_one (by omega) (by omega)]
    have : ((m : Int) % 128 + 128).toNat = m % 128 + 128 := by omega
    rw [this]
  rw [e, ← cs_append] at hown'
  simpa using hown'

theorem var_end {n m : Nat} {acc : List UInt8} {w wr w1 : World} {v v' : Value} (hm : m ≤ 127) (hacc : acc ++ vb m = vb n) (hown : wr.ownsRow w.heap.size 5 1 v acc.length (cs acc))
    (hown' : w1.ownsRow w.heap.size 5 1 v' (acc.length + 1) (cs acc ++ [.int .u8 (m : Int)])) (hgrow : (wr.alloc (.cells #[.int .u8 (m : Int)] 5)).grownBy w1 v.ownBlock) (hb : Below w.heap.size w wr) :
    w1.ownsRow w.heap.size 5 1 v' (vb n).length (cs (vb n)) ∧ Below w.heap.size w w1 := by
  refine ⟨?_, (hb.alloc hb.size _).grown hgrow (by have := hb.size; simp; omega) (fun k hk => (hown.lt k hk).1)⟩
  have e : [Value.int .u8 (m : Int)] = cs [UInt8.ofNat m] := by
    rw [cs_one (by omega) (by omega)]
    simp
  rw [e, ← cs_append, ← vb_small hm, hacc] at hown'
  have hl : acc.length + 1 = (vb n).length := by rw [← hacc, vb_small hm]; simp
  rw [hl] at hown'
  exact hown'

end Go.Proofs.Ythdklbmachplmaa

namespace Go.Proofs.Ythdklbmachplmaa
open Go.RowKit

/-- hidden from the walk -/
theorem hid {p : Prop} (h : p) : Hid p := h
theorem below_more {w w' : World} (h : Below w.heap.size w w') (o : Obj) : Below w.heap.size w (w'.alloc o) := h.alloc h.size o
theorem below_via {w w1 w2 : World} (h : Below w.heap.size w w1) (h2 : Below w1.heap.size w1 w2) : Below w.heap.size w w2 := h.trans (h2.mono h.size)

/-- block g holds just these cells, of elements of type t -/
def BlockIs (w : World) (g : Nat) (t : TypeId) (cs : List Value) : Prop := w.heap[g]? = some (.cells cs.toArray t (0, 0))

theorem BlockIs.lt {w : World} {g : Nat} {t : TypeId} {cs : List Value} (h : BlockIs w g t cs) : g < w.heap.size := by
  rcases Nat.lt_or_ge g w.heap.size with q | q
  · exact q
  · rw [BlockIs, Array.getElem?_eq_none q] at h; cases h
theorem BlockIs.cell {w : World} {g : Nat} {t : TypeId} {cs : List Value} (h : BlockIs w g t cs) {j : Nat} {v : Value} (hj : cs[j]? = some v) : w.cell? ⟨g, j, none⟩ = some v := by
  unfold BlockIs at h
  simp [World.cell?, h, hj]
theorem BlockIs.thaw {w : World} {g : Nat} {t : TypeId} {cs : List Value} (h : BlockIs w g t cs) (j : Nat) : w.frozen? ⟨g, j, none⟩ = false := by
  unfold BlockIs at h
  simp [World.frozen?, h]
theorem BlockIs.set {w : World} {g : Nat} {t : TypeId} {cs : List Value} (h : BlockIs w g t cs) (j : Nat) (v : Value) : BlockIs (w.setCell ⟨g, j, none⟩ v) g t (cs.set j v) := by
  unfold BlockIs at h ⊢
  simp only [World.setCell]
  rw [Array.getElem?_modify, if_pos rfl, h]
  simp [Array.setIfInBounds]
  exact fun hj => (List.set_eq_of_length_le hj).symm
theorem BlockIs.far {w : World} {g : Nat} {t : TypeId} {cs : List Value} (h : BlockIs w g t cs) {b j : Nat} (hb : b ≠ g) (v : Value) : BlockIs (w.setCell ⟨b, j, none⟩ v) g t cs := by
  unfold BlockIs at h ⊢
  simp only [World.setCell]
  rw [Array.getElem?_modify, if_neg hb]
  exact h
theorem BlockIs.on {w w' : World} {g : Nat} {t : TypeId} {cs : List Value} (h : BlockIs w g t cs) {B : Nat} (hb : Below B w w') (hg : g < B) : BlockIs w' g t cs := by
  unfold BlockIs
  rw [hb.block g hg]
  exact h
theorem BlockIs.made {w' : World} {g base : Nat} {t : TypeId} {n size : Nat} {xs : List Value} (h : w'.ownsRow base t size (.slice (some ⟨g, 0, none⟩) n n) n xs) : BlockIs w' g t xs := by
  obtain ⟨hx, (⟨h1, _⟩ | ⟨g', cap, cur, h1, _, hg, _, _, hs, ht⟩)⟩ := h
  · cases h1
  · cases h1
    unfold BlockIs
    rw [hg]
    have : cur.toList = xs := by rw [← ht, List.take_of_length_le (by simp [hs])]
    rw [← this]

/-- a cell of a row of elements of m cells each -/
theorem row_at {α : Type} (enc : α → List Value) (m : Nat) (hm : ∀ a, (enc a).length = m) (l : List α) (r : List Value) (j c : Nat) (hj : j < l.length) (hc : c < m) : (l.flatMap enc ++ r)[j * m + c]? = (enc l[j])[c]? := by
  induction l generalizing j with
  | nil => simp at hj
  | cons a l ih =>
    cases j with
    | zero =>
      simp only [List.flatMap_cons, Nat.zero_mul, Nat.zero_add, List.getElem_cons_zero, List.append_assoc]
      rw [List.getElem?_append_left (by rw [hm]; exact hc)]
    | succ j =>
      simp only [List.flatMap_cons, List.getElem_cons_succ, List.append_assoc]
      rw [List.getElem?_append_right (by rw [hm, Nat.succ_mul]; omega), hm, show (j + 1) * m + c - m = j * m + c by rw [Nat.succ_mul]; omega]
      exact ih j (by simpa using hj)
theorem row_length {α : Type} (enc : α → List Value) (m : Nat) (hm : ∀ a, (enc a).length = m) (l : List α) : (l.flatMap enc).length = l.length * m := by
  induction l with
  | nil => simp
  | cons a l ih => simp only [List.flatMap_cons, List.length_append, hm, ih, List.length_cons, Nat.succ_mul]; omega
/-- three cells of a list, written -/
theorem set_three (p : List Value) (a b c x y z : Value) (r : List Value) : (((p ++ x :: y :: z :: r).set p.length a).set (p.length + 1) b).set (p.length + 2) c = p ++ a :: b :: c :: r := by
  rw [List.set_append_right _ _ (Nat.le_refl _), List.set_append_right _ _ (by omega), List.set_append_right _ _ (by omega)]
  simp
end Go.Proofs.Ythdklbmachplmaa

namespace Go.Proofs.Ythdklbmachplmaa
open Go.RowKit

theorem row_shape {w : World} {base size n : Nat} {t : TypeId} {v : Value} {xs : List Value} (h : w.ownsRow base t size v n xs) : ∃ a c, v = .slice a n c := by
  obtain ⟨_, (⟨rfl, rfl⟩ | ⟨g, cap, _, rfl, _⟩)⟩ := h
  · exact ⟨_, _, rfl⟩
  · exact ⟨_, _, rfl⟩
theorem row_down {w : World} {base base' size n : Nat} {t : TypeId} {v : Value} {xs : List Value} (h : w.ownsRow base t size v n xs) (hb : base' ≤ base) : w.ownsRow base' t size v n xs :=
  ⟨h.1, h.2.imp id fun ⟨g, cap, cur, a, b, r⟩ => ⟨g, cap, cur, a, Nat.le_trans hb b, r⟩⟩
/-- behind an append to a row of the call's own: all that was there ahead of the row stands -/
theorem behind_append {w wr w1 : World} {v : Value} {base n : Nat} {t : TypeId} {size : Nat} {xs : List Value} {o : Obj} (hB : w.heap.size ≤ base) (BR : Below w.heap.size w wr) (OR : wr.ownsRow base t size v n xs) (hz : base ≤ wr.heap.size) (hg : (wr.alloc o).drew.grownBy w1 v.ownBlock) :
    Below w.heap.size w w1 ∧ base ≤ w1.heap.size ∧ ∀ j tj cs, j < base → BlockIs wr j tj cs → BlockIs w1 j tj cs := by
  have hown : ∀ j, v.ownBlock = some j → base ≤ j := fun j hj => (OR.lt j hj).1
  have hd : Below wr.heap.size wr (wr.alloc o).drew := below_drewN (below_more (Below.refl _ wr) o) 1
  have h1 : Below base wr w1 := ((hd.mono hz).grown hg (Nat.le_trans hz hd.size) hown)
  refine ⟨BR.trans (h1.mono hB), Nat.le_trans hz h1.size, fun j tj cs hj hb => hb.on h1 hj⟩
end Go.Proofs.Ythdklbmachplmaa

namespace Go.Proofs.Ythdklbmachplmaa
open Go.RowKit

/-- four blocks laid one behind the other -/
theorem four_log (w : World) (o p q : Obj) : Below w.heap.size w (((w.alloc o).alloc p).alloc q) ∧ (((w.alloc o).alloc p).alloc q).heap[w.heap.size]? = some o ∧ (((w.alloc o).alloc p).alloc q).heap[w.heap.size + 1]? = some p ∧ (((w.alloc o).alloc p).alloc q).heap[w.heap.size + 1 + 1]? = some q := by
  refine ⟨below_more (below_more (below_more (Below.refl _ w) _) _) _, ?_, ?_, ?_⟩
  · show (((w.heap.push o).push p).push q)[w.heap.size]? = some o
    rw [Array.getElem?_push, if_neg (by simp; omega), Array.getElem?_push, if_neg (by simp), Array.getElem?_push, if_pos rfl]
  · show (((w.heap.push o).push p).push q)[w.heap.size + 1]? = some p
    rw [Array.getElem?_push, if_neg (by simp), Array.getElem?_push, if_pos (by simp)]
  · show (((w.heap.push o).push p).push q)[w.heap.size + 1 + 1]? = some q
    rw [Array.getElem?_push, if_pos (by simp)]

/-- a row of the call's own, made between two sizes of memory -/
def OwnAt (w : World) (t : TypeId) (cs : List Value) (n : Nat) (va : Option Addr) (lo hi : Nat) : Prop :=
  n = 0 ∨ ∃ g r, va = some ⟨g, 0, none⟩ ∧ lo ≤ g ∧ g < hi ∧ BlockIs w g t (cs ++ r)
theorem OwnAt.on {w w' : World} {t : TypeId} {cs : List Value} {n : Nat} {va : Option Addr} {lo hi : Nat} (h : OwnAt w t cs n va lo hi) (hb : Below w.heap.size w w') : OwnAt w' t cs n va lo hi :=
  h.imp id fun ⟨g, r, a, b, c, d⟩ => ⟨g, r, a, b, c, d.on hb d.lt⟩
theorem OwnAt.down {w : World} {t : TypeId} {cs : List Value} {n : Nat} {va : Option Addr} {lo hi lo' hi' : Nat} (h : OwnAt w t cs n va lo hi) (h1 : lo' ≤ lo) (h2 : hi ≤ hi') : OwnAt w t cs n va lo' hi' :=
  h.imp id fun ⟨g, r, a, b, c, d⟩ => ⟨g, r, a, Nat.le_trans h1 b, Nat.lt_of_lt_of_le c h2, d⟩
/-- a cell below is written -/
theorem OwnAt.far {w : World} {t : TypeId} {cs : List Value} {n : Nat} {va : Option Addr} {lo b j : Nat} (h : OwnAt w t cs n va lo w.heap.size) (hb : b < lo) (v : Value) : OwnAt (w.setCell ⟨b, j, none⟩ v) t cs n va lo (w.setCell ⟨b, j, none⟩ v).heap.size := by
  rw [World.size_setCell]
  exact h.imp id fun ⟨g, r, a, c, d, e⟩ => ⟨g, r, a, c, d, e.far (by omega) v⟩
/-- nothing but blocks between two sizes has turned -/
def KeptBut (lo hi : Nat) (w w' : World) : Prop := ∀ j t cs, ¬ (lo ≤ j ∧ j < hi) → BlockIs w j t cs → BlockIs w' j t cs
theorem OwnAt.kept {w w' : World} {t : TypeId} {cs : List Value} {n : Nat} {va : Option Addr} {lo hi lo2 hi2 : Nat} (h : OwnAt w t cs n va lo hi) (hk : KeptBut lo2 hi2 w w') (ho : hi ≤ lo2 ∨ hi2 ≤ lo) : OwnAt w' t cs n va lo hi :=
  h.imp id fun ⟨g, r, a, b, c, d⟩ => ⟨g, r, a, b, c, hk _ _ _ (by omega) d⟩
theorem BlockIs.kept {w w' : World} {g lo hi : Nat} {t : TypeId} {cs : List Value} (h : BlockIs w g t cs) (hk : KeptBut lo hi w w') (ho : g < lo ∨ hi ≤ g) : BlockIs w' g t cs := hk _ _ _ (by omega) h
theorem row_ext {x y : World} {base size n : Nat} {t : TypeId} {v : Value} {xs : List Value} (h : x.ownsRow base t size v n xs) (hb : ∀ g cs, BlockIs x g t cs → BlockIs y g t cs) : y.ownsRow base t size v n xs := by
  refine ⟨h.1, h.2.imp id ?_⟩
  rintro ⟨g, cap, cur, a, b, c, r⟩
  have := hb g cur.toList (by unfold BlockIs; rw [c])
  unfold BlockIs at this
  exact ⟨g, cap, cur, a, b, by rw [this], r⟩
theorem OwnAt.ext {x y : World} {t : TypeId} {cs : List Value} {n : Nat} {va : Option Addr} {lo : Nat} (h : OwnAt x t cs n va lo x.heap.size) (hs : x.heap.size ≤ y.heap.size) (hb : ∀ g r, BlockIs x g t (cs ++ r) → BlockIs y g t (cs ++ r)) : OwnAt y t cs n va lo y.heap.size :=
  h.imp id fun ⟨g, r, a, b, c, d⟩ => ⟨g, r, a, b, Nat.lt_of_lt_of_le c hs, hb g r d⟩
theorem row_block {w : World} {base size n : Nat} {t : TypeId} {v : Value} {xs : List Value} (h : w.ownsRow base t size v n xs) {g : Nat} (hg : v.ownBlock = some g) : ∃ cs, BlockIs w g t cs ∧ base ≤ g := by
  obtain ⟨_, (⟨rfl, _⟩ | ⟨g', cap, cur, rfl, hb, hc, _⟩)⟩ := h
  · cases hg
  · cases hg
    exact ⟨cur.toList, by unfold BlockIs; rw [hc], hb⟩
theorem block_one {w : World} {g : Nat} {t t' : TypeId} {cs cs' : List Value} (h : BlockIs w g t cs) (h' : BlockIs w g t' cs') : t = t' ∧ cs = cs' := by
  unfold BlockIs at h h'
  rw [h] at h'
  simp only [Option.some.injEq, Obj.cells.injEq] at h'
  exact ⟨h'.2.1, by simpa using h'.1⟩
end Go.Proofs.Ythdklbmachplmaa

namespace Go.Proofs.Ythdklbmachplmaa
open Go.RowKit

theorem grown_of_below {w w' : World} (h : Below w.heap.size w w') (row : Option Nat) : w.grownBy w' row := ⟨h.os, h.tape, h.output, h.size, fun k hk _ => h.block k hk⟩

theorem add_at (g j : Nat) : (⟨g, 0, none⟩ : Addr).add j = ⟨g, j, none⟩ := by
  simp only [Addr.add]
  split
  · simp_all
  · simp

/-- where an owned row lies -/
theorem row_lie {w : World} {base : Nat} {e : TypeId} {v : Value} {n : Nat} {xs : List Value} (h : w.ownsRow base e 1 v n xs) :
    xs.length = n ∧ ∃ ao cap, v = .slice ao n cap ∧ (0 < n → ∃ g, ao = some ⟨g, 0, none⟩ ∧ base ≤ g ∧ g < w.heap.size ∧ n ≤ cap ∧ v.ownBlock = some g ∧ (∀ (j : Nat) u, xs[j]? = some u → w.cell? ⟨g, j, none⟩ = some u) ∧ ∀ j, w.frozen? ⟨g, j, none⟩ = false) := by
  have h' := h
  obtain ⟨h1, h2⟩ := h
  refine ⟨by omega, ?_⟩
  rcases h2 with ⟨hv, hn⟩ | ⟨g, cap, cur, hv, hgb, hh, hle, hmx, hsz, hx⟩
  · exact ⟨none, 0, by rw [hv, hn], fun h0 => by omega⟩
  · refine ⟨_, cap, hv, fun _ => ⟨g, rfl, hgb, (h'.lt g (by rw [hv]; rfl)).2, hle, by rw [hv]; rfl, fun j u hu => ?_, fun j => ?_⟩⟩
    · have := h'.cells (g := g) (by rw [hv]; rfl) j _ hu
      rw [add_at] at this
      exact this
    · simp [World.frozen?, hh]

/-- an owned row, one of its cells written -/
theorem ownsRow_set {w : World} {base : Nat} {e : TypeId} {v : Value} {n : Nat} {xs : List Value} (h : w.ownsRow base e 1 v n xs) {g : Nat} (hg : v.ownBlock = some g) (k : Nat) (u : Value) :
    (w.setCell ⟨g, k, none⟩ u).ownsRow base e 1 v n (xs.set k u) := by
  obtain ⟨h1, h2⟩ := h
  rcases h2 with ⟨hv, hn⟩ | ⟨g', cap, cur, hv, hgb, hh, hle, hmx, hsz, hx⟩
  · rw [hv] at hg; cases hg
  · rw [hv] at hg
    simp only [Value.ownBlock, Option.some.injEq] at hg
    subst hg
    refine ⟨by simpa using h1, Or.inr ⟨g', cap, cur.setIfInBounds k u, hv, hgb, ?_, hle, hmx, by simpa using hsz, ?_⟩⟩
    · simp only [World.setCell]
      rw [Array.getElem?_modify, if_pos rfl, hh]
      rfl
    · rw [Array.toList_setIfInBounds, ← hx, List.take_set]

/-- a place of an owned row may be written -/
theorem at_row {w : World} {base : Nat} {e : TypeId} {g n c : Nat} {xs : List Value} (h : w.ownsRow base e 1 (.slice (some ⟨g, 0, none⟩) n c) n xs) (k : Nat) (hk : k < n) : ∃ u, w.cell? ⟨g, k, none⟩ = some u ∧ w.frozen? ⟨g, k, none⟩ = false := by
  obtain ⟨hl, ao, cap, hv, hf⟩ := row_lie h
  obtain ⟨g', e1, _, _, _, _, hc, hz⟩ := hf (by omega)
  simp only [Value.slice.injEq] at hv
  obtain ⟨rfl, _, _⟩ := hv
  simp only [Option.some.injEq, Addr.mk.injEq, and_true] at e1
  subst e1
  have hk' : k < xs.length := by omega
  exact ⟨xs[k], hc k _ (List.getElem?_eq_getElem hk'), hz k⟩

theorem grownBy_set (w : World) (g k : Nat) (u : Value) : w.grownBy (w.setCell ⟨g, k, none⟩ u) (some g) :=
  ⟨rfl, rfl, rfl, by simp [World.setCell], fun j _ hj => Below.heap_setCell _ _ _ _ (fun e => hj (by simp [e]))⟩

/-- the one cell of a new block -/
theorem one_new (w : World) (x : Value) (t : TypeId) : ∀ (j : Nat) u, [x][j]? = some u → (w.alloc (.cells #[x] t)).cell? ((⟨w.heap.size, 0, none⟩ : Addr).add j) = some u := by
  intro j u hj
  match j, hj with
  | 0, hj => simp at hj; subst hj; simp [Addr.add]

/-- texts as the cells of a row -/
def st (l : List ByteArray) : List Value := l.map Value.string
theorem st_append (l r : List ByteArray) : st (l ++ r) = st l ++ st r := by simp [st]
theorem st_length (l : List ByteArray) : (st l).length = l.length := by simp [st]
theorem st_at (l : List ByteArray) (k : Nat) (h : k < l.length) : (st l)[k]? = some (.string l[k]) := by simp [st, h]
end Go.Proofs.Ythdklbmachplmaa

namespace Go.Proofs.Ythdklbmachplmaa
open Go.RowKit

/-- numbers lie at an address, one behind the other -/
def IntsAt (w : World) (ao : Option Addr) (zs : List Int) : Prop := zs ≠ [] → ∃ b off, ao = some ⟨b, off, none⟩ ∧ ∀ j (hj : j < zs.length), w.cell? ⟨b, off + j, none⟩ = some (.int .i64 zs[j])
theorem IntsAt.on {w w' : World} {ao : Option Addr} {zs : List Int} (h : IntsAt w ao zs) (hb : Below w.heap.size w w') : IntsAt w' ao zs := by
  intro h0
  obtain ⟨b, off, e1, e2⟩ := h h0
  exact ⟨b, off, e1, fun j hj => (hb.cell (p := ⟨b, off + j, none⟩) (World.block_lt_of_cell? w _ (e2 j hj))).trans (e2 j hj)⟩
/-- numbers in their cells -/
def intCells (zs : List Int) : List Value := zs.map (Value.int .i64)
theorem intsAt_of {w : World} {g : Nat} {t : TypeId} {zs : List Int} {r : List Value} (h : BlockIs w g t (intCells zs ++ r)) : IntsAt w (some ⟨g, 0, none⟩) zs := by
  intro _
  refine ⟨g, 0, rfl, fun j hj => ?_⟩
  rw [Nat.zero_add]
  refine h.cell ?_
  rw [List.getElem?_append_left (by simpa [intCells] using hj)]
  simp [intCells, hj]
/-- a cell of a list, written -/
theorem set_one (p : List Value) (a x : Value) (r : List Value) : (p ++ x :: r).set p.length a = p ++ a :: r := by
  rw [List.set_append_right _ _ (Nat.le_refl _)]
  simp
end Go.Proofs.Ythdklbmachplmaa

namespace Go.Proofs.Ythdklbmachplmaa
open Go.RowKit

/-- values lie at an address, one behind the other -/
def ValsAt (w : World) (ao : Option Addr) (cs : List Value) : Prop := cs ≠ [] → ∃ b off, ao = some ⟨b, off, none⟩ ∧ ∀ j (hj : j < cs.length), w.cell? ⟨b, off + j, none⟩ = some cs[j]
theorem ValsAt.on {w w' : World} {ao : Option Addr} {cs : List Value} (h : ValsAt w ao cs) (hb : Below w.heap.size w w') : ValsAt w' ao cs := by
  intro h0
  obtain ⟨b, off, e1, e2⟩ := h h0
  exact ⟨b, off, e1, fun j hj => (hb.cell (p := ⟨b, off + j, none⟩) (World.block_lt_of_cell? w _ (e2 j hj))).trans (e2 j hj)⟩
theorem valsAt_of {w : World} {g : Nat} {t : TypeId} {cs r : List Value} (h : BlockIs w g t (cs ++ r)) : ValsAt w (some ⟨g, 0, none⟩) cs := by
  intro _
  refine ⟨g, 0, rfl, fun j hj => ?_⟩
  rw [Nat.zero_add]
  refine h.cell ?_
  rw [List.getElem?_append_left hj, List.getElem?_eq_getElem hj]
theorem OwnAt.vals {w : World} {t : TypeId} {cs : List Value} {n : Nat} {va : Option Addr} {lo hi : Nat} (h : OwnAt w t cs n va lo hi) (hn : cs.length = n) : ValsAt w va cs := by
  rcases h with h | ⟨g, r, rfl, _, _, h⟩
  · intro h0
    exact absurd (List.length_eq_zero_iff.1 (hn.trans h)) h0
  · exact valsAt_of h
theorem ValsAt.ints {w : World} {ao : Option Addr} {zs : List Int} (h : ValsAt w ao (intCells zs)) : IntsAt w ao zs := by
  intro h0
  obtain ⟨b, off, e1, e2⟩ := h (by intro e; apply h0; simpa [intCells] using e)
  exact ⟨b, off, e1, fun j hj => by simpa [intCells] using e2 j (by simpa [intCells] using hj)⟩
theorem vals_of_ints {w : World} {ao : Option Addr} {zs : List Int} (h : IntsAt w ao zs) : ValsAt w ao (intCells zs) := by
  intro h0
  obtain ⟨b, off, e1, e2⟩ := h (by intro e; apply h0; simp [intCells, e])
  exact ⟨b, off, e1, fun j hj => by simpa [intCells] using e2 j (by simpa [intCells] using hj)⟩
theorem st_one (l : List ByteArray) : ∀ u ∈ st l, u.oneCell' = true := by
  intro u hu
  obtain ⟨a, _, rfl⟩ := List.mem_map.1 hu
  rfl
theorem int_one (l : List Int) : ∀ u ∈ intCells l, u.oneCell' = true := by
  intro u hu
  obtain ⟨a, _, rfl⟩ := List.mem_map.1 hu
  rfl
theorem intCells_length (l : List Int) : (intCells l).length = l.length := by simp [intCells]
theorem intCells_append (l r : List Int) : intCells (l ++ r) = intCells l ++ intCells r := by simp [intCells]
set_option maxRecDepth 1000000 in
theorem vals_info9 : (Try.prog.info? 9).map (fun i => (i.zero, i.size, i.bytes)) = some (some (.string ⟨#[]⟩), 1, 16) := by kernel_rfl
set_option maxRecDepth 1000000 in
theorem vals_info3 : (Try.prog.info? 3).map (fun i => (i.zero, i.size, i.bytes)) = some (some (.int .i64 0), 1, 8) := by kernel_rfl
theorem rows_below {w w2 : World} {base size n : Nat} {t : TypeId} {v : Value} {xs : List Value} (h : w.ownsRow base t size v n xs) (hb : Below w.heap.size w w2) : w2.ownsRow base t size v n xs := by
  refine h.kept (grown_of_below hb none) ?_
  cases v.ownBlock with
  | none => exact Or.inl rfl
  | some g => exact Or.inr (by simp)
theorem own_of_row {w : World} {base size n : Nat} {t : TypeId} {va : Option Addr} {vc : Nat} {cs : List Value} (h : w.ownsRow base t size (.slice va n vc) n cs) : OwnAt w t cs n va base w.heap.size := by
  rcases h.2 with ⟨hv, h0⟩ | ⟨g, cp, cur, hv, hb, hh, hle, _, _, ht⟩
  · exact Or.inl h0
  · simp only [Value.slice.injEq] at hv
    obtain ⟨rfl, _, rfl⟩ := hv
    have hcur : cur.toList = cs ++ cur.toList.drop (n * size) := by rw [← ht, List.take_append_drop]
    have hk : BlockIs w g t (cs ++ cur.toList.drop (n * size)) := by unfold BlockIs; rw [hh, ← hcur]
    exact Or.inr ⟨g, _, rfl, hb, hk.lt, hk⟩
theorem row_cap {w : World} {base size n : Nat} {t : TypeId} {va : Option Addr} {vc : Nat} {cs : List Value} (h : w.ownsRow base t size (.slice va n vc) n cs) : n ≤ vc ∧ vc ≤ maxLen := by
  rcases h.2 with ⟨hv, h0⟩ | ⟨g, cp, cur, hv, hb, hh, hle, hm, _, ht⟩
  · simp only [Value.slice.injEq] at hv
    obtain ⟨_, rfl, rfl⟩ := hv
    exact ⟨Nat.le_refl _, Nat.zero_le _⟩
  · simp only [Value.slice.injEq] at hv
    obtain ⟨_, _, rfl⟩ := hv
    exact ⟨hle, hm⟩
theorem row_grow {m : Nat} {w w1 w2 : World} {base size n : Nat} {t : TypeId} {v : Value} {xs : List Value} (h : Below m w w1) (hr : w1.ownsRow base t size v n xs) (hg : w1.grownBy w2 v.ownBlock) (hb : m ≤ base) (hm : m ≤ w1.heap.size) : Below m w w2 :=
  h.grown hg hm (fun k e => by have := (hr.lt k e).1; omega)
/-- values behind a row of the call's own -/
theorem append_vals {S t : TypeId} {z : Value} {bs : Nat} (hu : Try.prog.underlying S = some (.slice t)) (hi : (Try.prog.info? t).map (fun i => (i.zero, i.size, i.bytes)) = some (some z, 1, bs)) (hz : z.cells.size = 1) (hbs : bs ≤ 16)
    {W : World} {v : Value} {base c : Nat} {xs ys : List Value} {ao : Option Addr} (hone : ∀ u ∈ ys, u.oneCell' = true) (hn : xs.length + ys.length ≤ 4194304) (hbase : base ≤ W.heap.size) (hr : W.ownsRow base t 1 v xs.length xs) (hM : ValsAt W ao ys) :
    ∃ v' W', (Builtin.append_ #[S, S] S #[v, .slice ao ys.length c]).run Try.prog W = .ok v' W' ∧ W'.ownsRow base t 1 v' (xs.length + ys.length) (xs ++ ys) ∧ W.grownBy W' v.ownBlock := by
  obtain ⟨i0, hi, hz0, hz1, hz2⟩ := info_parts hi
  cases ao with
  | none =>
    have hM0 : ys = [] := by
      by_cases hne : ys = []
      · exact hne
      · obtain ⟨b, off, e, _⟩ := hM hne
        cases e
    subst hM0
    refine ⟨v, W, ?_, by simpa using hr, World.grownBy.refl _ _⟩
    obtain ⟨va, vc, rfl⟩ := row_shape hr
    have hlc := (row_cap hr).1
    cases va <;> simp [Builtin.append_, run_underlying hu, sizeOf, typeInfo, hi, Builtin.lenOf, Builtin.firstCells, storeCells, hlc]
  | some ad =>
    have hnews : ∀ j u, ys[j]? = some u → W.cell? (ad.add j) = some u := by
      intro j u hj
      have hlt : j < ys.length := (List.getElem?_eq_some_iff.1 hj).1
      obtain ⟨b, off, e, hc⟩ := hM (by intro e; rw [e] at hlt; simp at hlt)
      cases e
      rw [Addr.add_lit, hc j hlt, ← hj, List.getElem?_eq_getElem hlt]
    have hmul : (xs.length + ys.length) * bs ≤ 140737488355328 := Nat.le_trans (Nat.mul_le_mul hn hbs) (by decide)
    obtain ⟨v', W', h1, h2, h3, _⟩ := run_append_own (P := Try.prog) W base S S t i0 z 1 bs hu hi hz0 hz1 hz2 hz (by decide) v xs.length xs hr ad ys.length c ys (by omega) hnews hone (by unfold maxLen; omega) hmul hbase
    exact ⟨v', W', h1, h2, h3⟩
theorem wpList_append_vals {S t : TypeId} {z : Value} {bs : Nat} (hu : Try.prog.underlying S = some (.slice t)) (hi : (Try.prog.info? t).map (fun i => (i.zero, i.size, i.bytes)) = some (some z, 1, bs)) (hz : z.cells.size = 1) (hbs : bs ≤ 16)
    {w : World} {ops : Array Oper} {rest : List Oper} {o : Oper} {a : Act} {Q : Exit → Act → World → Prop} (hgd : o.guard = none) (s x : Operand)
    (ho : o.op = .call { callee := .builtin .append, args := #[s, x], argTypes := #[S, S] }) (hty : o.type = S) {v : Value} {base c m n N : Nat} {xs ys : List Value} {ao : Option Addr} (hs : a.eval s = v) (hx : a.eval x = .slice ao m c)
    (hm : ys.length = m) (hn : xs.length = n) (hN : n + m = N) (hone : ∀ u ∈ ys, u.oneCell' = true) (hl : N ≤ 4194304) (hbase : base ≤ w.heap.size) (hr : w.ownsRow base t 1 v n xs) (hM : ValsAt w ao ys)
    (h : ∀ va vc w1, w1.ownsRow base t 1 (.slice va N vc) N (xs ++ ys) → w.grownBy w1 v.ownBlock → wpList Try.prog ops Q rest (a.put o.dst (.slice va N vc)) w1) : wpList Try.prog ops Q (o :: rest) a w := by
  subst hm hn hN
  obtain ⟨v', W', hrun, h2, h3⟩ := append_vals (c := c) hu hi hz hbs hone hl hbase hr hM
  obtain ⟨va, vc, rfl⟩ := row_shape h2
  refine wpList_plain hgd fun K hK => ?_
  unfold Oper.wp
  simp [execOp, ho, hty, resolve, invoke, builtin, hs, hx, hrun, Result.andThen]
  exact hK _ _ (h va vc W' h2 h3)
theorem vals_nil (w : World) (t : TypeId) (m : Nat) (hm : m ≤ w.heap.size) : World.ownsRow (w.alloc (.cells #[] t)) m t 1 (.slice (some ⟨w.heap.size, 0, none⟩) 0 0) 0 [] :=
  row_down (World.ownsRow_made w (size := 1) (e := t) #[] 0 (Nat.le_refl _) (Nat.zero_le _) rfl) hm
end Go.Proofs.Ythdklbmachplmaa

namespace Go.Proofs.Ythdklbmachplmaa

structure SlD where
  ad : Option Addr
  len : Nat
  cap : Nat
end Go.Proofs.Ythdklbmachplmaa

namespace Go.Proofs.Ythdklbmachplmaa
open Go.RowKit

structure BitsD where
  src : Int
  ident : Int
  tx : SlD
  ax : SlD
  total : Int
  lim : Int
/-- numbers that are numbers, texts that are texts -/
def BitsD.Fits (e : BitsD) : Prop := (-9223372036854775808 ≤ e.src ∧ e.src ≤ 9223372036854775807) ∧ (-9223372036854775808 ≤ e.ident ∧ e.ident ≤ 9223372036854775807) ∧ True ∧ True ∧ (-9223372036854775808 ≤ e.total ∧ e.total ≤ 9223372036854775807) ∧ (-9223372036854775808 ≤ e.lim ∧ e.lim ≤ 9223372036854775807)
def bitsEnc (e : BitsD) : List Value := [.int .i64 e.src, .int .i64 e.ident, .slice e.tx.ad e.tx.len e.tx.cap, .slice e.ax.ad e.ax.len e.ax.cap, .int .i64 e.total, .int .i64 e.lim]
/-- the cells of a row -/
def bitsCells (l : List BitsD) : List Value := l.flatMap bitsEnc
theorem bitsCells_length (l : List BitsD) : (bitsCells l).length = l.length * 6 := row_length bitsEnc 6 (fun _ => rfl) l
theorem bitsCells_take (l : List BitsD) (k : Nat) (h : k < l.length) : bitsCells (l.take (k + 1)) = bitsCells (l.take k) ++ bitsEnc l[k] := by
  rw [List.take_succ_eq_append_getElem h, bitsCells, bitsCells, List.flatMap_append]
  simp
/-- how many letters -/
def bitsOne (_e : BitsD) : Int := (0 : Int)
theorem bitsOne_nonneg (e : BitsD) : 0 ≤ bitsOne e := by unfold bitsOne; omega
def bitsBulk : List BitsD → Int
  | [] => 0
  | f :: l => bitsOne f + bitsBulk l
theorem bitsBulk_nonneg (l : List BitsD) : 0 ≤ bitsBulk l := by
  induction l with
  | nil => exact Int.le_refl 0
  | cons f l ih => have := bitsOne_nonneg f; simp only [bitsBulk]; omega
theorem bitsBulk_take (l : List BitsD) (k : Nat) (h : k < l.length) : bitsBulk (l.take (k + 1)) = bitsBulk (l.take k) + bitsOne l[k] := by
  induction l generalizing k with
  | nil => simp at h
  | cons f l ih =>
    cases k with
    | zero => simp [bitsBulk]
    | succ k =>
      have := ih k (by simpa using h)
      simp only [List.take_succ_cons, bitsBulk, List.getElem_cons_succ] at this ⊢
      omega
theorem bitsBulk_le (l : List BitsD) (k : Nat) : bitsBulk (l.take k) ≤ bitsBulk l := by
  induction l generalizing k with
  | nil => simp [bitsBulk]
  | cons f l ih =>
    cases k with
    | zero => have := bitsBulk_nonneg (f :: l); simpa [bitsBulk] using this
    | succ k => have := ih k; simp only [List.take_succ_cons, bitsBulk]; omega
theorem bits_le_bulk {l : List BitsD} {f : BitsD} (h : f ∈ l) : bitsOne f ≤ bitsBulk l := by
  induction l with
  | nil => cases h
  | cons g l ih =>
    simp only [bitsBulk]
    have := bitsBulk_nonneg l
    have := bitsOne_nonneg g
    rcases List.mem_cons.1 h with e | e
    · subst e; omega
    · have := ih e; omega
/-- few and short -/
def BitssSmall (l : List BitsD) : Prop := l.length ≤ 1048576 ∧ ∀ f ∈ l, bitsOne f ≤ 1048576
theorem bitssSmall {l : List BitsD} (h : 0 ≤ (1048576 : Int) - l.length - bitsBulk l) : BitssSmall l := by
  have := bitsBulk_nonneg l
  exact ⟨by omega, fun f hf => by have := bits_le_bulk hf; omega⟩
/-- they lie at an address, one behind the other -/
def BitssAt (w : World) (ao : Option Addr) (l : List BitsD) : Prop :=
  l ≠ [] → ∃ b off, ao = some ⟨b, off, none⟩ ∧ ∀ j (hj : j < l.length), w.cell? ⟨b, off + j * 6, none⟩ = some (.int .i64 l[j].src) ∧ w.cell? ⟨b, off + j * 6 + 1, none⟩ = some (.int .i64 l[j].ident) ∧ w.cell? ⟨b, off + j * 6 + 2, none⟩ = some (.slice l[j].tx.ad l[j].tx.len l[j].tx.cap) ∧ w.cell? ⟨b, off + j * 6 + 3, none⟩ = some (.slice l[j].ax.ad l[j].ax.len l[j].ax.cap) ∧ w.cell? ⟨b, off + j * 6 + 4, none⟩ = some (.int .i64 l[j].total) ∧ w.cell? ⟨b, off + j * 6 + 5, none⟩ = some (.int .i64 l[j].lim)
theorem bitssAt_of {w : World} {g : Nat} {t : TypeId} {l : List BitsD} {r : List Value} (h : BlockIs w g t (bitsCells l ++ r)) : BitssAt w (some ⟨g, 0, none⟩) l := by
  intro _
  refine ⟨g, 0, rfl, fun j hj => ?_⟩
  rw [Nat.zero_add]
  exact ⟨h.cell (row_at bitsEnc 6 (fun _ => rfl) l r j 0 hj (by omega)), h.cell (row_at bitsEnc 6 (fun _ => rfl) l r j 1 hj (by omega)), h.cell (row_at bitsEnc 6 (fun _ => rfl) l r j 2 hj (by omega)), h.cell (row_at bitsEnc 6 (fun _ => rfl) l r j 3 hj (by omega)), h.cell (row_at bitsEnc 6 (fun _ => rfl) l r j 4 hj (by omega)), h.cell (row_at bitsEnc 6 (fun _ => rfl) l r j 5 hj (by omega))⟩
def BitssFit (l : List BitsD) : Prop := ∀ j (hj : j < l.length), l[j].Fits
theorem BitssAt.on {w w' : World} {ao : Option Addr} {l : List BitsD} (h : BitssAt w ao l) (hb : Below w.heap.size w w') : BitssAt w' ao l := by
  intro h0
  obtain ⟨b, off, e1, e2⟩ := h h0
  refine ⟨b, off, e1, fun j hj => ?_⟩
  obtain ⟨x0, x1, x2, x3, x4, x5⟩ := e2 j hj
  exact ⟨(hb.cell (p := ⟨b, off + j * 6, none⟩) (World.block_lt_of_cell? w _ x0)).trans x0, (hb.cell (p := ⟨b, off + j * 6 + 1, none⟩) (World.block_lt_of_cell? w _ x1)).trans x1, (hb.cell (p := ⟨b, off + j * 6 + 2, none⟩) (World.block_lt_of_cell? w _ x2)).trans x2, (hb.cell (p := ⟨b, off + j * 6 + 3, none⟩) (World.block_lt_of_cell? w _ x3)).trans x3, (hb.cell (p := ⟨b, off + j * 6 + 4, none⟩) (World.block_lt_of_cell? w _ x4)).trans x4, (hb.cell (p := ⟨b, off + j * 6 + 5, none⟩) (World.block_lt_of_cell? w _ x5)).trans x5⟩
/-- cells of a list, written -/
theorem bits_sets (p : List Value) (a0 a1 a2 a3 a4 a5 o0 o1 o2 o3 o4 o5 : Value) (r : List Value) : ((((((p ++ o0 :: o1 :: o2 :: o3 :: o4 :: o5 :: r).set (p.length) a0).set (p.length + 1) a1).set (p.length + 2) a2).set (p.length + 3) a3).set (p.length + 4) a4).set (p.length + 5) a5 = p ++ a0 :: a1 :: a2 :: a3 :: a4 :: a5 :: r := by
  rw [List.set_append_right _ _ (Nat.le_refl _), List.set_append_right _ _ (by omega), List.set_append_right _ _ (by omega), List.set_append_right _ _ (by omega), List.set_append_right _ _ (by omega), List.set_append_right _ _ (by omega)]
  simp
theorem bits_set_other {cs : List Value} {i j : Nat} {v u : Value} (h : cs[j]? = some u) (hij : i ≠ j) : (cs.set i v)[j]? = some u := by
  rw [List.getElem?_set_ne hij]; exact h
end Go.Proofs.Ythdklbmachplmaa

namespace Go.Proofs.Ythdklbmachplmaa
open Go.RowKit

theorem toBits_info : (Try.prog.info? 35).map (fun i => (i.zero, i.size, i.bytes)) = some (some (.agg #[.int .i64 0, .int .i64 0, .slice none 0 0, .slice none 0 0, .int .i64 0, .int .i64 0]), 6, 80) := by kernel_rfl
/-- an element's cells are written -/
theorem put_bits {w w2 : World} {g k : Nat} {t : TypeId} {l : List BitsD} {r : List Value} (hk : k < l.length) (h : BlockIs w g t (bitsCells (l.take k) ++ r)) (hr : r.length = (l.length - k) * 6) {B : Nat} (hb : Below B w w2) (hg : g < B) :
    (∃ o0 o1 o2 o3 o4 o5, w2.cell? ⟨g, k * 6, none⟩ = some o0 ∧ w2.cell? ⟨g, k * 6 + 1, none⟩ = some o1 ∧ w2.cell? ⟨g, k * 6 + 2, none⟩ = some o2 ∧ w2.cell? ⟨g, k * 6 + 3, none⟩ = some o3 ∧ w2.cell? ⟨g, k * 6 + 4, none⟩ = some o4 ∧ w2.cell? ⟨g, k * 6 + 5, none⟩ = some o5) ∧ (∀ j, w2.frozen? ⟨g, j, none⟩ = false) ∧
    ∃ r', r'.length = (l.length - (k + 1)) * 6 ∧ BlockIs ((((((w2.setCell ⟨g, k * 6, none⟩ (.int .i64 l[k].src)).setCell ⟨g, k * 6 + 1, none⟩ (.int .i64 l[k].ident)).setCell ⟨g, k * 6 + 2, none⟩ (.slice l[k].tx.ad l[k].tx.len l[k].tx.cap)).setCell ⟨g, k * 6 + 3, none⟩ (.slice l[k].ax.ad l[k].ax.len l[k].ax.cap)).setCell ⟨g, k * 6 + 4, none⟩ (.int .i64 l[k].total)).setCell ⟨g, k * 6 + 5, none⟩ (.int .i64 l[k].lim)) g t (bitsCells (l.take (k + 1)) ++ r') := by
  have h2 := h.on hb hg
  have hlen : (bitsCells (l.take k)).length = k * 6 := by rw [bitsCells_length, List.length_take]; omega
  match r, hr with
  | z0 :: z1 :: z2 :: z3 :: z4 :: z5 :: r', hr =>
    have hs := (((((h2.set (k * 6) (.int .i64 l[k].src)).set (k * 6 + 1) (.int .i64 l[k].ident)).set (k * 6 + 2) (.slice l[k].tx.ad l[k].tx.len l[k].tx.cap)).set (k * 6 + 3) (.slice l[k].ax.ad l[k].ax.len l[k].ax.cap)).set (k * 6 + 4) (.int .i64 l[k].total)).set (k * 6 + 5) (.int .i64 l[k].lim)
    have e3 := bits_sets (bitsCells (l.take k)) (.int .i64 l[k].src) (.int .i64 l[k].ident) (.slice l[k].tx.ad l[k].tx.len l[k].tx.cap) (.slice l[k].ax.ad l[k].ax.len l[k].ax.cap) (.int .i64 l[k].total) (.int .i64 l[k].lim) z0 z1 z2 z3 z4 z5 r'
    rw [hlen] at e3
    rw [e3] at hs
    refine ⟨⟨z0, z1, z2, z3, z4, z5, h2.cell ?_, h2.cell ?_, h2.cell ?_, h2.cell ?_, h2.cell ?_, h2.cell ?_⟩, fun j => h2.thaw j, r', ?_, ?_⟩
    · rw [List.getElem?_append_right (by omega), hlen, Nat.sub_self]; rfl
    · rw [List.getElem?_append_right (by omega), hlen, show k * 6 + 1 - k * 6 = 1 by omega]; rfl
    · rw [List.getElem?_append_right (by omega), hlen, show k * 6 + 2 - k * 6 = 2 by omega]; rfl
    · rw [List.getElem?_append_right (by omega), hlen, show k * 6 + 3 - k * 6 = 3 by omega]; rfl
    · rw [List.getElem?_append_right (by omega), hlen, show k * 6 + 4 - k * 6 = 4 by omega]; rfl
    · rw [List.getElem?_append_right (by omega), hlen, show k * 6 + 5 - k * 6 = 5 by omega]; rfl
    · simp at hr; omega
    · rw [bitsCells_take l k hk, List.append_assoc]
      exact hs
  | [], hr => simp at hr; omega
  | [_], hr => simp at hr; omega
  | [_, _], hr => simp at hr; omega
  | [_, _, _], hr => simp at hr; omega
  | [_, _, _, _], hr => simp at hr; omega
  | [_, _, _, _, _], hr => simp at hr; omega

theorem made_bits (n : Nat) : (madeCells (Value.agg #[.int .i64 0, .int .i64 0, .slice none 0 0, .slice none 0 0, .int .i64 0, .int .i64 0]).cells (n * 6)).toList.length = n * 6 := by
  simp [madeCells]
end Go.Proofs.Ythdklbmachplmaa

namespace Go.Proofs.Ythdklbmachplmaa
open Go.RowKit

theorem bitsR_one (a : BitsD) : ∀ u ∈ bitsEnc a, u.oneCell' = true := by
  intro u hu
  simp only [bitsEnc, List.mem_cons, List.not_mem_nil, or_false] at hu
  rcases hu with rfl | rfl | rfl | rfl | rfl | rfl <;> rfl
theorem bitsR_all (l : List BitsD) : ∀ u ∈ bitsCells l, u.oneCell' = true := by
  intro u hu
  obtain ⟨a, _, h⟩ := List.mem_flatMap.1 hu
  exact bitsR_one a u h
theorem bitsR_snoc (l : List BitsD) (a : BitsD) : bitsCells (l ++ [a]) = bitsCells l ++ bitsEnc a := by simp [bitsCells]
theorem bitsR_append (l m : List BitsD) : bitsCells (l ++ m) = bitsCells l ++ bitsCells m := by simp [bitsCells]
/-- the cells of a list that lies at an address -/
theorem bitss_cells {w : World} {b off : Nat} {l : List BitsD} (h : ∀ j (hj : j < l.length), w.cell? ⟨b, off + j * 6, none⟩ = some (.int .i64 l[j].src) ∧ w.cell? ⟨b, off + j * 6 + 1, none⟩ = some (.int .i64 l[j].ident) ∧ w.cell? ⟨b, off + j * 6 + 2, none⟩ = some (.slice l[j].tx.ad l[j].tx.len l[j].tx.cap) ∧ w.cell? ⟨b, off + j * 6 + 3, none⟩ = some (.slice l[j].ax.ad l[j].ax.len l[j].ax.cap) ∧ w.cell? ⟨b, off + j * 6 + 4, none⟩ = some (.int .i64 l[j].total) ∧ w.cell? ⟨b, off + j * 6 + 5, none⟩ = some (.int .i64 l[j].lim)) :
    ∀ j u, (bitsCells l)[j]? = some u → w.cell? ((⟨b, off, none⟩ : Addr).add j) = some u := by
  intro j u hu
  have hlt : j < (bitsCells l).length := (List.getElem?_eq_some_iff.1 hu).1
  rw [bitsCells_length] at hlt
  have hj : j / 6 < l.length := by omega
  have hr := row_at bitsEnc 6 (fun _ => rfl) l [] (j / 6) (j % 6) hj (Nat.mod_lt _ (by omega))
  rw [List.append_nil, show j / 6 * 6 + j % 6 = j by omega] at hr
  have hu' : (bitsEnc l[j / 6])[j % 6]? = some u := by rw [← hr]; exact hu
  have hadd : (⟨b, off, none⟩ : Addr).add j = ⟨b, off + j, none⟩ := Addr.add_lit _ _ _
  rw [hadd]
  obtain ⟨h0, h1, h2, h3, h4, h5⟩ := h (j / 6) hj
  have h3 : j % 6 = 0 ∨ j % 6 = 1 ∨ j % 6 = 2 ∨ j % 6 = 3 ∨ j % 6 = 4 ∨ j % 6 = 5 := by omega
  rcases h3 with e | e | e | e | e | e
  · rw [e] at hu'
    rw [show off + j = off + j / 6 * 6 by omega, h0]
    exact hu'
  · rw [e] at hu'
    rw [show off + j = off + j / 6 * 6 + 1 by omega, h1]
    exact hu'
  · rw [e] at hu'
    rw [show off + j = off + j / 6 * 6 + 2 by omega, h2]
    exact hu'
  · rw [e] at hu'
    rw [show off + j = off + j / 6 * 6 + 3 by omega, h3]
    exact hu'
  · rw [e] at hu'
    rw [show off + j = off + j / 6 * 6 + 4 by omega, h4]
    exact hu'
  · rw [e] at hu'
    rw [show off + j = off + j / 6 * 6 + 5 by omega, h5]
    exact hu'
theorem bitsR_below {w w2 : World} {base n : Nat} {v : Value} {xs : List Value} (h : w.ownsRow base 35 6 v n xs) (hb : Below w.heap.size w w2) : w2.ownsRow base 35 6 v n xs := by
  refine h.kept (grown_of_below hb none) ?_
  cases v.ownBlock with
  | none => exact Or.inl rfl
  | some g => exact Or.inr (by simp)
theorem bitsR_block {w : World} {base n j : Nat} {v : Value} {xs : List Value} (h : w.ownsRow base 35 6 v n xs) (hv : v.ownBlock = some j) : base ≤ j ∧ ∃ cs, BlockIs w j 35 cs := by
  rcases h.2 with ⟨rfl, _⟩ | ⟨g, cap, cur, rfl, hb, hh, _⟩
  · simp [Value.ownBlock] at hv
  · have : g = j := by simpa [Value.ownBlock] using hv
    subst this
    exact ⟨hb, cur.toList, by unfold BlockIs; rw [hh]⟩
/-- a block of another type stands where a row grows -/
theorem bitsR_other {w w1 : World} {base n g : Nat} {t : TypeId} {v : Value} {xs cs : List Value} (h : BlockIs w g t cs) (hr : w.ownsRow base 35 6 v n xs) (hg : w.grownBy w1 v.ownBlock) (ht : t ≠ 35) : BlockIs w1 g t cs := by
  have hlt := h.lt
  unfold BlockIs at h ⊢
  rw [hg.block g hlt ?_]
  · exact h
  · intro e
    obtain ⟨_, cs2, h2⟩ := bitsR_block hr e.symm
    unfold BlockIs at h2
    rw [h] at h2
    simp only [Option.some.injEq, Obj.cells.injEq] at h2
    exact ht h2.2.1
theorem bitsR_down {w w1 w2 : World} {m base n : Nat} {v : Value} {xs : List Value} (h : Below m w w1) (hr : w1.ownsRow base 35 6 v n xs) (hg : w1.grownBy w2 v.ownBlock) (hb : m ≤ base) (hm : m ≤ w1.heap.size) : Below m w w2 :=
  h.grown hg hm (fun k e => by have := (bitsR_block hr e).1; omega)
theorem bitsR_nil (w : World) (m : Nat) (hm : m ≤ w.heap.size) : World.ownsRow (w.alloc (.cells #[] 35)) m 35 6 (.slice (some ⟨w.heap.size, 0, none⟩) 0 0) 0 (bitsCells []) :=
  row_down (World.ownsRow_made w (size := 6) (e := 35) #[] 0 (Nat.le_refl _) (Nat.zero_le _) rfl) hm
/-- one that is laid by itself -/
theorem bitsR_new (w : World) (a : BitsD) : ∀ j u, (bitsEnc a)[j]? = some u → (w.alloc (.cells #[.int .i64 a.src, .int .i64 a.ident, .slice a.tx.ad a.tx.len a.tx.cap, .slice a.ax.ad a.ax.len a.ax.cap, .int .i64 a.total, .int .i64 a.lim] 35)).cell? ((⟨w.heap.size, 0, none⟩ : Addr).add j) = some u := by
  intro j u hu
  rw [Addr.add_lit, Nat.zero_add]
  exact (show BlockIs _ _ 35 (bitsEnc a) from heap_alloc_new w _).cell hu
/-- a list behind a row of the call's own -/
theorem append_bitss {W : World} {v : Value} {base c : Nat} {L M : List BitsD} {ao : Option Addr} (hn : L.length + M.length ≤ 2097153) (hbase : base ≤ W.heap.size) (hr : W.ownsRow base 35 6 v L.length (bitsCells L)) (hM : BitssAt W ao M) :
    ∃ v' W', (Builtin.append_ #[24, 24] 24 #[v, .slice ao M.length c]).run Try.prog W = .ok v' W' ∧ W'.ownsRow base 35 6 v' (L ++ M).length (bitsCells (L ++ M)) ∧ W.grownBy W' v.ownBlock := by
  obtain ⟨i0, hi, hz0, hz1, hz2⟩ := info_parts toBits_info
  rw [List.length_append, bitsR_append]
  cases ao with
  | none =>
    have hM0 : M = [] := by
      by_cases hne : M = []
      · exact hne
      · obtain ⟨b, off, e, _⟩ := hM hne
        cases e
    subst hM0
    refine ⟨v, W, ?_, by simpa [bitsCells] using hr, World.grownBy.refl _ _⟩
    obtain ⟨va, vc, rfl⟩ := row_shape hr
    have hlc : L.length ≤ vc := by
      rcases hr.2 with ⟨hq, hz⟩ | ⟨_, cp, _, hq, _, _, hle, _⟩
      · omega
      · simp only [Value.slice.injEq] at hq
        omega
    cases va <;> simp [Builtin.append_, run_underlying Try.underlying24, sizeOf, typeInfo, hi, Builtin.lenOf, Builtin.firstCells, storeCells, hlc]
  | some ad =>
    have hnews : ∀ j u, (bitsCells M)[j]? = some u → W.cell? (ad.add j) = some u := by
      by_cases hne : M = []
      · subst hne
        intro j u hu
        simp [bitsCells] at hu
      · obtain ⟨b, off, e, hc⟩ := hM hne
        cases e
        exact bitss_cells hc
    obtain ⟨v', W', h1, h2, h3, _⟩ := run_append_own (P := Try.prog) W base 24 24 35 i0 _ 6 80 Try.underlying24 hi hz0 hz1 hz2 rfl (by decide) v L.length _ hr ad M.length c (bitsCells M) (bitsCells_length M) hnews (bitsR_all M) (by unfold maxLen; omega) (by omega) hbase
    exact ⟨v', W', h1, h2, h3⟩
theorem wpList_append_bitss {w : World} {ops : Array Oper} {rest : List Oper} {o : Oper} {a : Act} {Q : Exit → Act → World → Prop} (hgd : o.guard = none) (s x : Operand)
    (ho : o.op = .call { callee := .builtin .append, args := #[s, x], argTypes := #[24, 24] }) (hty : o.type = 24) {v : Value} {base c m N : Nat} {L M : List BitsD} {ao : Option Addr} (hs : a.eval s = v) (hx : a.eval x = .slice ao m c)
    (hm : M.length = m) (hN : (L ++ M).length = N) (hn : N ≤ 2097153) (hbase : base ≤ w.heap.size) (hr : w.ownsRow base 35 6 v L.length (bitsCells L)) (hM : BitssAt w ao M)
    (h : ∀ va vc w1, w1.ownsRow base 35 6 (.slice va N vc) N (bitsCells (L ++ M)) → w.grownBy w1 v.ownBlock → wpList Try.prog ops Q rest (a.put o.dst (.slice va N vc)) w1) : wpList Try.prog ops Q (o :: rest) a w := by
  subst hm hN
  obtain ⟨v', W', hrun, h2, h3⟩ := append_bitss (c := c) (by rw [← List.length_append]; exact hn) hbase hr hM
  obtain ⟨va, vc, rfl⟩ := row_shape h2
  refine wpList_plain hgd fun K hK => ?_
  unfold Oper.wp
  simp [execOp, ho, hty, resolve, invoke, builtin, hs, hx, hrun, Result.andThen]
  have h4 := h va vc W' h2 h3
  rw [List.length_append] at h4
  exact hK _ _ h4
/-- they lie there -/
theorem bitsR_at {w : World} {base : Nat} {va : Option Addr} {vc : Nat} {l : List BitsD} (h : w.ownsRow base 35 6 (.slice va l.length vc) l.length (bitsCells l)) : BitssAt w va l := by
  rcases h.2 with ⟨hv, h0⟩ | ⟨g, cp, cur, hv, _, hh, _, _, _, ht⟩
  · exact fun hne => absurd (List.length_eq_zero_iff.1 h0) hne
  · simp only [Value.slice.injEq] at hv
    obtain ⟨rfl, _, rfl⟩ := hv
    have hcur : cur.toList = bitsCells l ++ cur.toList.drop (l.length * 6) := by rw [← ht, List.take_append_drop]
    exact bitssAt_of (r := cur.toList.drop (l.length * 6)) (by unfold BlockIs; rw [hh, ← hcur])
end Go.Proofs.Ythdklbmachplmaa

namespace Go.Proofs.Ythdklbmachplmaa
open Go.RowKit

structure BitD where
  src : Int
  ident : Int
  texts : List ByteArray
  ats : List Int
  total : Int
  lim : Int
/-- two lists alike, one by one -/
def Two {α β : Type} (R : α → β → Prop) : List α → List β → Prop
  | [], [] => True
  | a :: l, b :: m => R a b ∧ Two R l m
  | _, _ => False
theorem Two.length {α β : Type} {R : α → β → Prop} : ∀ {l : List α} {m : List β}, Two R l m → l.length = m.length
  | [], [], _ => rfl
  | _ :: _, _ :: _, h => by simp only [List.length_cons, Two.length h.2]
theorem Two.get {α β : Type} {R : α → β → Prop} : ∀ {l : List α} {m : List β}, Two R l m → ∀ j (h1 : j < l.length) (h2 : j < m.length), R l[j] m[j]
  | [], [], _, j, h1, _ => by simp at h1
  | _ :: _, _ :: _, h, 0, _, _ => h.1
  | _ :: _, _ :: _, h, j + 1, h1, h2 => by
    simp only [List.getElem_cons_succ]
    exact Two.get h.2 j (by simpa using h1) (by simpa using h2)
theorem Two.mono {α β : Type} {R S : α → β → Prop} (hRS : ∀ a b, R a b → S a b) : ∀ {l : List α} {m : List β}, Two R l m → Two S l m
  | [], [], _ => trivial
  | _ :: _, _ :: _, h => ⟨hRS _ _ h.1, Two.mono hRS h.2⟩
theorem Two.snoc {α β : Type} {R : α → β → Prop} {a : α} {b : β} (hab : R a b) : ∀ {l : List α} {m : List β}, Two R l m → Two R (l ++ [a]) (m ++ [b])
  | [], [], _ => ⟨hab, trivial⟩
  | _ :: _, _ :: _, h => ⟨h.1, Two.snoc hab h.2⟩
theorem Two.append {α β : Type} {R : α → β → Prop} {l2 : List α} {m2 : List β} (h2 : Two R l2 m2) : ∀ {l : List α} {m : List β}, Two R l m → Two R (l ++ l2) (m ++ m2)
  | [], [], _ => h2
  | _ :: _, _ :: _, h => ⟨h.1, Two.append h2 h.2⟩
theorem Two.take {α β : Type} {R : α → β → Prop} : ∀ {l : List α} {m : List β} (k : Nat), Two R l m → Two R (l.take k) (m.take k)
  | [], [], k, _ => by simp [Two]
  | _ :: _, _ :: _, 0, _ => trivial
  | _ :: _, _ :: _, k + 1, h => ⟨h.1, Two.take k h.2⟩
theorem Two.drop {α β : Type} {R : α → β → Prop} : ∀ {l : List α} {m : List β} (k : Nat), Two R l m → Two R (l.drop k) (m.drop k)
  | [], [], k, _ => by simp [Two]
  | _ :: _, _ :: _, 0, h => h
  | _ :: _, _ :: _, k + 1, h => Two.drop k h.2
def rawB (e : BitD) (ta : Option Addr) (tc : Nat) (aa : Option Addr) (ac : Nat) : BitsD := ⟨e.src, e.ident, ⟨ta, e.texts.length, tc⟩, ⟨aa, e.ats.length, ac⟩, e.total, e.lim⟩
/-- the cells tell just these bits -/
def HoldsB (w : World) (e : BitD) (r : BitsD) : Prop := ∃ ta tc aa ac, r = rawB e ta tc aa ac ∧ ValsAt w ta (st e.texts) ∧ ValsAt w aa (intCells e.ats)
theorem HoldsB.on {w w' : World} {e : BitD} {r : BitsD} (h : HoldsB w e r) (hb : Below w.heap.size w w') : HoldsB w' e r := by
  obtain ⟨ta, tc, aa, ac, h1, h2, h3⟩ := h
  exact ⟨ta, tc, aa, ac, h1, h2.on hb, h3.on hb⟩
def BitsHold (w : World) (ao : Option Addr) (l : List BitD) : Prop := ∃ rs, BitssAt w ao rs ∧ Two (HoldsB w) l rs
theorem BitsHold.on {w w' : World} {ao : Option Addr} {l : List BitD} (h : BitsHold w ao l) (hb : Below w.heap.size w w') : BitsHold w' ao l := by
  obtain ⟨rs, h1, h2⟩ := h
  exact ⟨rs, h1.on hb, h2.mono fun _ _ h => h.on hb⟩
/-- few and short -/
def SmallB (e : BitD) : Prop := e.texts.length ≤ 1048576 ∧ e.ats.length ≤ 1048576 ∧ ∀ t ∈ e.texts, t.size ≤ 1048576
/-- bits whose lists are the call's own -/
def OwnB (w : World) (e : BitD) (r : BitsD) (lo hi : Nat) : Prop := ∃ ta tc aa ac m, r = rawB e ta tc aa ac ∧ OwnAt w 9 (st e.texts) e.texts.length ta lo m ∧ OwnAt w 3 (intCells e.ats) e.ats.length aa m hi ∧ lo ≤ m ∧ m ≤ hi
theorem OwnB.le {w : World} {e : BitD} {r : BitsD} {lo hi : Nat} (h : OwnB w e r lo hi) : lo ≤ hi := by
  obtain ⟨_, _, _, _, m, _, _, _, h1, h2⟩ := h
  exact Nat.le_trans h1 h2
theorem OwnB.on {w w' : World} {e : BitD} {r : BitsD} {lo hi : Nat} (h : OwnB w e r lo hi) (hb : Below w.heap.size w w') : OwnB w' e r lo hi := by
  obtain ⟨ta, tc, aa, ac, m, h1, h2, h3, h4⟩ := h
  exact ⟨ta, tc, aa, ac, m, h1, h2.on hb, h3.on hb, h4⟩
theorem OwnB.down {w : World} {e : BitD} {r : BitsD} {lo hi lo' hi' : Nat} (h : OwnB w e r lo hi) (h1 : lo' ≤ lo) (h2 : hi ≤ hi') : OwnB w e r lo' hi' := by
  obtain ⟨ta, tc, aa, ac, m, e1, e2, e3, e4, e5⟩ := h
  exact ⟨ta, tc, aa, ac, m, e1, e2.down h1 (Nat.le_refl _), e3.down (Nat.le_refl _) h2, by omega, by omega⟩
theorem OwnB.kept {w w' : World} {e : BitD} {r : BitsD} {lo hi lo2 hi2 : Nat} (h : OwnB w e r lo hi) (hk : KeptBut lo2 hi2 w w') (ho : hi ≤ lo2 ∨ hi2 ≤ lo) : OwnB w' e r lo hi := by
  obtain ⟨ta, tc, aa, ac, m, e1, e2, e3, e4, e5⟩ := h
  exact ⟨ta, tc, aa, ac, m, e1, e2.kept hk (by omega), e3.kept hk (by omega), e4, e5⟩
theorem OwnB.holds {w : World} {e : BitD} {r : BitsD} {lo hi : Nat} (h : OwnB w e r lo hi) : HoldsB w e r := by
  obtain ⟨ta, tc, aa, ac, m, e1, e2, e3, _⟩ := h
  exact ⟨ta, tc, aa, ac, e1, e2.vals (st_length _), e3.vals (intCells_length _)⟩
/-- one behind the other -/
def Nest (w : World) : List BitD → List BitsD → Nat → Nat → Prop
  | [], [], lo, hi => lo ≤ hi
  | e :: l, r :: rs, lo, hi => ∃ m, OwnB w e r lo m ∧ Nest w l rs m hi
  | _, _, _, _ => False
theorem Nest.le {w : World} : ∀ {l : List BitD} {rs : List BitsD} {lo hi : Nat}, Nest w l rs lo hi → lo ≤ hi
  | [], [], _, _, h => h
  | _ :: _, _ :: _, _, _, ⟨_, h1, h2⟩ => Nat.le_trans h1.le h2.le
theorem Nest.length {w : World} : ∀ {l : List BitD} {rs : List BitsD} {lo hi : Nat}, Nest w l rs lo hi → l.length = rs.length
  | [], [], _, _, _ => rfl
  | _ :: _, _ :: _, _, _, ⟨_, _, h2⟩ => by simp only [List.length_cons, h2.length]
theorem Nest.on {w w' : World} (hb : Below w.heap.size w w') : ∀ {l : List BitD} {rs : List BitsD} {lo hi : Nat}, Nest w l rs lo hi → Nest w' l rs lo hi
  | [], [], _, _, h => h
  | _ :: _, _ :: _, _, _, ⟨m, h1, h2⟩ => ⟨m, h1.on hb, h2.on hb⟩
theorem Nest.kept {w w' : World} {lo2 hi2 : Nat} (hk : KeptBut lo2 hi2 w w') : ∀ {l : List BitD} {rs : List BitsD} {lo hi : Nat}, Nest w l rs lo hi → (hi ≤ lo2 ∨ hi2 ≤ lo) → Nest w' l rs lo hi
  | [], [], _, _, h, _ => h
  | _ :: _, _ :: _, _, _, ⟨m, h1, h2⟩, ho => ⟨m, h1.kept hk (by have := h2.le; omega), h2.kept hk (by have := h1.le; omega)⟩
theorem Nest.snoc {w : World} {e : BitD} {r : BitsD} {hi hi' : Nat} (h2 : OwnB w e r hi hi') : ∀ {l : List BitD} {rs : List BitsD} {lo : Nat}, Nest w l rs lo hi → Nest w (l ++ [e]) (rs ++ [r]) lo hi'
  | [], [], _, h => ⟨hi', h2.down h (Nat.le_refl _), Nat.le_refl _⟩
  | _ :: _, _ :: _, _, ⟨m, h1, h3⟩ => ⟨m, h1, Nest.snoc h2 h3⟩
theorem Nest.up {w : World} {hi hi' : Nat} (hh : hi ≤ hi') : ∀ {l : List BitD} {rs : List BitsD} {lo : Nat}, Nest w l rs lo hi → Nest w l rs lo hi'
  | [], [], _, h => Nat.le_trans h hh
  | _ :: _, _ :: _, _, ⟨m, h1, h3⟩ => ⟨m, h1, Nest.up hh h3⟩
theorem Nest.low {w : World} {lo lo' hi : Nat} (hh : lo' ≤ lo) : ∀ {l : List BitD} {rs : List BitsD}, Nest w l rs lo hi → Nest w l rs lo' hi
  | [], [], h => Nat.le_trans hh h
  | _ :: _, _ :: _, ⟨m, h1, h3⟩ => ⟨m, h1.down hh (Nat.le_refl _), h3⟩
theorem Nest.holds {w : World} : ∀ {l : List BitD} {rs : List BitsD} {lo hi : Nat}, Nest w l rs lo hi → Two (HoldsB w) l rs
  | [], [], _, _, _ => trivial
  | _ :: _, _ :: _, _, _, ⟨_, h1, h2⟩ => ⟨h1.holds, h2.holds⟩
/-- a list of bits of the call's own -/
def OwnBits (w : World) (va : Option Addr) (l : List BitD) (lo hi : Nat) : Prop := ∃ rs, OwnAt w 35 (bitsCells rs) rs.length va lo hi ∧ Nest w l rs lo hi
theorem OwnAt.bits {w : World} {rs : List BitsD} {va : Option Addr} {lo hi : Nat} (h : OwnAt w 35 (bitsCells rs) rs.length va lo hi) : BitssAt w va rs := by
  rcases h with h | ⟨g, r, rfl, _, _, h⟩
  · exact fun h0 => absurd (List.length_eq_zero_iff.1 h) h0
  · exact bitssAt_of h
theorem OwnBits.holds {w : World} {va : Option Addr} {l : List BitD} {lo hi : Nat} (h : OwnBits w va l lo hi) : BitsHold w va l := by
  obtain ⟨rs, h1, h2⟩ := h
  exact ⟨rs, h1.bits, h2.holds⟩
theorem OwnBits.on {w w' : World} {va : Option Addr} {l : List BitD} {lo hi : Nat} (h : OwnBits w va l lo hi) (hb : Below w.heap.size w w') : OwnBits w' va l lo hi := by
  obtain ⟨rs, h1, h2⟩ := h
  exact ⟨rs, h1.on hb, h2.on hb⟩
theorem OwnBits.kept {w w' : World} {va : Option Addr} {l : List BitD} {lo hi lo2 hi2 : Nat} (h : OwnBits w va l lo hi) (hk : KeptBut lo2 hi2 w w') (ho : hi ≤ lo2 ∨ hi2 ≤ lo) : OwnBits w' va l lo hi := by
  obtain ⟨rs, h1, h2⟩ := h
  exact ⟨rs, h1.kept hk ho, h2.kept hk ho⟩
end Go.Proofs.Ythdklbmachplmaa

namespace Go.Proofs.Ythdklbmachplmaa
open Go.RowKit

def tidyB (l : List BitD) (now : Int) : List BitD := l.filter fun e => decide (now < e.lim)
theorem tidyB_take (l : List BitD) (now : Int) (k : Nat) (h : k < l.length) : tidyB (l.take (k + 1)) now = tidyB (l.take k) now ++ (if now < l[k].lim then [l[k]] else []) := by
  rw [List.take_succ_eq_append_getElem h, tidyB, tidyB, List.filter_append]
  by_cases hn : now < l[k].lim <;> simp [List.filter, hn]
theorem tidyB_length (l : List BitD) (now : Int) : (tidyB l now).length ≤ l.length := List.length_filter_le _ _
theorem OwnAt.other {w w1 : World} {t : TypeId} {cs : List Value} {n : Nat} {va : Option Addr} {lo hi : Nat} (h : OwnAt w t cs n va lo hi) (hb : ∀ g xs, BlockIs w g t xs → BlockIs w1 g t xs) : OwnAt w1 t cs n va lo hi :=
  h.imp id fun ⟨g, r, a, b, c, d⟩ => ⟨g, r, a, b, c, hb _ _ d⟩
theorem OwnB.other {w w1 : World} {e : BitD} {r : BitsD} {lo hi : Nat} (h : OwnB w e r lo hi) (h9 : ∀ g xs, BlockIs w g 9 xs → BlockIs w1 g 9 xs) (h3 : ∀ g xs, BlockIs w g 3 xs → BlockIs w1 g 3 xs) : OwnB w1 e r lo hi := by
  obtain ⟨ta, tc, aa, ac, m, e1, e2, e3, e4⟩ := h
  exact ⟨ta, tc, aa, ac, m, e1, e2.other h9, e3.other h3, e4⟩
theorem Nest.other {w w1 : World} (h9 : ∀ g xs, BlockIs w g 9 xs → BlockIs w1 g 9 xs) (h3 : ∀ g xs, BlockIs w g 3 xs → BlockIs w1 g 3 xs) : ∀ {l : List BitD} {rs : List BitsD} {lo hi : Nat}, Nest w l rs lo hi → Nest w1 l rs lo hi
  | [], [], _, _, h => h
  | _ :: _, _ :: _, _, _, ⟨m, e1, e2⟩ => ⟨m, e1.other h9 h3, Nest.other h9 h3 e2⟩
/-- nested lists stand where a row of bits grows -/
theorem Nest.row {w w1 : World} {l : List BitD} {rs : List BitsD} {lo hi base n : Nat} {v : Value} {xs : List Value} (h : Nest w l rs lo hi) (hr : w.ownsRow base 35 6 v n xs) (hg : w.grownBy w1 v.ownBlock) : Nest w1 l rs lo hi :=
  h.other (fun _ _ hb => bitsR_other hb hr hg (by decide)) (fun _ _ hb => bitsR_other hb hr hg (by decide))
def BitsDid (A : List BitD) (w : World) (e : Ending) (w' : World) : Prop := ∃ va vc, e = .returned (.slice va A.length vc) ∧ A.length ≤ vc ∧ OwnBits w' va A w.heap.size w'.heap.size ∧ Below w.heap.size w w'
theorem smallB_take {l : List BitD} (h : ∀ e ∈ l, SmallB e) (k : Nat) (hk : k < l.length) : SmallB l[k] := h _ (List.getElem_mem hk)
end Go.Proofs.Ythdklbmachplmaa

namespace Go.Proofs.Ythdklbmachplmaa
open Go.RowKit

/-- a row of the call's own, between two sizes of memory -/
def RowIn (w : World) (lo hi : Nat) (t : TypeId) (v : Value) (n : Nat) (xs : List Value) : Prop := w.ownsRow lo t 1 v n xs ∧ ∀ g, v.ownBlock = some g → g < hi
theorem RowIn.on {w w' : World} {lo hi : Nat} {t : TypeId} {v : Value} {n : Nat} {xs : List Value} (h : RowIn w lo hi t v n xs) (hb : Below w.heap.size w w') : RowIn w' lo hi t v n xs := ⟨rows_below h.1 hb, h.2⟩
theorem RowIn.down {w : World} {lo hi lo' hi' : Nat} {t : TypeId} {v : Value} {n : Nat} {xs : List Value} (h : RowIn w lo hi t v n xs) (h1 : lo' ≤ lo) (h2 : hi ≤ hi') : RowIn w lo' hi' t v n xs := ⟨row_down h.1 h1, fun g hg => Nat.lt_of_lt_of_le (h.2 g hg) h2⟩
theorem RowIn.other {w w1 : World} {lo hi : Nat} {t : TypeId} {v : Value} {n : Nat} {xs : List Value} (h : RowIn w lo hi t v n xs) (hb : ∀ g cs, lo ≤ g → g < hi → BlockIs w g t cs → BlockIs w1 g t cs) : RowIn w1 lo hi t v n xs := by
  refine ⟨⟨h.1.1, h.1.2.imp id ?_⟩, h.2⟩
  rintro ⟨g, cap, cur, a, b, c, r⟩
  have := hb g cur.toList b (h.2 g (by rw [a]; rfl)) (by unfold BlockIs; rw [c])
  unfold BlockIs at this
  exact ⟨g, cap, cur, a, b, by rw [this], r⟩
def OwnRB (w : World) (e : BitD) (r : BitsD) (lo hi : Nat) : Prop := ∃ ta tc aa ac m, r = rawB e ta tc aa ac ∧ RowIn w lo m 9 (.slice ta e.texts.length tc) e.texts.length (st e.texts) ∧ RowIn w m hi 3 (.slice aa e.ats.length ac) e.ats.length (intCells e.ats) ∧ lo ≤ m ∧ m ≤ hi
theorem OwnRB.le {w : World} {e : BitD} {r : BitsD} {lo hi : Nat} (h : OwnRB w e r lo hi) : lo ≤ hi := by
  obtain ⟨_, _, _, _, m, _, _, _, h1, h2⟩ := h
  exact Nat.le_trans h1 h2
theorem OwnRB.on {w w' : World} {e : BitD} {r : BitsD} {lo hi : Nat} (h : OwnRB w e r lo hi) (hb : Below w.heap.size w w') : OwnRB w' e r lo hi := by
  obtain ⟨ta, tc, aa, ac, m, h1, h2, h3, h4⟩ := h
  exact ⟨ta, tc, aa, ac, m, h1, h2.on hb, h3.on hb, h4⟩
theorem OwnRB.down {w : World} {e : BitD} {r : BitsD} {lo hi lo' hi' : Nat} (h : OwnRB w e r lo hi) (h1 : lo' ≤ lo) (h2 : hi ≤ hi') : OwnRB w e r lo' hi' := by
  obtain ⟨ta, tc, aa, ac, m, e1, e2, e3, e4, e5⟩ := h
  exact ⟨ta, tc, aa, ac, m, e1, e2.down h1 (Nat.le_refl _), e3.down (Nat.le_refl _) h2, by omega, by omega⟩
theorem OwnRB.other {w w1 : World} {e : BitD} {r : BitsD} {lo hi : Nat} (h : OwnRB w e r lo hi) (h9 : ∀ g xs, lo ≤ g → g < hi → BlockIs w g 9 xs → BlockIs w1 g 9 xs) (h3 : ∀ g xs, lo ≤ g → g < hi → BlockIs w g 3 xs → BlockIs w1 g 3 xs) : OwnRB w1 e r lo hi := by
  obtain ⟨ta, tc, aa, ac, m, e1, e2, e3, e4, e5⟩ := h
  exact ⟨ta, tc, aa, ac, m, e1, e2.other fun g cs a b => h9 g cs a (by omega), e3.other fun g cs a b => h3 g cs (by omega) b, e4, e5⟩
theorem OwnRB.holds {w : World} {e : BitD} {r : BitsD} {lo hi : Nat} (h : OwnRB w e r lo hi) : HoldsB w e r := by
  obtain ⟨ta, tc, aa, ac, m, e1, e2, e3, _⟩ := h
  exact ⟨ta, tc, aa, ac, e1, (own_of_row e2.1).vals (st_length _), (own_of_row e3.1).vals (intCells_length _)⟩
/-- one behind the other -/
def NestR (w : World) : List BitD → List BitsD → Nat → Nat → Prop
  | [], [], lo, hi => lo ≤ hi
  | e :: l, r :: rs, lo, hi => ∃ m, OwnRB w e r lo m ∧ NestR w l rs m hi
  | _, _, _, _ => False
theorem NestR.le {w : World} : ∀ {l : List BitD} {rs : List BitsD} {lo hi : Nat}, NestR w l rs lo hi → lo ≤ hi
  | [], [], _, _, h => h
  | _ :: _, _ :: _, _, _, ⟨_, h1, h2⟩ => Nat.le_trans h1.le h2.le
theorem NestR.length {w : World} : ∀ {l : List BitD} {rs : List BitsD} {lo hi : Nat}, NestR w l rs lo hi → l.length = rs.length
  | [], [], _, _, _ => rfl
  | _ :: _, _ :: _, _, _, ⟨_, _, h2⟩ => by simp only [List.length_cons, h2.length]
theorem NestR.on {w w' : World} (hb : Below w.heap.size w w') : ∀ {l : List BitD} {rs : List BitsD} {lo hi : Nat}, NestR w l rs lo hi → NestR w' l rs lo hi
  | [], [], _, _, h => h
  | _ :: _, _ :: _, _, _, ⟨m, h1, h2⟩ => ⟨m, h1.on hb, h2.on hb⟩
theorem NestR.other {w w1 : World} (h9 : ∀ g xs, BlockIs w g 9 xs → BlockIs w1 g 9 xs) (h3 : ∀ g xs, BlockIs w g 3 xs → BlockIs w1 g 3 xs) : ∀ {l : List BitD} {rs : List BitsD} {lo hi : Nat}, NestR w l rs lo hi → NestR w1 l rs lo hi
  | [], [], _, _, h => h
  | _ :: _, _ :: _, _, _, ⟨m, e1, e2⟩ => ⟨m, e1.other (fun g xs _ _ => h9 g xs) (fun g xs _ _ => h3 g xs), NestR.other h9 h3 e2⟩
theorem NestR.snoc {w : World} {e : BitD} {r : BitsD} {hi hi' : Nat} (h2 : OwnRB w e r hi hi') : ∀ {l : List BitD} {rs : List BitsD} {lo : Nat}, NestR w l rs lo hi → NestR w (l ++ [e]) (rs ++ [r]) lo hi'
  | [], [], _, h => ⟨hi', h2.down h (Nat.le_refl _), Nat.le_refl _⟩
  | _ :: _, _ :: _, _, ⟨m, h1, h3⟩ => ⟨m, h1, NestR.snoc h2 h3⟩
theorem NestR.up {w : World} {hi hi' : Nat} (hh : hi ≤ hi') : ∀ {l : List BitD} {rs : List BitsD} {lo : Nat}, NestR w l rs lo hi → NestR w l rs lo hi'
  | [], [], _, h => Nat.le_trans h hh
  | _ :: _, _ :: _, _, ⟨m, h1, h3⟩ => ⟨m, h1, NestR.up hh h3⟩
theorem NestR.low {w : World} {lo lo' hi : Nat} (hh : lo' ≤ lo) : ∀ {l : List BitD} {rs : List BitsD}, NestR w l rs lo hi → NestR w l rs lo' hi
  | [], [], h => Nat.le_trans hh h
  | _ :: _, _ :: _, ⟨m, h1, h3⟩ => ⟨m, h1.down hh (Nat.le_refl _), h3⟩
theorem NestR.holds {w : World} : ∀ {l : List BitD} {rs : List BitsD} {lo hi : Nat}, NestR w l rs lo hi → Two (HoldsB w) l rs
  | [], [], _, _, _ => trivial
  | _ :: _, _ :: _, _, _, ⟨_, h1, h2⟩ => ⟨h1.holds, h2.holds⟩
theorem NestR.row {w w1 : World} {l : List BitD} {rs : List BitsD} {lo hi base n : Nat} {v : Value} {xs : List Value} (h : NestR w l rs lo hi) (hr : w.ownsRow base 35 6 v n xs) (hg : w.grownBy w1 v.ownBlock) : NestR w1 l rs lo hi :=
  h.other (fun _ _ hb => bitsR_other hb hr hg (by decide)) (fun _ _ hb => bitsR_other hb hr hg (by decide))
theorem NestR.split {w : World} {e : BitD} {l2 : List BitD} {hi : Nat} : ∀ {l1 : List BitD} {rs : List BitsD} {lo : Nat}, NestR w (l1 ++ e :: l2) rs lo hi → ∃ rs1 r rs2 a b, rs = rs1 ++ r :: rs2 ∧ NestR w l1 rs1 lo a ∧ OwnRB w e r a b ∧ NestR w l2 rs2 b hi
  | [], r :: rs, lo, ⟨m, h1, h2⟩ => ⟨[], r, rs, lo, m, rfl, Nat.le_refl _, h1, h2⟩
  | e1 :: l1, r :: rs, lo, ⟨m, h1, h2⟩ => by
    obtain ⟨rs1, r2, rs2, a, b, rfl, h3, h4, h5⟩ := NestR.split h2
    exact ⟨r :: rs1, r2, rs2, a, b, rfl, ⟨m, h1, h3⟩, h4, h5⟩
theorem row_far {w : World} {base size n g j : Nat} {t t' : TypeId} {v : Value} {xs cs : List Value} (h : w.ownsRow base t size v n xs) (hg : BlockIs w g t' cs) (ht : t ≠ t') (u : Value) : (w.setCell ⟨g, j, none⟩ u).ownsRow base t size v n xs :=
  row_ext h fun q xs hq => hq.far (fun e => by subst e; exact ht (block_one hq hg).1) u
end Go.Proofs.Ythdklbmachplmaa

namespace Go.Proofs.Ythdklbmachplmaa
open Go.RowKit

structure DgramD where
  src : Int
  dst : Int
  ident : Int
  place : Int
  more : Bool
  body : ByteArray
/-- numbers that are numbers, texts that are texts -/
def DgramD.Fits (e : DgramD) : Prop := (-9223372036854775808 ≤ e.src ∧ e.src ≤ 9223372036854775807) ∧ (-9223372036854775808 ≤ e.dst ∧ e.dst ≤ 9223372036854775807) ∧ (-9223372036854775808 ≤ e.ident ∧ e.ident ≤ 9223372036854775807) ∧ (-9223372036854775808 ≤ e.place ∧ e.place ≤ 9223372036854775807) ∧ True ∧ e.body.size ≤ maxLen
def dgramEnc (e : DgramD) : List Value := [.int .i64 e.src, .int .i64 e.dst, .int .i64 e.ident, .int .i64 e.place, .bool e.more, .string e.body]
/-- the cells of a row -/
def dgramCells (l : List DgramD) : List Value := l.flatMap dgramEnc
theorem dgramCells_length (l : List DgramD) : (dgramCells l).length = l.length * 6 := row_length dgramEnc 6 (fun _ => rfl) l
theorem dgramCells_take (l : List DgramD) (k : Nat) (h : k < l.length) : dgramCells (l.take (k + 1)) = dgramCells (l.take k) ++ dgramEnc l[k] := by
  rw [List.take_succ_eq_append_getElem h, dgramCells, dgramCells, List.flatMap_append]
  simp
/-- how many letters -/
def dgramOne (e : DgramD) : Int := (e.body.size : Int)
theorem dgramOne_nonneg (e : DgramD) : 0 ≤ dgramOne e := by unfold dgramOne; omega
def dgramBulk : List DgramD → Int
  | [] => 0
  | f :: l => dgramOne f + dgramBulk l
theorem dgramBulk_nonneg (l : List DgramD) : 0 ≤ dgramBulk l := by
  induction l with
  | nil => exact Int.le_refl 0
  | cons f l ih => have := dgramOne_nonneg f; simp only [dgramBulk]; omega
theorem dgramBulk_take (l : List DgramD) (k : Nat) (h : k < l.length) : dgramBulk (l.take (k + 1)) = dgramBulk (l.take k) + dgramOne l[k] := by
  induction l generalizing k with
  | nil => simp at h
  | cons f l ih =>
    cases k with
    | zero => simp [dgramBulk]
    | succ k =>
      have := ih k (by simpa using h)
      simp only [List.take_succ_cons, dgramBulk, List.getElem_cons_succ] at this ⊢
      omega
theorem dgramBulk_le (l : List DgramD) (k : Nat) : dgramBulk (l.take k) ≤ dgramBulk l := by
  induction l generalizing k with
  | nil => simp [dgramBulk]
  | cons f l ih =>
    cases k with
    | zero => have := dgramBulk_nonneg (f :: l); simpa [dgramBulk] using this
    | succ k => have := ih k; simp only [List.take_succ_cons, dgramBulk]; omega
theorem dgram_le_bulk {l : List DgramD} {f : DgramD} (h : f ∈ l) : dgramOne f ≤ dgramBulk l := by
  induction l with
  | nil => cases h
  | cons g l ih =>
    simp only [dgramBulk]
    have := dgramBulk_nonneg l
    have := dgramOne_nonneg g
    rcases List.mem_cons.1 h with e | e
    · subst e; omega
    · have := ih e; omega
/-- few and short -/
def DgramsSmall (l : List DgramD) : Prop := l.length ≤ 1048576 ∧ ∀ f ∈ l, dgramOne f ≤ 1048576
theorem dgramsSmall {l : List DgramD} (h : 0 ≤ (1048576 : Int) - l.length - dgramBulk l) : DgramsSmall l := by
  have := dgramBulk_nonneg l
  exact ⟨by omega, fun f hf => by have := dgram_le_bulk hf; omega⟩
/-- they lie at an address, one behind the other -/
def DgramsAt (w : World) (ao : Option Addr) (l : List DgramD) : Prop :=
  l ≠ [] → ∃ b off, ao = some ⟨b, off, none⟩ ∧ ∀ j (hj : j < l.length), w.cell? ⟨b, off + j * 6, none⟩ = some (.int .i64 l[j].src) ∧ w.cell? ⟨b, off + j * 6 + 1, none⟩ = some (.int .i64 l[j].dst) ∧ w.cell? ⟨b, off + j * 6 + 2, none⟩ = some (.int .i64 l[j].ident) ∧ w.cell? ⟨b, off + j * 6 + 3, none⟩ = some (.int .i64 l[j].place) ∧ w.cell? ⟨b, off + j * 6 + 4, none⟩ = some (.bool l[j].more) ∧ w.cell? ⟨b, off + j * 6 + 5, none⟩ = some (.string l[j].body)
theorem dgramsAt_of {w : World} {g : Nat} {t : TypeId} {l : List DgramD} {r : List Value} (h : BlockIs w g t (dgramCells l ++ r)) : DgramsAt w (some ⟨g, 0, none⟩) l := by
  intro _
  refine ⟨g, 0, rfl, fun j hj => ?_⟩
  rw [Nat.zero_add]
  exact ⟨h.cell (row_at dgramEnc 6 (fun _ => rfl) l r j 0 hj (by omega)), h.cell (row_at dgramEnc 6 (fun _ => rfl) l r j 1 hj (by omega)), h.cell (row_at dgramEnc 6 (fun _ => rfl) l r j 2 hj (by omega)), h.cell (row_at dgramEnc 6 (fun _ => rfl) l r j 3 hj (by omega)), h.cell (row_at dgramEnc 6 (fun _ => rfl) l r j 4 hj (by omega)), h.cell (row_at dgramEnc 6 (fun _ => rfl) l r j 5 hj (by omega))⟩
def DgramsFit (l : List DgramD) : Prop := ∀ j (hj : j < l.length), l[j].Fits
theorem DgramsAt.on {w w' : World} {ao : Option Addr} {l : List DgramD} (h : DgramsAt w ao l) (hb : Below w.heap.size w w') : DgramsAt w' ao l := by
  intro h0
  obtain ⟨b, off, e1, e2⟩ := h h0
  refine ⟨b, off, e1, fun j hj => ?_⟩
  obtain ⟨x0, x1, x2, x3, x4, x5⟩ := e2 j hj
  exact ⟨(hb.cell (p := ⟨b, off + j * 6, none⟩) (World.block_lt_of_cell? w _ x0)).trans x0, (hb.cell (p := ⟨b, off + j * 6 + 1, none⟩) (World.block_lt_of_cell? w _ x1)).trans x1, (hb.cell (p := ⟨b, off + j * 6 + 2, none⟩) (World.block_lt_of_cell? w _ x2)).trans x2, (hb.cell (p := ⟨b, off + j * 6 + 3, none⟩) (World.block_lt_of_cell? w _ x3)).trans x3, (hb.cell (p := ⟨b, off + j * 6 + 4, none⟩) (World.block_lt_of_cell? w _ x4)).trans x4, (hb.cell (p := ⟨b, off + j * 6 + 5, none⟩) (World.block_lt_of_cell? w _ x5)).trans x5⟩
/-- cells of a list, written -/
theorem dgram_sets (p : List Value) (a0 a1 a2 a3 a4 a5 o0 o1 o2 o3 o4 o5 : Value) (r : List Value) : ((((((p ++ o0 :: o1 :: o2 :: o3 :: o4 :: o5 :: r).set (p.length) a0).set (p.length + 1) a1).set (p.length + 2) a2).set (p.length + 3) a3).set (p.length + 4) a4).set (p.length + 5) a5 = p ++ a0 :: a1 :: a2 :: a3 :: a4 :: a5 :: r := by
  rw [List.set_append_right _ _ (Nat.le_refl _), List.set_append_right _ _ (by omega), List.set_append_right _ _ (by omega), List.set_append_right _ _ (by omega), List.set_append_right _ _ (by omega), List.set_append_right _ _ (by omega)]
  simp
theorem dgram_set_other {cs : List Value} {i j : Nat} {v u : Value} (h : cs[j]? = some u) (hij : i ≠ j) : (cs.set i v)[j]? = some u := by
  rw [List.getElem?_set_ne hij]; exact h
end Go.Proofs.Ythdklbmachplmaa

namespace Go.Proofs.Ythdklbmachplmaa
open Go.RowKit

/-- a number within bounds -/
def within (x a b : Int) : Bool := decide (a ≤ x) && decide (x ≤ b)
theorem within_yes {x a b : Int} (h1 : a ≤ x) (h2 : x ≤ b) : within x a b = true := by simp [within, h1, h2]
theorem within_no {x a b : Int} (h : x < a ∨ b < x) : within x a b = false := by
  simp only [within, Bool.and_eq_false_imp, decide_eq_true_eq, decide_eq_false_iff_not]
  omega
theorem within_iff {x a b : Int} : within x a b = true ↔ a ≤ x ∧ x ≤ b := by simp [within]
end Go.Proofs.Ythdklbmachplmaa

namespace Go.Proofs.Ythdklbmachplmaa
open Go.RowKit

/-- one more number; what goes beyond comes in at the low end -/
def ones1 (s n : Nat) : Nat := if 65535 < s + n then s + n - 65535 else s + n
def onesF : Nat → List UInt8 → Nat
  | s, [] => s
  | s, [a] => ones1 s (256 * a.toNat)
  | s, a :: b :: r => onesF (ones1 s (256 * a.toNat + b.toNat)) r
def sumOnes (l : List UInt8) : Nat := 65535 - onesF 0 l
theorem ones1_le {s n : Nat} (hs : s ≤ 65535) (hn : n ≤ 65535) : ones1 s n ≤ 65535 := by
  unfold ones1
  split <;> omega
theorem pair_le (a b : UInt8) : 256 * a.toNat + b.toNat ≤ 65535 := by
  have := a.toNat_lt
  have := b.toNat_lt
  omega
theorem onesF_le : ∀ (l : List UInt8) (s : Nat), s ≤ 65535 → onesF s l ≤ 65535
  | [], _, h => h
  | [a], s, h => ones1_le h (by have := a.toNat_lt; omega)
  | a :: b :: r, s, h => onesF_le r _ (ones1_le h (pair_le a b))
theorem sumOnes_le (l : List UInt8) : sumOnes l ≤ 65535 := by unfold sumOnes; omega
/-- the sum goes on by pairs -/
theorem onesF_pair (l : List UInt8) (k s : Nat) (h : k + 1 < l.length) : onesF s (l.drop k) = onesF (ones1 s (256 * (l[k]'(by omega)).toNat + l[k + 1].toNat)) (l.drop (k + 2)) := by
  rw [List.drop_eq_getElem_cons (show k < l.length by omega), List.drop_eq_getElem_cons h]
  rfl
theorem onesF_last (l : List UInt8) (k s : Nat) (h : k + 1 = l.length) : onesF s (l.drop k) = ones1 s (256 * (l[k]'(by omega)).toNat) := by
  rw [List.drop_eq_getElem_cons (show k < l.length by omega), List.drop_eq_nil_of_le (by omega)]
  rfl
theorem onesF_append_even : ∀ (l r : List UInt8) (s : Nat), l.length % 2 = 0 → onesF s (l ++ r) = onesF (onesF s l) r
  | [], r, s, _ => rfl
  | [a], r, s, h => by simp at h
  | a :: b :: l, r, s, h => by
    show onesF _ (l ++ r) = _
    exact onesF_append_even l r _ (by simp at h; omega)
/-- a sum with the sum itself put to it is nothing -/
theorem sumOnes_with {l : List UInt8} (h : l.length % 2 = 0) : sumOnes (l ++ [UInt8.ofNat (sumOnes l / 256), UInt8.ofNat (sumOnes l % 256)]) = 0 := by
  have hle := onesF_le l 0 (by omega)
  unfold sumOnes
  rw [onesF_append_even l _ 0 h]
  obtain ⟨S, hS⟩ : ∃ S, onesF 0 l = S := ⟨_, rfl⟩
  rw [hS] at hle ⊢
  have e : onesF S [UInt8.ofNat ((65535 - S) / 256), UInt8.ofNat ((65535 - S) % 256)] = ones1 S (65535 - S) := by
    show ones1 S (256 * (UInt8.ofNat ((65535 - S) / 256)).toNat + (UInt8.ofNat ((65535 - S) % 256)).toNat) = _
    rw [UInt8.toNat_ofNat', UInt8.toNat_ofNat']
    congr 1
    omega
  rw [e]
  unfold ones1
  split <;> omega
end Go.Proofs.Ythdklbmachplmaa

namespace Go.Proofs.Ythdklbmachplmaa
open Go.RowKit

def dgramOk (d : DgramD) : Bool := within d.src 1 99 && (within d.dst 1 99 && (within d.ident 0 65535 && (within d.place 0 160 && (decide (d.place % 8 = 0) && (within (d.body.size : Int) 1 (160 - d.place) && (!d.more || decide (d.body.size % 8 = 0)))))))
theorem dgramOk_bd {d : DgramD} (h : dgramOk d = true) : (1 ≤ d.src ∧ d.src ≤ 99) ∧ (1 ≤ d.dst ∧ d.dst ≤ 99) ∧ (0 ≤ d.ident ∧ d.ident ≤ 65535) ∧ (0 ≤ d.place ∧ d.place ≤ 160) ∧ d.place % 8 = 0 ∧ (1 ≤ (d.body.size : Int) ∧ (d.body.size : Int) ≤ 160 - d.place) ∧ (d.more = true → d.body.size % 8 = 0) := by
  simp only [dgramOk, Bool.and_eq_true, within_iff, decide_eq_true_eq, Bool.or_eq_true, Bool.not_eq_true'] at h
  obtain ⟨h1, h2, h3, h4, h5, h6, h7⟩ := h
  refine ⟨h1, h2, h3, h4, h5, h6, fun hm => ?_⟩
  rcases h7 with h7 | h7
  · rw [hm] at h7; cases h7
  · exact h7
/-- a number in two bytes, the higher one first -/
def twoB (n : Nat) : List UInt8 := [UInt8.ofNat (n / 256), UInt8.ofNat (n % 256)]
/-- the six bytes of the head -/
def dHead (d : DgramD) : List UInt8 := [UInt8.ofNat d.src.toNat, UInt8.ofNat d.dst.toNat] ++ twoB d.ident.toNat ++ [UInt8.ofNat (d.place.toNat / 8), UInt8.ofNat (if d.more then 1 else 0)]
def dBytes (d : DgramD) : List UInt8 := dHead d ++ twoB (sumOnes (dHead d)) ++ d.body.data.toList
def dText (d : DgramD) : ByteArray := ⟨(dHead d).toArray⟩ ++ ⟨(twoB (sumOnes (dHead d))).toArray⟩ ++ d.body
def dgramText (d : DgramD) : ByteArray × Bool := if dgramOk d then (dText d, true) else (ByteArray.empty, false)
def dgramZero : DgramD := ⟨0, 0, 0, 0, false, ByteArray.empty⟩
theorem dgramText_yes {d : DgramD} (h : dgramOk d = true) : dgramText d = (dText d, true) := by rw [dgramText, if_pos h]
theorem dgramText_no {d : DgramD} (h : dgramOk d = false) : dgramText d = (ByteArray.empty, false) := by rw [dgramText, if_neg (by simp [h])]
theorem dHead_length (d : DgramD) : (dHead d).length = 6 := rfl
theorem dText_list (d : DgramD) : (dText d).data.toList = dBytes d := by
  rw [dText, ByteArray.data_append, ByteArray.data_append, Array.toList_append, Array.toList_append, dBytes]
theorem dText_size (d : DgramD) : (dText d).size = d.body.size + 8 := by
  rw [dText, ByteArray.size_append, ByteArray.size_append]
  show 6 + 2 + d.body.size = _
  omega
/-- the datagram that nine bytes and more tell -/
def dgramOf (s : ByteArray) : DgramD := ⟨(s.data.toList.getD 0 0).toNat, (s.data.toList.getD 1 0).toNat, 256 * (s.data.toList.getD 2 0).toNat + (s.data.toList.getD 3 0).toNat, 8 * (s.data.toList.getD 4 0).toNat, decide ((s.data.toList.getD 5 0).toNat = 1), s.extract 8 s.size⟩
theorem tail8 (s : ByteArray) : (s.extract 8 s.size).data.toList = s.data.toList.drop 8 := by
  have h : (s.extract 8 s.size).data = s.data.extract 8 s.size := by rw [ByteArray.data_extract]
  rw [h, Array.toList_extract, List.extract_eq_take_drop]
  apply List.take_of_length_le
  rw [List.length_drop, Array.length_toList]
  exact Nat.le_refl _
/-- the text of a right datagram -/
def DgramIn (s : ByteArray) : Prop := 9 ≤ s.size ∧ (s.data.toList.getD 5 0).toNat ≤ 1 ∧ dgramOk (dgramOf s) = true ∧ dText (dgramOf s) = s
theorem dgramOf_text {d : DgramD} (h : dgramOk d = true) : dgramOf (dText d) = d := by
  obtain ⟨⟨a1, a2⟩, ⟨b1, b2⟩, ⟨c1, c2⟩, ⟨e1, e2⟩, f1, _, _⟩ := dgramOk_bd h
  obtain ⟨x, y, z, p, m, b⟩ := d
  dsimp only at a1 a2 b1 b2 c1 c2 e1 e2 f1
  have hb : (dText ⟨x, y, z, p, m, b⟩).extract 8 (dText ⟨x, y, z, p, m, b⟩).size = b := by
    apply ByteArray.ext
    apply Array.toList_inj.1
    rw [tail8, dText_list]
    rfl
  rw [dgramOf, hb, dText_list]
  simp only [dBytes, dHead, twoB, List.cons_append, List.nil_append, List.getD_cons_zero, List.getD_cons_succ, UInt8.toNat_ofNat']
  have h1 : ((x.toNat % 2 ^ 8 : Nat) : Int) = x := by omega
  have h2 : ((y.toNat % 2 ^ 8 : Nat) : Int) = y := by omega
  have h3 : (256 * ((z.toNat / 256 % 2 ^ 8 : Nat) : Int) + ((z.toNat % 256 % 2 ^ 8 : Nat) : Int)) = z := by omega
  have h4 : (8 * ((p.toNat / 8 % 2 ^ 8 : Nat) : Int)) = p := by omega
  rw [h1, h2, h3, h4]
  cases m <;> rfl
theorem dgramIn_text {d : DgramD} (h : dgramOk d = true) : DgramIn (dText d) := by
  have hz := dText_size d
  have hb := (dgramOk_bd h).2.2.2.2.2.1.1
  refine ⟨by omega, ?_, by rw [dgramOf_text h]; exact h, by rw [dgramOf_text h]⟩
  rw [dText_list]
  show (UInt8.ofNat (if d.more = true then 1 else 0)).toNat ≤ 1
  cases d.more <;> decide
theorem head_sum (d : DgramD) : sumOnes (dHead d ++ twoB (sumOnes (dHead d))) = 0 := sumOnes_with (by rw [dHead_length])
end Go.Proofs.Ythdklbmachplmaa

namespace Go.Proofs.Ythdklbmachplmaa
open Go.RowKit

/-- where a number stands first -/
def firstAt (l : List Int) (x : Int) : Option Nat := l.findIdx? fun y => decide (y = x)
theorem firstAt_snoc (l : List Int) (y x : Int) : firstAt (l ++ [y]) x = (firstAt l x).or (if y = x then some l.length else none) := by
  rw [firstAt, firstAt, List.findIdx?_append]
  by_cases h : y = x <;> simp [h, List.findIdx?_cons]
theorem firstAt_get {l : List Int} {x : Int} {i : Nat} (h : firstAt l x = some i) : ∃ hi : i < l.length, l[i] = x := by
  unfold firstAt at h
  rw [List.findIdx?_eq_some_iff_getElem] at h
  obtain ⟨hi, h1, _⟩ := h
  exact ⟨hi, by simpa using h1⟩
theorem firstAt_none {l : List Int} {x : Int} (h : firstAt l x = none) : x ∉ l := by
  unfold firstAt at h
  rw [List.findIdx?_eq_none_iff] at h
  intro hm
  have := h x hm
  simp at this
def IntsWf (zs : List Int) : Prop := ∀ z ∈ zs, (Lit.int .i64 z).wf = true
def isOf (d : DgramD) (e : BitD) : Bool := decide (e.src = d.src) && decide (e.ident = d.ident)
def foundB (l : List BitD) (d : DgramD) : Option Nat := l.findIdx? (isOf d)
def newB (d : DgramD) (now : Int) : BitD := ⟨d.src, d.ident, [], [], 0, now + 10⟩
theorem foundB_snoc (l : List BitD) (e : BitD) (d : DgramD) : foundB (l ++ [e]) d = (foundB l d).or (if isOf d e = true then some l.length else none) := by
  rw [foundB, foundB, List.findIdx?_append]
  by_cases h : isOf d e = true <;> simp [h, List.findIdx?_cons]
theorem foundB_hit {l : List BitD} {d : DgramD} {k : Nat} (h : k < l.length) (hn : foundB (l.take k) d = none) (hy : isOf d l[k] = true) : foundB l d = some k := by
  have e : l = (l.take k ++ [l[k]]) ++ l.drop (k + 1) := by rw [← List.take_succ_eq_append_getElem h, List.take_append_drop]
  rw [e, foundB, List.findIdx?_append]
  have := foundB_snoc (l.take k) l[k] d
  rw [hn, if_pos hy, List.length_take, Nat.min_eq_left (Nat.le_of_lt h)] at this
  rw [foundB] at this
  rw [this]
  rfl
theorem own_none (w : World) (d : DgramD) (now : Int) (hi : Nat) (h : hi ≤ w.heap.size) : OwnRB w (newB d now) (rawB (newB d now) none 0 none 0) hi w.heap.size :=
  ⟨none, 0, none, 0, hi, rfl, ⟨World.ownsRow_nil _ _ _ _, fun g hg => by cases hg⟩, ⟨World.ownsRow_nil _ _ _ _, fun g hg => by cases hg⟩, Nat.le_refl _, h⟩
/-- a part comes to bits -/
def addPart (e : BitD) (d : DgramD) : BitD := ⟨e.src, e.ident, e.texts ++ [d.body], e.ats ++ [d.place], if d.more = false ∧ e.total = 0 then d.place + (d.body.size : Int) else e.total, e.lim⟩
def takeD (e : BitD) (d : DgramD) : BitD := if (firstAt e.ats d.place).isSome = true then e else addPart e d
/-- the text of a part -/
def textB (e : BitD) (i : Nat) : ByteArray := e.texts.getD i ⟨#[]⟩
/-- the parts from here on -/
def runB (e : BitD) : Nat → ByteArray → Option ByteArray
  | 0, s => if (s.size : Int) < e.total then none else some s
  | f + 1, s => if (s.size : Int) < e.total then (match firstAt e.ats (s.size : Int) with | none => none | some i => if (textB e i).size = 0 then none else runB e f (s ++ textB e i)) else some s
def bodyB (e : BitD) : Option ByteArray := (runB e e.total.toNat ⟨#[]⟩).bind fun s => if e.total ≠ 0 ∧ (s.size : Int) = e.total then some s else none
theorem runB_end (e : BitD) (f : Nat) {s : ByteArray} (h : ¬ (s.size : Int) < e.total) : runB e f s = some s := by
  cases f <;> simp [runB, h]
theorem runB_no {e : BitD} {f : Nat} {s : ByteArray} (h : (s.size : Int) < e.total) (hn : firstAt e.ats (s.size : Int) = none) : runB e f s = none := by
  cases f <;> simp [runB, h, hn]
theorem runB_empty {e : BitD} {f i : Nat} {s : ByteArray} (h : (s.size : Int) < e.total) (hn : firstAt e.ats (s.size : Int) = some i) (ht : (textB e i).size = 0) : runB e f s = none := by
  cases f <;> simp [runB, h, hn, ht]
theorem runB_step {e : BitD} {f i : Nat} {s : ByteArray} (h : (s.size : Int) < e.total) (hn : firstAt e.ats (s.size : Int) = some i) (ht : (textB e i).size ≠ 0) : runB e (f + 1) s = runB e f (s ++ textB e i) := by
  simp [runB, h, hn, ht]
theorem textB_size {e : BitD} (hs : SmallB e) (i : Nat) : (textB e i).size ≤ 1048576 := by
  unfold textB
  rw [List.getD_eq_getElem?_getD]
  cases h : e.texts[i]? with
  | none => exact Nat.zero_le _
  | some t => exact hs.2.2 t (List.mem_of_getElem? h)
def zeroG : DgramD := ⟨0, 0, 0, 0, false, ⟨#[]⟩⟩
def wholeG (d : DgramD) (S : ByteArray) : DgramD := ⟨d.src, d.dst, d.ident, 0, false, S⟩
def joinOk (d : DgramD) (now : Int) : Bool := dgramOk d && (decide (0 ≤ now) && decide (now ≤ 999999990))
/-- the bits that a datagram's part goes to, and those about them -/
def joinAt (l : List BitD) (d : DgramD) (now : Int) : List BitD × BitD × List BitD :=
  match foundB l d with
  | some k => (l.take k, l.getD k (newB d now), l.drop (k + 1))
  | none => (l.drop (if 3 < l.length + 1 then 1 else 0), newB d now, [])
def joinB (l : List BitD) (d : DgramD) (now : Int) : List BitD × DgramD × Bool :=
  if joinOk d now = true then
    if d.place = 0 ∧ d.more = false then (l, d, true)
    else match bodyB (takeD (joinAt l d now).2.1 d) with
      | some S => ((joinAt l d now).1 ++ (joinAt l d now).2.2, wholeG d S, true)
      | none => ((joinAt l d now).1 ++ takeD (joinAt l d now).2.1 d :: (joinAt l d now).2.2, zeroG, false)
  else (l, zeroG, false)
theorem joinB_bad {l : List BitD} {d : DgramD} {now : Int} (h : joinOk d now = false) : joinB l d now = (l, zeroG, false) := by simp [joinB, h]
theorem joinB_once {l : List BitD} {d : DgramD} {now : Int} (h : joinOk d now = true) (h1 : d.place = 0 ∧ d.more = false) : joinB l d now = (l, d, true) := by simp [joinB, h, h1]
theorem joinB_some {l : List BitD} {d : DgramD} {now : Int} (h : joinOk d now = true) (h1 : ¬ (d.place = 0 ∧ d.more = false)) {S : ByteArray} (hS : bodyB (takeD (joinAt l d now).2.1 d) = some S) : joinB l d now = ((joinAt l d now).1 ++ (joinAt l d now).2.2, wholeG d S, true) := by
  rw [joinB, if_pos h, if_neg h1, hS]
theorem joinB_none {l : List BitD} {d : DgramD} {now : Int} (h : joinOk d now = true) (h1 : ¬ (d.place = 0 ∧ d.more = false)) (hS : bodyB (takeD (joinAt l d now).2.1 d) = none) : joinB l d now = ((joinAt l d now).1 ++ takeD (joinAt l d now).2.1 d :: (joinAt l d now).2.2, zeroG, false) := by
  rw [joinB, if_pos h, if_neg h1, hS]
end Go.Proofs.Ythdklbmachplmaa

namespace Go.Proofs.Ythdklbmachplmaa
open Go.RowKit

def partW (e : BitD) (s : ByteArray) : ByteArray := match firstAt e.ats (s.size : Int) with
  | some i => s ++ textB e i
  | none => s
def iterW (e : BitD) : Nat → ByteArray → ByteArray
  | 0, s => s
  | n + 1, s => if (s.size : Int) < e.total then iterW e n (partW e s) else s
/-- bits as they come from parts of datagrams -/
structure GoodB (e : BitD) : Prop where
  len : e.texts.length = e.ats.length
  few : e.ats.length ≤ 1000
  short : ∀ t ∈ e.texts, 1 ≤ t.size ∧ t.size ≤ 160
  most : e.total ≤ 1000
theorem GoodB.small {e : BitD} (h : GoodB e) : SmallB e := ⟨by have := h.len; have := h.few; omega, by have := h.few; omega, fun t ht => by have := h.short t ht; omega⟩
theorem textB_good {e : BitD} (h : GoodB e) {i : Nat} (hi : i < e.ats.length) : 1 ≤ (textB e i).size ∧ (textB e i).size ≤ 160 := by
  have hl : i < e.texts.length := by rw [h.len]; exact hi
  have ht : textB e i = e.texts[i] := by simp [textB, hl]
  rw [ht]
  exact h.short _ (List.getElem_mem hl)
theorem countP_mono {l : List Int} {a b : Int} (h : a ≤ b) : l.countP (fun z => decide (b ≤ z)) ≤ l.countP (fun z => decide (a ≤ z)) := by
  induction l with
  | nil => exact Nat.le_refl _
  | cons x l ih =>
    simp only [List.countP_cons, decide_eq_true_eq]
    by_cases h1 : b ≤ x
    · rw [if_pos h1, if_pos (by omega)]; omega
    · rw [if_neg h1]; split <;> omega
theorem countP_less {l : List Int} {a b : Int} (h : a < b) (hm : a ∈ l) : l.countP (fun z => decide (b ≤ z)) < l.countP (fun z => decide (a ≤ z)) := by
  induction l with
  | nil => cases hm
  | cons x l ih =>
    simp only [List.countP_cons, decide_eq_true_eq]
    have hmo := countP_mono (l := l) (Int.le_of_lt h)
    rcases List.mem_cons.1 hm with e | e
    · subst e
      rw [if_neg (by omega), if_pos (by omega)]; omega
    · have := ih e
      by_cases h1 : b ≤ x
      · rw [if_pos h1, if_pos (by omega)]; omega
      · rw [if_neg h1]; split <;> omega
theorem iterW_stuck {e : BitD} {s : ByteArray} (h : partW e s = s) : ∀ n, iterW e n s = s
  | 0 => rfl
  | n + 1 => by
    simp only [iterW, h]
    split
    · exact iterW_stuck h n
    · rfl
theorem partW_none {e : BitD} {s : ByteArray} (h : firstAt e.ats (s.size : Int) = none) : partW e s = s := by simp [partW, h]
theorem partW_some {e : BitD} {s : ByteArray} {i : Nat} (h : firstAt e.ats (s.size : Int) = some i) : partW e s = s ++ textB e i := by simp [partW, h]
theorem run_iter {e : BitD} (hg : GoodB e) : ∀ (n f : Nat) (s : ByteArray), e.ats.countP (fun z => decide ((s.size : Int) ≤ z)) < n → e.total ≤ (f : Int) + (s.size : Int) → runB e f s = if ((iterW e n s).size : Int) < e.total then none else some (iterW e n s)
  | 0, _, _, h, _ => by omega
  | n + 1, f, s, h, hf => by
    by_cases hlt : (s.size : Int) < e.total
    · cases hn : firstAt e.ats (s.size : Int) with
      | none => rw [runB_no hlt hn, iterW_stuck (partW_none hn), if_pos hlt]
      | some i =>
        obtain ⟨hi, hx⟩ := firstAt_get hn
        obtain ⟨t1, t2⟩ := textB_good hg hi
        obtain ⟨f', rfl⟩ : ∃ f', f = f' + 1 := ⟨f - 1, by omega⟩
        have hsz : (s ++ textB e i).size = s.size + (textB e i).size := ByteArray.size_append
        have hm : (s.size : Int) ∈ e.ats := by rw [← hx]; exact List.getElem_mem hi
        have hc := countP_less (l := e.ats) (a := (s.size : Int)) (b := ((s ++ textB e i).size : Int)) (by omega) hm
        rw [runB_step hlt hn (by omega), run_iter hg n f' (s ++ textB e i) (by omega) (by omega)]
        simp only [iterW, if_pos hlt, partW_some hn]
    · rw [runB_end e f hlt]
      simp only [iterW, if_neg hlt]
def wholeS (e : BitD) : ByteArray := iterW e (e.ats.length + 1) ⟨#[]⟩
theorem body_whole {e : BitD} (hg : GoodB e) : bodyB e = if 0 < e.total ∧ ((wholeS e).size : Int) = e.total then some (wholeS e) else none := by
  have h := run_iter hg (e.ats.length + 1) e.total.toNat ⟨#[]⟩ (Nat.lt_succ_of_le List.countP_le_length) (by show e.total ≤ (e.total.toNat : Int) + ((0 : Nat) : Int); omega)
  rw [bodyB, h]
  show Option.bind (if ((wholeS e).size : Int) < e.total then none else some (wholeS e)) _ = _
  by_cases h1 : ((wholeS e).size : Int) < e.total
  · rw [if_pos h1, if_neg (by omega)]; rfl
  · rw [if_neg h1]
    show (if e.total ≠ 0 ∧ ((wholeS e).size : Int) = e.total then some (wholeS e) else none) = _
    by_cases h2 : ((wholeS e).size : Int) = e.total
    · by_cases h3 : e.total = 0
      · rw [if_neg (by omega), if_neg (by omega)]
      · rw [if_pos ⟨h3, h2⟩, if_pos ⟨by omega, h2⟩]
    · rw [if_neg (by omega), if_neg (by omega)]
theorem partW_size {e : BitD} (hg : GoodB e) (s : ByteArray) : (partW e s).size ≤ s.size + 160 := by
  cases hn : firstAt e.ats (s.size : Int) with
  | none => rw [partW_none hn]; omega
  | some i =>
    obtain ⟨hi, _⟩ := firstAt_get hn
    have := textB_good hg hi
    rw [partW_some hn, ByteArray.size_append]
    omega
theorem iterW_size {e : BitD} (hg : GoodB e) : ∀ (n : Nat) (s : ByteArray), s.size ≤ 1200 → (iterW e n s).size ≤ 1200
  | 0, _, h => h
  | n + 1, s, h => by
    simp only [iterW]
    split
    · have := partW_size hg s
      have := hg.most
      exact iterW_size hg n _ (by omega)
    · exact h
theorem firstAt_none_of {l : List Int} {x : Int} (h : ∀ j (hj : j < l.length), l[j] ≠ x) : firstAt l x = none := by
  rw [firstAt, List.findIdx?_eq_none_iff]
  intro y hy
  obtain ⟨j, hj, rfl⟩ := List.getElem_of_mem hy
  simpa using h j hj
theorem firstAt_some_of {l : List Int} {x : Int} {i : Nat} (hi : i < l.length) (hx : l[i] = x) (h : ∀ j (hj : j < i), l[j]'(by omega) ≠ x) : firstAt l x = some i := by
  rw [firstAt, List.findIdx?_eq_some_iff_getElem]
  exact ⟨hi, by simpa using hx, fun j hj => by simpa using h j hj⟩
/-- what is good stays good -/
theorem newB_good (d : DgramD) (now : Int) : GoodB (newB d now) := ⟨rfl, Nat.zero_le _, fun t h => by simp [newB] at h, by show (0 : Int) ≤ 1000; decide⟩
theorem takeD_good {e : BitD} {d : DgramD} (h : GoodB e) (hn : e.ats.length ≤ 900) (hd : dgramOk d = true) : GoodB (takeD e d) := by
  obtain ⟨_, _, _, h4, _, h6, _⟩ := dgramOk_bd hd
  unfold takeD
  split
  · exact h
  · refine ⟨by simp [addPart, h.len], by simp [addPart]; omega, fun t ht => ?_, ?_⟩
    · simp only [addPart, List.mem_append, List.mem_singleton] at ht
      rcases ht with ht | ht
      · exact h.short t ht
      · subst ht; omega
    · have := h.most
      simp only [addPart]
      split <;> omega
theorem takeD_len (e : BitD) (d : DgramD) : (takeD e d).ats.length ≤ e.ats.length + 1 := by
  unfold takeD
  split
  · omega
  · simp [addPart]
end Go.Proofs.Ythdklbmachplmaa

namespace Go.Proofs.Ythdklbmachplmaa
open Go.RowKit

theorem row_apart {w : World} {base size n g : Nat} {t t' : TypeId} {v : Value} {xs cs : List Value} (hr : w.ownsRow base t size v n xs) (hg : BlockIs w g t' cs) (ht : t' ≠ t) : some g ≠ v.ownBlock := by
  intro e
  obtain ⟨cs', h2, _⟩ := row_block hr e.symm
  exact ht (block_one hg h2).1
theorem block_row {w w1 : World} {base size n g : Nat} {t t' : TypeId} {v : Value} {xs cs : List Value} (hg : BlockIs w g t' cs) (hr : w.ownsRow base t size v n xs) (hgr : w.grownBy w1 v.ownBlock) (ht : t' ≠ t) : BlockIs w1 g t' cs := by
  unfold BlockIs
  rw [hgr.block g hg.lt (row_apart hr hg ht)]
  exact hg
/-- bits behind a row of the call's own, within a region that draws -/
theorem step_append_bitss {w : World} {ops : Array Oper} {o : Oper} {a : Act} {K : Act → World → Prop} {Q : Exit → Act → World → Prop} {E : Prop} (hgd : o.guard = none) (s x : Operand)
    (ho : o.op = .call { callee := .builtin .append, args := #[s, x], argTypes := #[24, 24] }) (hty : o.type = 24) {v : Value} {base c m N : Nat} {L M : List BitsD} {ao : Option Addr} (hs : a.eval s = v) (hx : a.eval x = .slice ao m c)
    (hm : M.length = m) (hN : (L ++ M).length = N) (hn : N ≤ 2097153) (hbase : base ≤ w.heap.size) (hr : w.ownsRow base 35 6 v L.length (bitsCells L)) (hM : BitssAt w ao M)
    (h : ∀ va vc w1, w1.ownsRow base 35 6 (.slice va N vc) N (bitsCells (L ++ M)) → w.grownBy w1 v.ownBlock → K (a.put o.dst (.slice va N vc)) w1) : if Region.wanted o (yielded ops a.tmps) = true then Oper.wp Try.prog o a w K Q else E := by
  have hw : Region.wanted o (yielded ops a.tmps) = true := by simp [Region.wanted, hgd]
  rw [if_pos hw]
  subst hm hN
  obtain ⟨v', W', hrun, h2, h3⟩ := append_bitss (c := c) (by rw [← List.length_append]; exact hn) hbase hr hM
  obtain ⟨va, vc, rfl⟩ := row_shape h2
  unfold Oper.wp
  simp [execOp, ho, hty, resolve, invoke, builtin, hs, hx, hrun, Result.andThen]
  have h4 := h va vc W' h2 h3
  rw [List.length_append] at h4
  exact h4
theorem NestR.within {w w1 : World} : ∀ {l : List BitD} {rs : List BitsD} {lo hi : Nat}, NestR w l rs lo hi → (∀ g xs, lo ≤ g → g < hi → BlockIs w g 9 xs → BlockIs w1 g 9 xs) → (∀ g xs, lo ≤ g → g < hi → BlockIs w g 3 xs → BlockIs w1 g 3 xs) → NestR w1 l rs lo hi
  | [], [], _, _, h, _, _ => h
  | _ :: _, _ :: _, _, _, ⟨m, e1, e2⟩, h9, h3 => ⟨m, e1.other (fun g xs a b => h9 g xs a (by have := e2.le; omega)) (fun g xs a b => h3 g xs a (by have := e2.le; omega)), NestR.within e2 (fun g xs a b => h9 g xs (by have := e1.le; omega) b) (fun g xs a b => h3 g xs (by have := e1.le; omega) b)⟩
/-- values behind a row of the call's own, within a region that draws -/
theorem step_append_vals {S t : TypeId} {z : Value} {bs : Nat} (hu : Try.prog.underlying S = some (.slice t)) (hi : (Try.prog.info? t).map (fun i => (i.zero, i.size, i.bytes)) = some (some z, 1, bs)) (hz : z.cells.size = 1) (hbs : bs ≤ 16)
    {w : World} {ops : Array Oper} {o : Oper} {a : Act} {K : Act → World → Prop} {Q : Exit → Act → World → Prop} {E : Prop} (hgd : o.guard = none) (s x : Operand)
    (ho : o.op = .call { callee := .builtin .append, args := #[s, x], argTypes := #[S, S] }) (hty : o.type = S) {v : Value} {base c m n N : Nat} {xs ys : List Value} {ao : Option Addr} (hs : a.eval s = v) (hx : a.eval x = .slice ao m c)
    (hm : ys.length = m) (hn : xs.length = n) (hN : n + m = N) (hone : ∀ u ∈ ys, u.oneCell' = true) (hl : N ≤ 4194304) (hbase : base ≤ w.heap.size) (hr : w.ownsRow base t 1 v n xs) (hM : ValsAt w ao ys)
    (h : ∀ va vc w1, w1.ownsRow base t 1 (.slice va N vc) N (xs ++ ys) → w.grownBy w1 v.ownBlock → K (a.put o.dst (.slice va N vc)) w1) : if Region.wanted o (yielded ops a.tmps) = true then Oper.wp Try.prog o a w K Q else E := by
  have hw : Region.wanted o (yielded ops a.tmps) = true := by simp [Region.wanted, hgd]
  rw [if_pos hw]
  subst hm hn hN
  obtain ⟨v', W', hrun, h2, h3⟩ := append_vals (c := c) hu hi hz hbs hone hl hbase hr hM
  obtain ⟨va, vc, rfl⟩ := row_shape h2
  unfold Oper.wp
  simp [execOp, ho, hty, resolve, invoke, builtin, hs, hx, hrun, Result.andThen]
  exact h va vc W' h2 h3
/-- the cells of the one that is open -/
theorem mid_cell (p q : List Value) (v0 v1 v2 v3 v4 v5 : Value) {k : Nat} (hk : p.length = k) : (p ++ (v0 :: v1 :: v2 :: v3 :: v4 :: v5 :: q))[k + 2]? = some v2 ∧ (p ++ (v0 :: v1 :: v2 :: v3 :: v4 :: v5 :: q))[k + 3]? = some v3 ∧ (p ++ (v0 :: v1 :: v2 :: v3 :: v4 :: v5 :: q))[k + 4]? = some v4 := by
  subst hk
  refine ⟨?_, ?_, ?_⟩ <;> rw [List.getElem?_append_right (by omega)] <;> simp
theorem mid_set (p q : List Value) (v0 v1 v2 v3 v4 v5 u : Value) {k : Nat} (hk : p.length = k) : (p ++ (v0 :: v1 :: v2 :: v3 :: v4 :: v5 :: q)).set (k + 2) u = p ++ (v0 :: v1 :: u :: v3 :: v4 :: v5 :: q) ∧ (p ++ (v0 :: v1 :: v2 :: v3 :: v4 :: v5 :: q)).set (k + 3) u = p ++ (v0 :: v1 :: v2 :: u :: v4 :: v5 :: q) ∧ (p ++ (v0 :: v1 :: v2 :: v3 :: v4 :: v5 :: q)).set (k + 4) u = p ++ (v0 :: v1 :: v2 :: v3 :: u :: v5 :: q) := by
  subst hk
  refine ⟨?_, ?_, ?_⟩ <;> rw [List.set_append_right _ _ (by omega)] <;> simp
/-- the cells of the row -/
def midCs (rs1 rs2 : List BitsD) (r0 : List Value) (e : BitD) (tv av : Value) (tot : Int) : List Value := bitsCells rs1 ++ (.int .i64 e.src :: .int .i64 e.ident :: tv :: av :: .int .i64 tot :: .int .i64 e.lim :: (bitsCells rs2 ++ r0))
theorem midCs_raw (rs1 rs2 : List BitsD) (r0 : List Value) (e : BitD) (ta : Option Addr) (tc : Nat) (aa : Option Addr) (ac : Nat) : bitsCells (rs1 ++ rawB e ta tc aa ac :: rs2) ++ r0 = midCs rs1 rs2 r0 e (.slice ta e.texts.length tc) (.slice aa e.ats.length ac) e.total := by
  simp [midCs, bitsCells, bitsEnc, rawB]
theorem midCs_at (rs1 rs2 : List BitsD) (r0 : List Value) (e : BitD) (tv av : Value) (tot : Int) {k : Nat} (hk : rs1.length = k) : (midCs rs1 rs2 r0 e tv av tot)[k * 6 + 2]? = some tv ∧ (midCs rs1 rs2 r0 e tv av tot)[k * 6 + 3]? = some av ∧ (midCs rs1 rs2 r0 e tv av tot)[k * 6 + 4]? = some (.int .i64 tot) :=
  mid_cell (bitsCells rs1) (bitsCells rs2 ++ r0) _ _ _ _ _ _ (by rw [bitsCells_length, hk])
theorem midCs_set (rs1 rs2 : List BitsD) (r0 : List Value) (e : BitD) (tv av : Value) (tot : Int) {k : Nat} (hk : rs1.length = k) (u : Value) (z : Int) : (midCs rs1 rs2 r0 e tv av tot).set (k * 6 + 2) u = midCs rs1 rs2 r0 e u av tot ∧ (midCs rs1 rs2 r0 e tv av tot).set (k * 6 + 3) u = midCs rs1 rs2 r0 e tv u tot ∧ (midCs rs1 rs2 r0 e tv av tot).set (k * 6 + 4) (.int .i64 z) = midCs rs1 rs2 r0 e tv av z := by
  have hl : (bitsCells rs1).length = k * 6 := by rw [bitsCells_length, hk]
  exact ⟨(mid_set _ _ _ _ _ _ _ _ u hl).1, (mid_set _ _ _ _ _ _ _ _ u hl).2.1, (mid_set _ _ _ _ _ _ _ _ (.int .i64 z) hl).2.2⟩
/-- the boxes of its own -/
structure JoinW (w : World) (d : DgramD) (W : World) : Prop where
  x : BlockIs W w.heap.size 26 [.int .i64 d.src, .int .i64 d.dst, .int .i64 d.ident, .int .i64 d.place, .bool d.more, .string d.body]
  z : BlockIs W (w.heap.size + 1) 26 [.int .i64 0, .int .i64 0, .int .i64 0, .int .i64 0, .bool false, .string ⟨#[]⟩]
  b : Below w.heap.size w W
theorem JoinW.on {w : World} {d : DgramD} {W W' : World} (h : JoinW w d W) {n : Nat} (hb : Below n W W') (hn : w.heap.size + 2 ≤ n) : JoinW w d W' :=
  ⟨h.x.on hb (by omega), h.z.on hb (by omega), h.b.trans (hb.mono (by omega))⟩
theorem JoinW.big {w : World} {d : DgramD} {W : World} (h : JoinW w d W) : w.heap.size + 2 ≤ W.heap.size := h.z.lt
def sixth (W : World) (b : Nat) (v0 v1 v2 v3 v4 v5 : Value) : World := (((((W.setCell ⟨b, 0, none⟩ v0).setCell ⟨b, 1, none⟩ v1).setCell ⟨b, 2, none⟩ v2).setCell ⟨b, 3, none⟩ v3).setCell ⟨b, 4, none⟩ v4).setCell ⟨b, 5, none⟩ v5
theorem below_six {w W : World} {b : Nat} (h : Below w.heap.size w W) (hb : w.heap.size ≤ b) (v0 v1 v2 v3 v4 v5 : Value) : Below w.heap.size w (sixth W b v0 v1 v2 v3 v4 v5) :=
  (((((h.setCell (p := ⟨b, 0, none⟩) hb v0).setCell (p := ⟨b, 1, none⟩) hb v1).setCell (p := ⟨b, 2, none⟩) hb v2).setCell (p := ⟨b, 3, none⟩) hb v3).setCell (p := ⟨b, 4, none⟩) hb v4).setCell (p := ⟨b, 5, none⟩) hb v5
def JoinDid (R : List BitD × DgramD × Bool) (w : World) (e : Ending) (w' : World) : Prop := ∃ va vc, e = .returned (.tuple #[.slice va R.1.length vc, .agg #[.int .i64 R.2.1.src, .int .i64 R.2.1.dst, .int .i64 R.2.1.ident, .int .i64 R.2.1.place, .bool R.2.1.more, .string R.2.1.body], .bool R.2.2]) ∧ BitsHold w' va R.1 ∧ Below w.heap.size w w'
end Go.Proofs.Ythdklbmachplmaa

namespace Go.Proofs.Ythdklbmachplmaa
open Go.RowKit

/-- the part that begins at a place -/
def partAt (d : DgramD) (sz k : Nat) : DgramD := ⟨d.src, d.dst, d.ident, d.place + (k * sz : Nat), if d.body.size ≤ k * sz + sz then d.more else true, d.body.extract (k * sz) (min (k * sz + sz) d.body.size)⟩
def cutTo (d : DgramD) (sz k : Nat) : List DgramD := (List.range k).map (partAt d sz)
def nParts (d : DgramD) (sz : Nat) : Nat := (d.body.size + sz - 1) / sz
def cutOk (d : DgramD) (size : Int) : Bool := dgramOk d && within size 8 160
/-- the parts of a datagram -/
def cutD (d : DgramD) (size : Int) : List DgramD := if cutOk d size = true then cutTo d (size.toNat / 8 * 8) (nParts d (size.toNat / 8 * 8)) else []
theorem cutTo_length (d : DgramD) (sz k : Nat) : (cutTo d sz k).length = k := by simp [cutTo]
theorem cutTo_succ (d : DgramD) (sz k : Nat) : cutTo d sz (k + 1) = cutTo d sz k ++ [partAt d sz k] := by simp [cutTo, List.range_succ]
theorem parts_more {d : DgramD} {sz k : Nat} (hs : 0 < sz) : k * sz < d.body.size ↔ k < nParts d sz := by
  unfold nParts
  rw [Nat.lt_div_iff_mul_lt hs]
  constructor <;> intro h <;> omega
theorem parts_done {d : DgramD} {sz k : Nat} (hs : 0 < sz) (h : k ≤ nParts d sz) (h2 : ¬ k * sz < d.body.size) : k = nParts d sz := by
  rw [parts_more hs] at h2
  omega
theorem nParts_le {d : DgramD} {sz : Nat} (hs : 8 ≤ sz) (hb : d.body.size ≤ 160) : nParts d sz ≤ 20 := by
  unfold nParts
  have h1 : (d.body.size + sz - 1) / sz ≤ (160 + sz - 1) / sz := Nat.div_le_div_right (by omega)
  have h2 : (160 + sz - 1) / sz < 21 := by rw [Nat.div_lt_iff_lt_mul (by omega)]; omega
  omega
end Go.Proofs.Ythdklbmachplmaa

namespace Go.Proofs.Ythdklbmachplmaa
open Go.RowKit

theorem toDgram_info : (Try.prog.info? 26).map (fun i => (i.zero, i.size, i.bytes)) = some (some (.agg #[.int .i64 0, .int .i64 0, .int .i64 0, .int .i64 0, .bool false, .string ByteArray.empty]), 6, 56) := by kernel_rfl
/-- an element's cells are written -/
theorem put_dgram {w w2 : World} {g k : Nat} {t : TypeId} {l : List DgramD} {r : List Value} (hk : k < l.length) (h : BlockIs w g t (dgramCells (l.take k) ++ r)) (hr : r.length = (l.length - k) * 6) {B : Nat} (hb : Below B w w2) (hg : g < B) :
    (∃ o0 o1 o2 o3 o4 o5, w2.cell? ⟨g, k * 6, none⟩ = some o0 ∧ w2.cell? ⟨g, k * 6 + 1, none⟩ = some o1 ∧ w2.cell? ⟨g, k * 6 + 2, none⟩ = some o2 ∧ w2.cell? ⟨g, k * 6 + 3, none⟩ = some o3 ∧ w2.cell? ⟨g, k * 6 + 4, none⟩ = some o4 ∧ w2.cell? ⟨g, k * 6 + 5, none⟩ = some o5) ∧ (∀ j, w2.frozen? ⟨g, j, none⟩ = false) ∧
    ∃ r', r'.length = (l.length - (k + 1)) * 6 ∧ BlockIs ((((((w2.setCell ⟨g, k * 6, none⟩ (.int .i64 l[k].src)).setCell ⟨g, k * 6 + 1, none⟩ (.int .i64 l[k].dst)).setCell ⟨g, k * 6 + 2, none⟩ (.int .i64 l[k].ident)).setCell ⟨g, k * 6 + 3, none⟩ (.int .i64 l[k].place)).setCell ⟨g, k * 6 + 4, none⟩ (.bool l[k].more)).setCell ⟨g, k * 6 + 5, none⟩ (.string l[k].body)) g t (dgramCells (l.take (k + 1)) ++ r') := by
  have h2 := h.on hb hg
  have hlen : (dgramCells (l.take k)).length = k * 6 := by rw [dgramCells_length, List.length_take]; omega
  match r, hr with
  | z0 :: z1 :: z2 :: z3 :: z4 :: z5 :: r', hr =>
    have hs := (((((h2.set (k * 6) (.int .i64 l[k].src)).set (k * 6 + 1) (.int .i64 l[k].dst)).set (k * 6 + 2) (.int .i64 l[k].ident)).set (k * 6 + 3) (.int .i64 l[k].place)).set (k * 6 + 4) (.bool l[k].more)).set (k * 6 + 5) (.string l[k].body)
    have e3 := dgram_sets (dgramCells (l.take k)) (.int .i64 l[k].src) (.int .i64 l[k].dst) (.int .i64 l[k].ident) (.int .i64 l[k].place) (.bool l[k].more) (.string l[k].body) z0 z1 z2 z3 z4 z5 r'
    rw [hlen] at e3
    rw [e3] at hs
    refine ⟨⟨z0, z1, z2, z3, z4, z5, h2.cell ?_, h2.cell ?_, h2.cell ?_, h2.cell ?_, h2.cell ?_, h2.cell ?_⟩, fun j => h2.thaw j, r', ?_, ?_⟩
    · rw [List.getElem?_append_right (by omega), hlen, Nat.sub_self]; rfl
    · rw [List.getElem?_append_right (by omega), hlen, show k * 6 + 1 - k * 6 = 1 by omega]; rfl
    · rw [List.getElem?_append_right (by omega), hlen, show k * 6 + 2 - k * 6 = 2 by omega]; rfl
    · rw [List.getElem?_append_right (by omega), hlen, show k * 6 + 3 - k * 6 = 3 by omega]; rfl
    · rw [List.getElem?_append_right (by omega), hlen, show k * 6 + 4 - k * 6 = 4 by omega]; rfl
    · rw [List.getElem?_append_right (by omega), hlen, show k * 6 + 5 - k * 6 = 5 by omega]; rfl
    · simp at hr; omega
    · rw [dgramCells_take l k hk, List.append_assoc]
      exact hs
  | [], hr => simp at hr; omega
  | [_], hr => simp at hr; omega
  | [_, _], hr => simp at hr; omega
  | [_, _, _], hr => simp at hr; omega
  | [_, _, _, _], hr => simp at hr; omega
  | [_, _, _, _, _], hr => simp at hr; omega

theorem made_dgram (n : Nat) : (madeCells (Value.agg #[.int .i64 0, .int .i64 0, .int .i64 0, .int .i64 0, .bool false, .string ByteArray.empty]).cells (n * 6)).toList.length = n * 6 := by
  simp [madeCells]
end Go.Proofs.Ythdklbmachplmaa

namespace Go.Proofs.Ythdklbmachplmaa
open Go.RowKit

theorem dgramR_one (a : DgramD) : ∀ u ∈ dgramEnc a, u.oneCell' = true := by
  intro u hu
  simp only [dgramEnc, List.mem_cons, List.not_mem_nil, or_false] at hu
  rcases hu with rfl | rfl | rfl | rfl | rfl | rfl <;> rfl
theorem dgramR_all (l : List DgramD) : ∀ u ∈ dgramCells l, u.oneCell' = true := by
  intro u hu
  obtain ⟨a, _, h⟩ := List.mem_flatMap.1 hu
  exact dgramR_one a u h
theorem dgramR_snoc (l : List DgramD) (a : DgramD) : dgramCells (l ++ [a]) = dgramCells l ++ dgramEnc a := by simp [dgramCells]
theorem dgramR_append (l m : List DgramD) : dgramCells (l ++ m) = dgramCells l ++ dgramCells m := by simp [dgramCells]
/-- the cells of a list that lies at an address -/
theorem dgrams_cells {w : World} {b off : Nat} {l : List DgramD} (h : ∀ j (hj : j < l.length), w.cell? ⟨b, off + j * 6, none⟩ = some (.int .i64 l[j].src) ∧ w.cell? ⟨b, off + j * 6 + 1, none⟩ = some (.int .i64 l[j].dst) ∧ w.cell? ⟨b, off + j * 6 + 2, none⟩ = some (.int .i64 l[j].ident) ∧ w.cell? ⟨b, off + j * 6 + 3, none⟩ = some (.int .i64 l[j].place) ∧ w.cell? ⟨b, off + j * 6 + 4, none⟩ = some (.bool l[j].more) ∧ w.cell? ⟨b, off + j * 6 + 5, none⟩ = some (.string l[j].body)) :
    ∀ j u, (dgramCells l)[j]? = some u → w.cell? ((⟨b, off, none⟩ : Addr).add j) = some u := by
  intro j u hu
  have hlt : j < (dgramCells l).length := (List.getElem?_eq_some_iff.1 hu).1
  rw [dgramCells_length] at hlt
  have hj : j / 6 < l.length := by omega
  have hr := row_at dgramEnc 6 (fun _ => rfl) l [] (j / 6) (j % 6) hj (Nat.mod_lt _ (by omega))
  rw [List.append_nil, show j / 6 * 6 + j % 6 = j by omega] at hr
  have hu' : (dgramEnc l[j / 6])[j % 6]? = some u := by rw [← hr]; exact hu
  have hadd : (⟨b, off, none⟩ : Addr).add j = ⟨b, off + j, none⟩ := Addr.add_lit _ _ _
  rw [hadd]
  obtain ⟨h0, h1, h2, h3, h4, h5⟩ := h (j / 6) hj
  have h3 : j % 6 = 0 ∨ j % 6 = 1 ∨ j % 6 = 2 ∨ j % 6 = 3 ∨ j % 6 = 4 ∨ j % 6 = 5 := by omega
  rcases h3 with e | e | e | e | e | e
  · rw [e] at hu'
    rw [show off + j = off + j / 6 * 6 by omega, h0]
    exact hu'
  · rw [e] at hu'
    rw [show off + j = off + j / 6 * 6 + 1 by omega, h1]
    exact hu'
  · rw [e] at hu'
    rw [show off + j = off + j / 6 * 6 + 2 by omega, h2]
    exact hu'
  · rw [e] at hu'
    rw [show off + j = off + j / 6 * 6 + 3 by omega, h3]
    exact hu'
  · rw [e] at hu'
    rw [show off + j = off + j / 6 * 6 + 4 by omega, h4]
    exact hu'
  · rw [e] at hu'
    rw [show off + j = off + j / 6 * 6 + 5 by omega, h5]
    exact hu'
theorem dgramR_below {w w2 : World} {base n : Nat} {v : Value} {xs : List Value} (h : w.ownsRow base 26 6 v n xs) (hb : Below w.heap.size w w2) : w2.ownsRow base 26 6 v n xs := by
  refine h.kept (grown_of_below hb none) ?_
  cases v.ownBlock with
  | none => exact Or.inl rfl
  | some g => exact Or.inr (by simp)
theorem dgramR_block {w : World} {base n j : Nat} {v : Value} {xs : List Value} (h : w.ownsRow base 26 6 v n xs) (hv : v.ownBlock = some j) : base ≤ j ∧ ∃ cs, BlockIs w j 26 cs := by
  rcases h.2 with ⟨rfl, _⟩ | ⟨g, cap, cur, rfl, hb, hh, _⟩
  · simp [Value.ownBlock] at hv
  · have : g = j := by simpa [Value.ownBlock] using hv
    subst this
    exact ⟨hb, cur.toList, by unfold BlockIs; rw [hh]⟩
/-- a block of another type stands where a row grows -/
theorem dgramR_other {w w1 : World} {base n g : Nat} {t : TypeId} {v : Value} {xs cs : List Value} (h : BlockIs w g t cs) (hr : w.ownsRow base 26 6 v n xs) (hg : w.grownBy w1 v.ownBlock) (ht : t ≠ 26) : BlockIs w1 g t cs := by
  have hlt := h.lt
  unfold BlockIs at h ⊢
  rw [hg.block g hlt ?_]
  · exact h
  · intro e
    obtain ⟨_, cs2, h2⟩ := dgramR_block hr e.symm
    unfold BlockIs at h2
    rw [h] at h2
    simp only [Option.some.injEq, Obj.cells.injEq] at h2
    exact ht h2.2.1
theorem dgramR_down {w w1 w2 : World} {m base n : Nat} {v : Value} {xs : List Value} (h : Below m w w1) (hr : w1.ownsRow base 26 6 v n xs) (hg : w1.grownBy w2 v.ownBlock) (hb : m ≤ base) (hm : m ≤ w1.heap.size) : Below m w w2 :=
  h.grown hg hm (fun k e => by have := (dgramR_block hr e).1; omega)
theorem dgramR_nil (w : World) (m : Nat) (hm : m ≤ w.heap.size) : World.ownsRow (w.alloc (.cells #[] 26)) m 26 6 (.slice (some ⟨w.heap.size, 0, none⟩) 0 0) 0 (dgramCells []) :=
  row_down (World.ownsRow_made w (size := 6) (e := 26) #[] 0 (Nat.le_refl _) (Nat.zero_le _) rfl) hm
/-- one that is laid by itself -/
theorem dgramR_new (w : World) (a : DgramD) : ∀ j u, (dgramEnc a)[j]? = some u → (w.alloc (.cells #[.int .i64 a.src, .int .i64 a.dst, .int .i64 a.ident, .int .i64 a.place, .bool a.more, .string a.body] 26)).cell? ((⟨w.heap.size, 0, none⟩ : Addr).add j) = some u := by
  intro j u hu
  rw [Addr.add_lit, Nat.zero_add]
  exact (show BlockIs _ _ 26 (dgramEnc a) from heap_alloc_new w _).cell hu
/-- a list behind a row of the call's own -/
theorem append_dgrams {W : World} {v : Value} {base c : Nat} {L M : List DgramD} {ao : Option Addr} (hn : L.length + M.length ≤ 2097153) (hbase : base ≤ W.heap.size) (hr : W.ownsRow base 26 6 v L.length (dgramCells L)) (hM : DgramsAt W ao M) :
    ∃ v' W', (Builtin.append_ #[46, 46] 46 #[v, .slice ao M.length c]).run Try.prog W = .ok v' W' ∧ W'.ownsRow base 26 6 v' (L ++ M).length (dgramCells (L ++ M)) ∧ W.grownBy W' v.ownBlock := by
  obtain ⟨i0, hi, hz0, hz1, hz2⟩ := info_parts toDgram_info
  rw [List.length_append, dgramR_append]
  cases ao with
  | none =>
    have hM0 : M = [] := by
      by_cases hne : M = []
      · exact hne
      · obtain ⟨b, off, e, _⟩ := hM hne
        cases e
    subst hM0
    refine ⟨v, W, ?_, by simpa [dgramCells] using hr, World.grownBy.refl _ _⟩
    obtain ⟨va, vc, rfl⟩ := row_shape hr
    have hlc : L.length ≤ vc := by
      rcases hr.2 with ⟨hq, hz⟩ | ⟨_, cp, _, hq, _, _, hle, _⟩
      · omega
      · simp only [Value.slice.injEq] at hq
        omega
    cases va <;> simp [Builtin.append_, run_underlying Try.underlying46, sizeOf, typeInfo, hi, Builtin.lenOf, Builtin.firstCells, storeCells, hlc]
  | some ad =>
    have hnews : ∀ j u, (dgramCells M)[j]? = some u → W.cell? (ad.add j) = some u := by
      by_cases hne : M = []
      · subst hne
        intro j u hu
        simp [dgramCells] at hu
      · obtain ⟨b, off, e, hc⟩ := hM hne
        cases e
        exact dgrams_cells hc
    obtain ⟨v', W', h1, h2, h3, _⟩ := run_append_own (P := Try.prog) W base 46 46 26 i0 _ 6 56 Try.underlying46 hi hz0 hz1 hz2 rfl (by decide) v L.length _ hr ad M.length c (dgramCells M) (dgramCells_length M) hnews (dgramR_all M) (by unfold maxLen; omega) (by omega) hbase
    exact ⟨v', W', h1, h2, h3⟩
theorem wpList_append_dgrams {w : World} {ops : Array Oper} {rest : List Oper} {o : Oper} {a : Act} {Q : Exit → Act → World → Prop} (hgd : o.guard = none) (s x : Operand)
    (ho : o.op = .call { callee := .builtin .append, args := #[s, x], argTypes := #[46, 46] }) (hty : o.type = 46) {v : Value} {base c m N : Nat} {L M : List DgramD} {ao : Option Addr} (hs : a.eval s = v) (hx : a.eval x = .slice ao m c)
    (hm : M.length = m) (hN : (L ++ M).length = N) (hn : N ≤ 2097153) (hbase : base ≤ w.heap.size) (hr : w.ownsRow base 26 6 v L.length (dgramCells L)) (hM : DgramsAt w ao M)
    (h : ∀ va vc w1, w1.ownsRow base 26 6 (.slice va N vc) N (dgramCells (L ++ M)) → w.grownBy w1 v.ownBlock → wpList Try.prog ops Q rest (a.put o.dst (.slice va N vc)) w1) : wpList Try.prog ops Q (o :: rest) a w := by
  subst hm hN
  obtain ⟨v', W', hrun, h2, h3⟩ := append_dgrams (c := c) (by rw [← List.length_append]; exact hn) hbase hr hM
  obtain ⟨va, vc, rfl⟩ := row_shape h2
  refine wpList_plain hgd fun K hK => ?_
  unfold Oper.wp
  simp [execOp, ho, hty, resolve, invoke, builtin, hs, hx, hrun, Result.andThen]
  have h4 := h va vc W' h2 h3
  rw [List.length_append] at h4
  exact hK _ _ h4
/-- they lie there -/
theorem dgramR_at {w : World} {base : Nat} {va : Option Addr} {vc : Nat} {l : List DgramD} (h : w.ownsRow base 26 6 (.slice va l.length vc) l.length (dgramCells l)) : DgramsAt w va l := by
  rcases h.2 with ⟨hv, h0⟩ | ⟨g, cp, cur, hv, _, hh, _, _, _, ht⟩
  · exact fun hne => absurd (List.length_eq_zero_iff.1 h0) hne
  · simp only [Value.slice.injEq] at hv
    obtain ⟨rfl, _, rfl⟩ := hv
    have hcur : cur.toList = dgramCells l ++ cur.toList.drop (l.length * 6) := by rw [← ht, List.take_append_drop]
    exact dgramsAt_of (r := cur.toList.drop (l.length * 6)) (by unfold BlockIs; rw [hh, ← hcur])
end Go.Proofs.Ythdklbmachplmaa

namespace Go.Proofs.Ythdklbmachplmaa
open Go.RowKit

def CutDid (A : List DgramD) (ok : Bool) (w : World) (e : Ending) (w' : World) : Prop :=
  ∃ va vc, e = .returned (.tuple #[.slice va A.length vc, .bool ok]) ∧ A.length ≤ vc ∧ OwnAt w' 26 (dgramCells A) A.length va w.heap.size w'.heap.size ∧ Below w.heap.size w w'
theorem at_of_row {w : World} {base size n : Nat} {t : TypeId} {va : Option Addr} {vc : Nat} {cs : List Value} (h : w.ownsRow base t size (.slice va n vc) n cs) : n ≤ vc ∧ OwnAt w t cs n va base w.heap.size := by
  rcases h.2 with ⟨hv, h0⟩ | ⟨g, cp, cur, hv, hb, hh, hle, _, _, ht⟩
  · exact ⟨by omega, Or.inl h0⟩
  · simp only [Value.slice.injEq] at hv
    obtain ⟨rfl, _, rfl⟩ := hv
    have hcur : cur.toList = cs ++ cur.toList.drop (n * size) := by rw [← ht, List.take_append_drop]
    have hk : BlockIs w g t (cs ++ cur.toList.drop (n * size)) := by unfold BlockIs; rw [hh, ← hcur]
    exact ⟨hle, Or.inr ⟨g, _, rfl, hb, hk.lt, hk⟩⟩
theorem OwnAt.dgrams {w : World} {l : List DgramD} {va : Option Addr} {lo hi : Nat} (h : OwnAt w 26 (dgramCells l) l.length va lo hi) : DgramsAt w va l := by
  rcases h with h | ⟨g, r, rfl, _, _, h⟩
  · exact fun h0 => absurd (List.length_eq_zero_iff.1 h) h0
  · exact dgramsAt_of h
theorem cutD_no {d : DgramD} {size : Int} (h : cutOk d size = false) : cutD d size = [] := by rw [cutD, if_neg (by simp [h])]
theorem cutD_yes {d : DgramD} {size : Int} (h : cutOk d size = true) : cutD d size = cutTo d (size.toNat / 8 * 8) (nParts d (size.toNat / 8 * 8)) := by rw [cutD, if_pos h]
theorem cutD_few (d : DgramD) (size : Int) : (cutD d size).length ≤ 20 := by
  cases h : cutOk d size with
  | false => rw [cutD_no h]; exact Nat.zero_le _
  | true =>
    rw [cutD_yes h, cutTo_length]
    simp only [cutOk, Bool.and_eq_true, within_iff] at h
    have := dgramOk_bd h.1
    exact nParts_le (by omega) (by omega)
end Go.Proofs.Ythdklbmachplmaa

namespace Go.Proofs.Ythdklbmachplmaa
open Go.RowKit Go.Maps

/-- how a value of such a map reads: a number, or another map by its block -/
def mRead : Value → Option (DataW Unit × List MemPlace)
  | .int .i64 z => some (.lit (.int .i64 z), [])
  | .map (some g) => some (.lit (.int .u64 g), [])
  | .map none => some (.nil, [])
  | _ => none
def mCode : Value → DataW Unit
  | .int .i64 z => .lit (.int .i64 z)
  | .map (some g) => .lit (.int .u64 g)
  | _ => .nil
def Coded (v : Value) : Prop := mRead v = some (mCode v, [])
theorem coded_int (z : Int) : Coded (.int .i64 z) := rfl
theorem coded_map (g : Nat) : Coded (.map (some g)) := rfl
theorem coded_nil : Coded (.map none) := rfl
theorem mRead_int {v : Value} {z : Int} {ps : List MemPlace} (h : mRead v = some (.lit (.int .i64 z), ps)) : v = .int .i64 z := by
  unfold mRead at h
  split at h
  · simp at h; rw [h.1]
  · simp at h
  · simp at h
  · cases h
theorem mRead_map {v : Value} {g : Nat} {ps : List MemPlace} (h : mRead v = some (.lit (.int .u64 g), ps)) : v = .map (some g) := by
  unfold mRead at h
  split at h
  · simp at h
  · simp at h; rw [Int.ofNat_inj.1 h.1]
  · simp at h
  · cases h
theorem mRead_nil {v : Value} {ps : List MemPlace} (h : mRead v = some (.nil, ps)) : v = .map none := by
  unfold mRead at h
  split at h
  · simp at h
  · simp at h
  · rfl
  · cases h
theorem mRead_inv {u v : Value} {ps : List MemPlace} (hu : Coded u) (h : mRead v = some (mCode u, ps)) : v = u := by
  unfold Coded at hu
  unfold mRead at hu
  split at hu
  · exact mRead_int h
  · exact mRead_map h
  · exact mRead_nil h
  · cases hu
theorem key3 : Keyed Try.prog 3 := int_keyed Try.underlying3
theorem key_of {x : Int} (hx : (Lit.int .i64 x).wf = true) : keyOf Try.prog 3 (.int .i64 x) = some (.int .i64 x) := keyOf_int_mk Try.underlying3 hx
/-- a map, told by a function over the numbers -/
def MapIs (w : World) (b N : Nat) (f : Int → Option Value) : Prop := ∃ n D, w.ownsMap Try.prog 3 mRead b n D ∧ n ≤ N ∧ ∀ x, (Lit.int .i64 x).wf = true → (f x = none → Maps.has D (.int .i64 x) = false) ∧ ∀ v, f x = some v → Coded v ∧ Maps.has D (.int .i64 x) = true ∧ ∀ z, D.atKey (.int .i64 x) z = mCode v
theorem MapIs.lt {w : World} {b N : Nat} {f : Int → Option Value} (h : MapIs w b N f) : b < w.heap.size := by
  obtain ⟨n, D, h1, _⟩ := h
  exact h1.lt
theorem MapIs.kept {w w' : World} {b N : Nat} {f : Int → Option Value} {row : Option Nat} (h : MapIs w b N f) (hg : w.grownBy w' row) (hne : some b ≠ row) : MapIs w' b N f := by
  obtain ⟨n, D, h1, h2⟩ := h
  exact ⟨n, D, h1.kept hg hne, h2⟩
theorem MapIs.on {w w' : World} {b N : Nat} {f : Int → Option Value} (h : MapIs w b N f) (hb : Below w.heap.size w w') : MapIs w' b N f := h.kept (grown_of_below hb none) (by simp)
theorem MapIs.up {w : World} {b N N' : Nat} {f : Int → Option Value} (h : MapIs w b N f) (hN : N ≤ N') : MapIs w b N' f := by
  obtain ⟨n, D, h1, h2, h3⟩ := h
  exact ⟨n, D, h1, Nat.le_trans h2 hN, h3⟩
theorem MapIs.cells {w : World} {b N g : Nat} {f : Int → Option Value} {t : TypeId} {cs : List Value} (h : MapIs w b N f) (hg : BlockIs w g t cs) : g ≠ b := by
  obtain ⟨n, D, ⟨es, clock, hb, _⟩, _⟩ := h
  intro e
  subst e
  unfold BlockIs at hg
  rw [hb] at hg
  cases hg
theorem MapIs.set {w : World} {b N g j : Nat} {f : Int → Option Value} {t : TypeId} {cs : List Value} (h : MapIs w b N f) (hg : BlockIs w g t cs) (v : Value) : MapIs (w.setCell ⟨g, j, none⟩ v) b N f :=
  h.kept (grownBy_set w g j v) (by have := h.cells hg; simp; omega)
theorem BlockIs.turn {w w' : World} {b g N : Nat} {f : Int → Option Value} {t : TypeId} {cs : List Value} (hg : BlockIs w g t cs) (hm : MapIs w b N f) (ht : w.mapTurned w' b) : BlockIs w' g t cs := by
  unfold BlockIs
  rw [ht.grown.block g hg.lt (by have := hm.cells hg; simpa using this)]
  exact hg
theorem map_made (w : World) : MapIs (w.alloc (.map #[] 0)) w.heap.size 0 (fun _ => none) :=
  ⟨0, .map [], World.ownsMap_made w _ _ _, Nat.le_refl _, fun x _ => ⟨fun _ => rfl, fun v hv => by cases hv⟩⟩
/-- 'v, there := m[x]' -/
theorem MapIs.look {w : World} {b N : Nat} {f : Int → Option Value} (h : MapIs w b N f) {t e : TypeId} (ht : Try.prog.underlying t = some (.map 3 e)) {z : Value} (hz : (zeroValue e).run Try.prog w = .ok z w) (hc : Coded z) {x : Int} (hx : (Lit.int .i64 x).wf = true) :
    (Instr.lookup t (.map (some b)) (.int .i64 x) true).run Try.prog w = .ok (.tuple #[(f x).getD z, .bool (f x).isSome]) w := by
  obtain ⟨n, D, h1, _, h3⟩ := h
  obtain ⟨v, ps, hrun, hv⟩ := h1.look_ok key3 ht hz hc (key_of hx)
  cases hf : f x with
  | none =>
    have hno := (h3 x hx).1 hf
    rw [hno] at hrun
    rw [Maps.atKey_of_not_has hno] at hv
    rw [mRead_inv hc hv] at hrun
    exact hrun
  | some u =>
    obtain ⟨hu, hy, ha⟩ := (h3 x hx).2 u hf
    rw [hy] at hrun
    rw [ha] at hv
    rw [mRead_inv hu hv] at hrun
    exact hrun
/-- 'm[x]' -/
theorem MapIs.get {w : World} {b N : Nat} {f : Int → Option Value} (h : MapIs w b N f) {t e : TypeId} (ht : Try.prog.underlying t = some (.map 3 e)) {z : Value} (hz : (zeroValue e).run Try.prog w = .ok z w) (hc : Coded z) {x : Int} (hx : (Lit.int .i64 x).wf = true) :
    (Instr.lookup t (.map (some b)) (.int .i64 x) false).run Try.prog w = .ok ((f x).getD z) w := by
  obtain ⟨n, D, h1, _, h3⟩ := h
  obtain ⟨v, ps, hrun, hv⟩ := h1.lookup key3 ht hz hc (key_of hx)
  cases hf : f x with
  | none =>
    rw [Maps.atKey_of_not_has ((h3 x hx).1 hf)] at hv
    rw [mRead_inv hc hv] at hrun
    exact hrun
  | some u =>
    obtain ⟨hu, hy, ha⟩ := (h3 x hx).2 u hf
    rw [ha] at hv
    rw [mRead_inv hu hv] at hrun
    exact hrun
theorem klit (x : Int) : WideAt.IsKeyLit (.int .i64 x) := by first | exact trivial | simp [WideAt.IsKeyLit]
theorem lit_ne {x y : Int} (h : y ≠ x) : (Lit.int .i64 y) ≠ Lit.int .i64 x := fun e => h (by simpa using e)
/-- 'm[x] = v' -/
theorem MapIs.put {w : World} {b N : Nat} {f : Int → Option Value} (h : MapIs w b N f) (hN : N < maxLen) {t e : TypeId} (ht : Try.prog.underlying t = some (.map 3 e)) {x : Int} (hx : (Lit.int .i64 x).wf = true) {v : Value} (hv : Coded v) :
    ∃ w', (Instr.mapUpdate t (.map (some b)) (.int .i64 x) v).run Try.prog w = .ok () w' ∧ MapIs w' b (N + 1) (fun y => if y = x then some v else f y) ∧ w.mapTurned w' b := by
  obtain ⟨n, D, h1, h2, h3⟩ := h
  obtain ⟨w', hrun, ho, htn⟩ := h1.store key3 ht (by omega) (key_of hx) hv
  refine ⟨w', hrun, ⟨n + 1, _, ho, by omega, fun y hy => ?_⟩, htn⟩
  by_cases e : y = x
  · subst e
    simp only [if_true]
    refine ⟨fun q => ?_, fun u hu => ?_⟩
    · cases q
    · cases hu
      exact ⟨hv, Maps.has_put_same h1.isMap (klit _) _, fun z => Maps.atKey_put_same h1.isMap (klit _) _ _⟩
  · simp only [if_neg e]
    refine ⟨fun q => ?_, fun u hu => ?_⟩
    · rw [Maps.has_put_other (lit_ne e)]
      exact (h3 y hy).1 q
    · obtain ⟨a, b, c⟩ := (h3 y hy).2 u hu
      exact ⟨a, by rw [Maps.has_put_other (lit_ne e)]; exact b, fun z => by rw [Maps.atKey_put_other (lit_ne e)]; exact c z⟩
/-- 'delete(m, x)' -/
theorem MapIs.del {w : World} {b N : Nat} {f : Int → Option Value} (h : MapIs w b N f) {t e : TypeId} (ht : Try.prog.underlying t = some (.map 3 e)) {x : Int} (hx : (Lit.int .i64 x).wf = true) (ty : TypeId) :
    ∃ w', (Builtin.delete_ #[t, 3] ty #[.map (some b), .int .i64 x]).run Try.prog w = .ok (.tuple #[]) w' ∧ MapIs w' b N (fun y => if y = x then none else f y) ∧ w.mapTurned w' b := by
  obtain ⟨n, D, h1, h2, h3⟩ := h
  obtain ⟨w', hrun, ho, htn⟩ := h1.drop key3 ht (key_of hx) ty
  refine ⟨w', hrun, ⟨n, _, ho, h2, fun y hy => ?_⟩, htn⟩
  by_cases e : y = x
  · subst e
    simp only [if_true]
    exact ⟨fun _ => Maps.has_del_same, fun u hu => by cases hu⟩
  · simp only [if_neg e]
    refine ⟨fun q => ?_, fun u hu => ?_⟩
    · rw [Maps.has_del_other (lit_ne e)]
      exact (h3 y hy).1 q
    · obtain ⟨a, b, c⟩ := (h3 y hy).2 u hu
      exact ⟨a, by rw [Maps.has_del_other (lit_ne e)]; exact b, fun z => by rw [Maps.atKey_del_other (lit_ne e)]; exact c z⟩
theorem MapIs.ext {w : World} {b N : Nat} {f g : Int → Option Value} (h : MapIs w b N f) (hfg : ∀ x, (Lit.int .i64 x).wf = true → f x = g x) : MapIs w b N g := by
  obtain ⟨n, D, h1, h2, h3⟩ := h
  exact ⟨n, D, h1, h2, fun x hx => by rw [← hfg x hx]; exact h3 x hx⟩
end Go.Proofs.Ythdklbmachplmaa
