/-
  Plain facts on the bytes of a number in sevens and on rows of bytes in memory; nothing of the program stands here.
  A block of memory of the call's own: its cells as a list; rows of elements of so many cells each.
  Seg as data; rows of them in memory, one behind the other.
  Seg that came in, read as data: one of them, and a row.
  Plain facts on rows that a call owns; nothing of the program stands here.
  Plain facts on figures; nothing of the program stands here.
  Plain facts on the values of figures; nothing of the program stands here.
  Plain facts on decimal figures; nothing of the program stands here.
  A number within bounds; nothing of the program stands here.
  Dgram as data; rows of them in memory, one behind the other.
  Plain facts on sums of sixteen bits, whose carry comes in at the low end; nothing of the program stands here.
  Plain facts on datagrams: which are right, their text, what a text tells; nothing of the program stands here.
  Plain facts on segments: which are right, their text, what a text tells; nothing of the program stands here.
  Plain facts on a datagram's parts; nothing of the program stands here.
  Cell as data; rows of them in memory, one behind the other.
  Plain facts on check sums of 32 bits; nothing of the program stands here.
  Plain facts on sealed texts: what is sealed is unsealed; with one byte turned it is not.
  Plain facts on frames on a wire: which are right, their text, what a text tells; nothing of the program stands here.
  Plain facts on wrapped segments; nothing of the program stands here.
  An element of a row of Dgram, written; a row that was just made.
  Rows of the call's own that grow: what stands behind an append.
  Rows of the call's own between two sizes of memory; blocks laid one behind the other.
  Rows of Dgram of the call's own: they grow.
  What CutDgram answers: parts in memory of the call's own.
  What Wrap answers: frames in a row of the call's own.
  A text of two bytes, out of a row that was just laid.
  A text of one byte, out of a row that was just laid.
  A text of three bytes, out of a row that was just laid.
  Two facts that both sums use.
  Plain facts on four steps of a check sum at once, by a table of sixteen.
-/
import Derived.WalkKit
import Derived.RowKit
import Derived.WalkSmall
import Derived.BigQuiet
import Derived.Deep.LoopGhost
import Derived.Test.YthkkhmmcgjcedaaDoorRows
import Derived.Deep.Strs
import Derived.ChangeSame
import Derived.OpenShut
import Derived.Maps.AppendAt
import Derived.OwnWalk
import Derived.Laws.AppendOwn
namespace Go.Proofs.YthkkhmmcgjcedaaDoor
open Go.RowKit

/-- the bytes of n, seven bits a byte, the least first (with so many steps at the most) -/
def vbF : Nat → Nat → List UInt8
  | 0, n => [UInt8.ofNat n]
  | f + 1, n => if n ≤ 127 then [UInt8.ofNat n] else UInt8.ofNat (n % 128 + 128) :: vbF f (n / 128)
/-- the bytes of n, seven bits a byte, the least first -/
def vb (n : Nat) : List UInt8 := vbF n n

theorem vbF_eq : ∀ (f g n : Nat), n ≤ f → n ≤ g → vbF f n = vbF g n
  | 0, 0, _, _, _ => rfl
  | 0, g + 1, n, h, _ => by
    obtain rfl : n = 0 := by omega
    rw [vbF, vbF, if_pos (by omega)]
  | f + 1, 0, n, _, h => by
    obtain rfl : n = 0 := by omega
    rw [vbF, vbF, if_pos (by omega)]
  | f + 1, g + 1, n, h1, h2 => by
    rw [vbF, vbF]
    by_cases h : n ≤ 127
    · rw [if_pos h, if_pos h]
    · rw [if_neg h, if_neg h, vbF_eq f g (n / 128) (by omega) (by omega)]
theorem vb_small {n : Nat} (h : n ≤ 127) : vb n = [UInt8.ofNat n] := by
  rw [vb, vbF_eq n (n + 1) n (Nat.le_refl _) (by omega), vbF, if_pos h]
theorem vb_big {n : Nat} (h : 127 < n) : vb n = UInt8.ofNat (n % 128 + 128) :: vb (n / 128) := by
  rw [vb, vbF_eq n (n + 1) n (Nat.le_refl _) (by omega), vbF, if_neg (by omega), vb, vbF_eq n (n / 128) (n / 128) (by omega) (Nat.le_refl _)]

theorem vb_pos (n : Nat) : 0 < (vb n).length := by
  by_cases h : n ≤ 127
  · rw [vb_small h]; simp
  · rw [vb_big (by omega)]; simp

theorem vb_le (n : Nat) : (vb n).length ≤ n + 1 := by
  induction n using Nat.strongRecOn with
  | _ n ih =>
    by_cases h : n ≤ 127
    · rw [vb_small h]; simp
    · rw [vb_big (by omega)]
      have := ih (n / 128) (by omega)
      simp only [List.length_cons]
      omega

/-- bytes as the cells of a row -/
def cs (l : List UInt8) : List Value := l.map fun b => Value.int .u8 (b.toNat : Int)

theorem cs_append (l r : List UInt8) : cs (l ++ r) = cs l ++ cs r := by simp [cs]
theorem cs_length (l : List UInt8) : (cs l).length = l.length := by simp [cs]
theorem cs_one {x : Int} (h0 : 0 ≤ x) (h1 : x ≤ 255) : [Value.int .u8 x] = cs [UInt8.ofNat x.toNat] := by
  simp [cs]
  omega

/-- a row that the call owns, turned into a text -/
theorem text_of_row {P : Program} {w : World} {base : Nat} {v : Value} {l : List UInt8} {src dst e : TypeId} (hs : P.underlying src = some (.slice e)) (he : P.underlying e = some (.int .u8)) (hd : P.underlying dst = some .string)
    (h : w.ownsRow base e 1 v l.length (cs l)) : (convert src dst v).run P w = .ok (.string ⟨l.toArray⟩) w := by
  obtain ⟨h1, h2⟩ := h
  rcases h2 with ⟨hv, hn⟩ | ⟨g, cap, cur, hv, hg, hh, hle, hm, hsz, hx⟩
  · have hl : l = [] := by cases l with | nil => rfl | cons a r => simp at hn
    subst hl hv
    exact run_convert_bytes_nil w src e hs he 0 0 dst hd
  · subst hv
    refine run_convert_bytes_back w src dst e ⟨g, 0, none⟩ cap l hs he hd fun j hj => ?_
    have hu : (cs l)[j]? = some (.int .u8 (l[j].toNat : Int)) := by simp [cs, hj]
    exact World.ownsRow.cells (w := w) (base := base) (e := e) (size := 1) ⟨h1, Or.inr ⟨g, cap, cur, rfl, hg, hh, hle, hm, hsz, hx⟩⟩ rfl j _ hu

/-- a piece of a text, its bounds as whole numbers -/
theorem slice_nat {P : Program} {t : TypeId} (h : P.underlying t = some .string) (s : ByteArray) (a b : Nat) (x y : Int) (hx : x = a) (hy : y = b) (hab : a ≤ b) (hb : b ≤ s.size) (w : World) :
    (Instr.slice t (.string s) (some (.int .i64 x)) (some (.int .i64 y)) none).run P w = .ok (.string (s.extract a b)) w := by
  subst hx hy
  rw [run_slice_string w t s .i64 .i64 a b h (by omega) (by omega) (by omega)]
  simp

theorem extract_eq (s : ByteArray) (a b : Nat) : (s.extract a b).data.toList = (s.data.toList.drop a).take (b - a) := by
  simp [ByteArray.extract, ByteArray.copySlice]

theorem var_step {n m : Nat} {acc : List UInt8} {w wr w1 : World} {v v' : Value} (hm : 127 < m) (hacc : acc ++ vb m = vb n) (hown : wr.ownsRow w.heap.size 5 1 v acc.length (cs acc))
    (hown' : w1.ownsRow w.heap.size 5 1 v' (acc.length + 1) (cs acc ++ [.int .u8 ((m : Int) % 128 + 128)])) (hgrow : (wr.alloc (.cells #[.int .u8 ((m : Int) % 128 + 128)] 5)).grownBy w1 v.ownBlock) (hb : Below w.heap.size w wr) :
    (acc ++ [UInt8.ofNat (m % 128 + 128)]) ++ vb (m / 128) = vb n ∧ w1.ownsRow w.heap.size 5 1 v' (acc ++ [UInt8.ofNat (m % 128 + 128)]).length (cs (acc ++ [UInt8.ofNat (m % 128 + 128)])) ∧ Below w.heap.size w w1 := by
  refine ⟨by rw [← hacc, vb_big hm]; simp, ?_, (hb.alloc hb.size _).grown hgrow (by have := hb.size; simp; omega) (fun k hk => (hown.lt k hk).1)⟩
  have e : [Value.int .u8 ((m : Int) % 128 + 128)] = cs [UInt8.ofNat (m % 128 + 128)] := by
    rw [cs_one (by omega) (by omega)]
    have : ((m : Int) % 128 + 128).toNat = m % 128 + 128 := by omega
    rw [this]
  rw [e, ← cs_append] at hown'
  simpa using hown'

theorem var_end {n m : Nat} {acc : List UInt8} {w wr w1 : World} {v v' : Value} (hm : m ≤ 127) (hacc : acc ++ vb m = vb n) (hown : wr.ownsRow w.heap.size 5 1 v acc.length (cs acc))
    (hown' : w1.ownsRow w.heap.size 5 1 v' (acc.length + 1) (cs acc ++ [.int .u8 (m : Int)])) (hgrow : (wr.alloc (.cells #[.int .u8 (m : Int)] 5)).grownBy w1 v.ownBlock) (hb : Below w.heap.size w wr) :
    w1.ownsRow w.heap.size 5 1 v' (vb n).length (cs (vb n)) ∧ Below w.heap.size w w1 := by
  refine ⟨?_, (hb.alloc hb.size _).grown hgrow (by have := hb.size; simp; omega) (fun k hk => (hown.lt k hk).1)⟩
  have e : [Value.int .u8 (m : Int)] = cs [UInt8.ofNat m] := by
    rw [cs_one (by omega) (by omega)]
    simp
  rw [e, ← cs_append, ← vb_small hm, hacc] at hown'
  have hl : acc.length + 1 = (vb n).length := by rw [← hacc, vb_small hm]; simp
  rw [hl] at hown'
  exact hown'

end Go.Proofs.YthkkhmmcgjcedaaDoor

namespace Go.Proofs.YthkkhmmcgjcedaaDoor
open Go.RowKit

/-- hidden from the walk -/
theorem hid {p : Prop} (h : p) : Hid p := h
theorem below_more {w w' : World} (h : Below w.heap.size w w') (o : Obj) : Below w.heap.size w (w'.alloc o) := h.alloc h.size o
theorem below_via {w w1 w2 : World} (h : Below w.heap.size w w1) (h2 : Below w1.heap.size w1 w2) : Below w.heap.size w w2 := h.trans (h2.mono h.size)

/-- block g holds just these cells, of elements of type t -/
def BlockIs (w : World) (g : Nat) (t : TypeId) (cs : List Value) : Prop := w.heap[g]? = some (.cells cs.toArray t (0, 0))

theorem BlockIs.lt {w : World} {g : Nat} {t : TypeId} {cs : List Value} (h : BlockIs w g t cs) : g < w.heap.size := by
  rcases Nat.lt_or_ge g w.heap.size with q | q
  · exact q
  · rw [BlockIs, Array.getElem?_eq_none q] at h; cases h
theorem BlockIs.cell {w : World} {g : Nat} {t : TypeId} {cs : List Value} (h : BlockIs w g t cs) {j : Nat} {v : Value} (hj : cs[j]? = some v) : w.cell? ⟨g, j, none⟩ = some v := by
  unfold BlockIs at h
  simp [World.cell?, h, hj]
theorem BlockIs.thaw {w : World} {g : Nat} {t : TypeId} {cs : List Value} (h : BlockIs w g t cs) (j : Nat) : w.frozen? ⟨g, j, none⟩ = false := by
  unfold BlockIs at h
  simp [World.frozen?, h]
theorem BlockIs.set {w : World} {g : Nat} {t : TypeId} {cs : List Value} (h : BlockIs w g t cs) (j : Nat) (v : Value) : BlockIs (w.setCell ⟨g, j, none⟩ v) g t (cs.set j v) := by
  unfold BlockIs at h ⊢
  simp only [World.setCell]
  rw [Array.getElem?_modify, if_pos rfl, h]
  simp [Array.setIfInBounds]
  exact fun hj => (List.set_eq_of_length_le hj).symm
theorem BlockIs.far {w : World} {g : Nat} {t : TypeId} {cs : List Value} (h : BlockIs w g t cs) {b j : Nat} (hb : b ≠ g) (v : Value) : BlockIs (w.setCell ⟨b, j, none⟩ v) g t cs := by
  unfold BlockIs at h ⊢
  simp only [World.setCell]
  rw [Array.getElem?_modify, if_neg hb]
  exact h
theorem BlockIs.on {w w' : World} {g : Nat} {t : TypeId} {cs : List Value} (h : BlockIs w g t cs) {B : Nat} (hb : Below B w w') (hg : g < B) : BlockIs w' g t cs := by
  unfold BlockIs
  rw [hb.block g hg]
  exact h
theorem BlockIs.made {w' : World} {g base : Nat} {t : TypeId} {n size : Nat} {xs : List Value} (h : w'.ownsRow base t size (.slice (some ⟨g, 0, none⟩) n n) n xs) : BlockIs w' g t xs := by
  obtain ⟨hx, (⟨h1, _⟩ | ⟨g', cap, cur, h1, _, hg, _, _, hs, ht⟩)⟩ := h
  · cases h1
  · cases h1
    unfold BlockIs
    rw [hg]
    have : cur.toList = xs := by rw [← ht, List.take_of_length_le (by simp [hs])]
    rw [← this]

/-- a cell of a row of elements of m cells each -/
theorem row_at {α : Type} (enc : α → List Value) (m : Nat) (hm : ∀ a, (enc a).length = m) (l : List α) (r : List Value) (j c : Nat) (hj : j < l.length) (hc : c < m) : (l.flatMap enc ++ r)[j * m + c]? = (enc l[j])[c]? := by
  induction l generalizing j with
  | nil => simp at hj
  | cons a l ih =>
    cases j with
    | zero =>
      simp only [List.flatMap_cons, Nat.zero_mul, Nat.zero_add, List.getElem_cons_zero, List.append_assoc]
      rw [List.getElem?_append_left (by rw [hm]; exact hc)]
    | succ j =>
      simp only [List.flatMap_cons, List.getElem_cons_succ, List.append_assoc]
      rw [List.getElem?_append_right (by rw [hm, Nat.succ_mul]; omega), hm, show (j + 1) * m + c - m = j * m + c by rw [Nat.succ_mul]; omega]
      exact ih j (by simpa using hj)
theorem row_length {α : Type} (enc : α → List Value) (m : Nat) (hm : ∀ a, (enc a).length = m) (l : List α) : (l.flatMap enc).length = l.length * m := by
  induction l with
  | nil => simp
  | cons a l ih => simp only [List.flatMap_cons, List.length_append, hm, ih, List.length_cons, Nat.succ_mul]; omega
/-- three cells of a list, written -/
theorem set_three (p : List Value) (a b c x y z : Value) (r : List Value) : (((p ++ x :: y :: z :: r).set p.length a).set (p.length + 1) b).set (p.length + 2) c = p ++ a :: b :: c :: r := by
  rw [List.set_append_right _ _ (Nat.le_refl _), List.set_append_right _ _ (by omega), List.set_append_right _ _ (by omega)]
  simp
end Go.Proofs.YthkkhmmcgjcedaaDoor

namespace Go.Proofs.YthkkhmmcgjcedaaDoor
open Go.RowKit

structure SegD where
  num : Int
  ack : Int
  flags : Int
  body : ByteArray
/-- numbers that are numbers, texts that are texts -/
def SegD.Fits (e : SegD) : Prop := (-9223372036854775808 ≤ e.num ∧ e.num ≤ 9223372036854775807) ∧ (-9223372036854775808 ≤ e.ack ∧ e.ack ≤ 9223372036854775807) ∧ (-9223372036854775808 ≤ e.flags ∧ e.flags ≤ 9223372036854775807) ∧ e.body.size ≤ maxLen
def segEnc (e : SegD) : List Value := [.int .i64 e.num, .int .i64 e.ack, .int .i64 e.flags, .string e.body]
/-- the cells of a row -/
def segCells (l : List SegD) : List Value := l.flatMap segEnc
theorem segCells_length (l : List SegD) : (segCells l).length = l.length * 4 := row_length segEnc 4 (fun _ => rfl) l
theorem segCells_take (l : List SegD) (k : Nat) (h : k < l.length) : segCells (l.take (k + 1)) = segCells (l.take k) ++ segEnc l[k] := by
  rw [List.take_succ_eq_append_getElem h, segCells, segCells, List.flatMap_append]
  simp
/-- how many letters -/
def segOne (e : SegD) : Int := (e.body.size : Int)
theorem segOne_nonneg (e : SegD) : 0 ≤ segOne e := by unfold segOne; omega
def segBulk : List SegD → Int
  | [] => 0
  | f :: l => segOne f + segBulk l
theorem segBulk_nonneg (l : List SegD) : 0 ≤ segBulk l := by
  induction l with
  | nil => exact Int.le_refl 0
  | cons f l ih => have := segOne_nonneg f; simp only [segBulk]; omega
theorem segBulk_take (l : List SegD) (k : Nat) (h : k < l.length) : segBulk (l.take (k + 1)) = segBulk (l.take k) + segOne l[k] := by
  induction l generalizing k with
  | nil => simp at h
  | cons f l ih =>
    cases k with
    | zero => simp [segBulk]
    | succ k =>
      have := ih k (by simpa using h)
      simp only [List.take_succ_cons, segBulk, List.getElem_cons_succ] at this ⊢
      omega
theorem segBulk_le (l : List SegD) (k : Nat) : segBulk (l.take k) ≤ segBulk l := by
  induction l generalizing k with
  | nil => simp [segBulk]
  | cons f l ih =>
    cases k with
    | zero => have := segBulk_nonneg (f :: l); simpa [segBulk] using this
    | succ k => have := ih k; simp only [List.take_succ_cons, segBulk]; omega
theorem seg_le_bulk {l : List SegD} {f : SegD} (h : f ∈ l) : segOne f ≤ segBulk l := by
  induction l with
  | nil => cases h
  | cons g l ih =>
    simp only [segBulk]
    have := segBulk_nonneg l
    have := segOne_nonneg g
    rcases List.mem_cons.1 h with e | e
    · subst e; omega
    · have := ih e; omega
/-- few and short -/
def SegsSmall (l : List SegD) : Prop := l.length ≤ 1048576 ∧ ∀ f ∈ l, segOne f ≤ 1048576
theorem segsSmall {l : List SegD} (h : 0 ≤ (1048576 : Int) - l.length - segBulk l) : SegsSmall l := by
  have := segBulk_nonneg l
  exact ⟨by omega, fun f hf => by have := seg_le_bulk hf; omega⟩
/-- they lie at an address, one behind the other -/
def SegsAt (w : World) (ao : Option Addr) (l : List SegD) : Prop :=
  l ≠ [] → ∃ b off, ao = some ⟨b, off, none⟩ ∧ ∀ j (hj : j < l.length), w.cell? ⟨b, off + j * 4, none⟩ = some (.int .i64 l[j].num) ∧ w.cell? ⟨b, off + j * 4 + 1, none⟩ = some (.int .i64 l[j].ack) ∧ w.cell? ⟨b, off + j * 4 + 2, none⟩ = some (.int .i64 l[j].flags) ∧ w.cell? ⟨b, off + j * 4 + 3, none⟩ = some (.string l[j].body)
theorem segsAt_of {w : World} {g : Nat} {t : TypeId} {l : List SegD} {r : List Value} (h : BlockIs w g t (segCells l ++ r)) : SegsAt w (some ⟨g, 0, none⟩) l := by
  intro _
  refine ⟨g, 0, rfl, fun j hj => ?_⟩
  rw [Nat.zero_add]
  exact ⟨h.cell (row_at segEnc 4 (fun _ => rfl) l r j 0 hj (by omega)), h.cell (row_at segEnc 4 (fun _ => rfl) l r j 1 hj (by omega)), h.cell (row_at segEnc 4 (fun _ => rfl) l r j 2 hj (by omega)), h.cell (row_at segEnc 4 (fun _ => rfl) l r j 3 hj (by omega))⟩
def SegsFit (l : List SegD) : Prop := ∀ j (hj : j < l.length), l[j].Fits
theorem SegsAt.on {w w' : World} {ao : Option Addr} {l : List SegD} (h : SegsAt w ao l) (hb : Below w.heap.size w w') : SegsAt w' ao l := by
  intro h0
  obtain ⟨b, off, e1, e2⟩ := h h0
  refine ⟨b, off, e1, fun j hj => ?_⟩
  obtain ⟨x0, x1, x2, x3⟩ := e2 j hj
  exact ⟨(hb.cell (p := ⟨b, off + j * 4, none⟩) (World.block_lt_of_cell? w _ x0)).trans x0, (hb.cell (p := ⟨b, off + j * 4 + 1, none⟩) (World.block_lt_of_cell? w _ x1)).trans x1, (hb.cell (p := ⟨b, off + j * 4 + 2, none⟩) (World.block_lt_of_cell? w _ x2)).trans x2, (hb.cell (p := ⟨b, off + j * 4 + 3, none⟩) (World.block_lt_of_cell? w _ x3)).trans x3⟩
/-- cells of a list, written -/
theorem seg_sets (p : List Value) (a0 a1 a2 a3 o0 o1 o2 o3 : Value) (r : List Value) : ((((p ++ o0 :: o1 :: o2 :: o3 :: r).set (p.length) a0).set (p.length + 1) a1).set (p.length + 2) a2).set (p.length + 3) a3 = p ++ a0 :: a1 :: a2 :: a3 :: r := by
  rw [List.set_append_right _ _ (Nat.le_refl _), List.set_append_right _ _ (by omega), List.set_append_right _ _ (by omega), List.set_append_right _ _ (by omega)]
  simp
theorem seg_set_other {cs : List Value} {i j : Nat} {v u : Value} (h : cs[j]? = some u) (hij : i ≠ j) : (cs.set i v)[j]? = some u := by
  rw [List.getElem?_set_ne hij]; exact h
end Go.Proofs.YthkkhmmcgjcedaaDoor

namespace Go.Proofs.YthkkhmmcgjcedaaDoor
open Go.ChangeShapes Go.WideShapes Go.RowKit Go.Deep

set_option maxRecDepth 1000000 in
theorem seg_cellsE : Tryd.prog.cellsOf 23 = 4 := by kernel_rfl
set_option maxRecDepth 1000000 in
theorem seg_cells9 : Tryd.prog.cellsOf 9 = 1 := by kernel_rfl
set_option maxRecDepth 1000000 in
theorem seg_cells3 : Tryd.prog.cellsOf 3 = 1 := by kernel_rfl
set_option maxRecDepth 1000000 in
theorem seg_fields {H : Type} {enc : TypeId × Value → H} {P : Program} {W : World} {base : Nat} {sp : Nat → Bool} {held : Bool} {fuel : Nat} {t : TypeId} {f0 f1 f2 f3 : Field} {cs : List Value} {x : DataW H × List MemPlace} (ht : P.underlying t = some (.struct #[f0, f1, f2, f3])) (h : DataW.trod enc P W base sp held fuel t cs = some x) :
    ∃ y0 y1 y2 y3 n, cs.length = P.cellsOf t ∧ DataW.trod enc P W base sp held n f0.type ((cs.drop f0.offset).take (P.cellsOf f0.type)) = some y0 ∧ DataW.trod enc P W base sp held n f1.type ((cs.drop f1.offset).take (P.cellsOf f1.type)) = some y1 ∧ DataW.trod enc P W base sp held n f2.type ((cs.drop f2.offset).take (P.cellsOf f2.type)) = some y2 ∧ DataW.trod enc P W base sp held n f3.type ((cs.drop f3.offset).take (P.cellsOf f3.type)) = some y3 := by
  obtain ⟨xs, n, _, _, hl, hlen, hf⟩ := DataW.trod_struct ht h
  match xs, hlen with
  | [y0, y1, y2, y3], _ => exact ⟨y0, y1, y2, y3, n, hl, by simpa using hf 0 f0 rfl, by simpa using hf 1 f1 rfl, by simpa using hf 2 f2 rfl, by simpa using hf 3 f3 rfl⟩

set_option maxRecDepth 1000000 in
theorem open_segCells {H : Type} {enc : TypeId × Value → H} {W : World} {base : Nat} {sp : Nat → Bool} {held : Bool} {fuel : Nat} {cs : List Value} {x : DataW H × List MemPlace} (h : DataW.trod enc Tryd.prog W base sp held fuel 23 cs = some x) :
    ∃ e : SegD, cs = segEnc e ∧ e.Fits := by
  obtain ⟨y0, y1, y2, y3, n, hl, h0, h1, h2, h3⟩ := seg_fields Tryd.underlying23 h
  rw [seg_cellsE] at hl
  match cs, hl with
  | [c0, c1, c2, c3], _ =>
    simp only [seg_cells3, seg_cells9] at h0 h1 h2 h3
    obtain ⟨k0, e0, _, s0⟩ := DataW.trod_int Tryd.underlying3 h0
    obtain ⟨k1, e1, _, s1⟩ := DataW.trod_int Tryd.underlying3 h1
    obtain ⟨k2, e2, _, s2⟩ := DataW.trod_int Tryd.underlying3 h2
    obtain ⟨k3, e3, _, s3⟩ := DataW.trod_string Tryd.underlying9 h3
    simp at e0 e1 e2 e3
    subst e0 e1 e2 e3
    exact ⟨⟨k0, k1, k2, k3⟩, rfl, bounds_i64 s0, bounds_i64 s1, bounds_i64 s2, s3⟩

set_option maxRecDepth 1000000 in
/-- one of them as a parameter -/
theorem open_seg {H : Type} {enc : TypeId × Value → H} {W : World} {r : Reach} {b0 base : Nat} {sp : Nat → Bool} {held : Bool} {v : Value} {d : DataW H} {ps : List MemPlace} (hval : Value.okWide Tryd.prog W r b0 23 v) (hd : DataW.Trod enc Tryd.prog W base sp held 23 v d ps) :
    ∃ e : SegD, v = .agg #[.int .i64 e.num, .int .i64 e.ack, .int .i64 e.flags, .string e.body] ∧ e.Fits := by
  obtain ⟨cs, rfl, _⟩ := okWide_struct Tryd.underlying23 hval
  obtain ⟨fuel, hf⟩ := hd
  obtain ⟨a, e, r⟩ := open_segCells hf
  refine ⟨a, ?_, r⟩
  obtain ⟨c⟩ := cs
  have e' : c = segEnc a := by simpa [Value.cells] using e
  rw [e']
  rfl
end Go.Proofs.YthkkhmmcgjcedaaDoor

namespace Go.Proofs.YthkkhmmcgjcedaaDoor
open Go.RowKit

theorem grown_of_below {w w' : World} (h : Below w.heap.size w w') (row : Option Nat) : w.grownBy w' row := ⟨h.os, h.tape, h.output, h.size, fun k hk _ => h.block k hk⟩

theorem add_at (g j : Nat) : (⟨g, 0, none⟩ : Addr).add j = ⟨g, j, none⟩ := by
  simp only [Addr.add]
  split
  · simp_all
  · simp

/-- where an owned row lies -/
theorem row_lie {w : World} {base : Nat} {e : TypeId} {v : Value} {n : Nat} {xs : List Value} (h : w.ownsRow base e 1 v n xs) :
    xs.length = n ∧ ∃ ao cap, v = .slice ao n cap ∧ (0 < n → ∃ g, ao = some ⟨g, 0, none⟩ ∧ base ≤ g ∧ g < w.heap.size ∧ n ≤ cap ∧ v.ownBlock = some g ∧ (∀ (j : Nat) u, xs[j]? = some u → w.cell? ⟨g, j, none⟩ = some u) ∧ ∀ j, w.frozen? ⟨g, j, none⟩ = false) := by
  have h' := h
  obtain ⟨h1, h2⟩ := h
  refine ⟨by omega, ?_⟩
  rcases h2 with ⟨hv, hn⟩ | ⟨g, cap, cur, hv, hgb, hh, hle, hmx, hsz, hx⟩
  · exact ⟨none, 0, by rw [hv, hn], fun h0 => by omega⟩
  · refine ⟨_, cap, hv, fun _ => ⟨g, rfl, hgb, (h'.lt g (by rw [hv]; rfl)).2, hle, by rw [hv]; rfl, fun j u hu => ?_, fun j => ?_⟩⟩
    · have := h'.cells (g := g) (by rw [hv]; rfl) j _ hu
      rw [add_at] at this
      exact this
    · simp [World.frozen?, hh]

/-- an owned row, one of its cells written -/
theorem ownsRow_set {w : World} {base : Nat} {e : TypeId} {v : Value} {n : Nat} {xs : List Value} (h : w.ownsRow base e 1 v n xs) {g : Nat} (hg : v.ownBlock = some g) (k : Nat) (u : Value) :
    (w.setCell ⟨g, k, none⟩ u).ownsRow base e 1 v n (xs.set k u) := by
  obtain ⟨h1, h2⟩ := h
  rcases h2 with ⟨hv, hn⟩ | ⟨g', cap, cur, hv, hgb, hh, hle, hmx, hsz, hx⟩
  · rw [hv] at hg; cases hg
  · rw [hv] at hg
    simp only [Value.ownBlock, Option.some.injEq] at hg
    subst hg
    refine ⟨by simpa using h1, Or.inr ⟨g', cap, cur.setIfInBounds k u, hv, hgb, ?_, hle, hmx, by simpa using hsz, ?_⟩⟩
    · simp only [World.setCell]
      rw [Array.getElem?_modify, if_pos rfl, hh]
      rfl
    · rw [Array.toList_setIfInBounds, ← hx, List.take_set]

/-- a place of an owned row may be written -/
theorem at_row {w : World} {base : Nat} {e : TypeId} {g n c : Nat} {xs : List Value} (h : w.ownsRow base e 1 (.slice (some ⟨g, 0, none⟩) n c) n xs) (k : Nat) (hk : k < n) : ∃ u, w.cell? ⟨g, k, none⟩ = some u ∧ w.frozen? ⟨g, k, none⟩ = false := by
  obtain ⟨hl, ao, cap, hv, hf⟩ := row_lie h
  obtain ⟨g', e1, _, _, _, _, hc, hz⟩ := hf (by omega)
  simp only [Value.slice.injEq] at hv
  obtain ⟨rfl, _, _⟩ := hv
  simp only [Option.some.injEq, Addr.mk.injEq, and_true] at e1
  subst e1
  have hk' : k < xs.length := by omega
  exact ⟨xs[k], hc k _ (List.getElem?_eq_getElem hk'), hz k⟩

theorem grownBy_set (w : World) (g k : Nat) (u : Value) : w.grownBy (w.setCell ⟨g, k, none⟩ u) (some g) :=
  ⟨rfl, rfl, rfl, by simp [World.setCell], fun j _ hj => Below.heap_setCell _ _ _ _ (fun e => hj (by simp [e]))⟩

/-- the one cell of a new block -/
theorem one_new (w : World) (x : Value) (t : TypeId) : ∀ (j : Nat) u, [x][j]? = some u → (w.alloc (.cells #[x] t)).cell? ((⟨w.heap.size, 0, none⟩ : Addr).add j) = some u := by
  intro j u hj
  match j, hj with
  | 0, hj => simp at hj; subst hj; simp [Addr.add]

/-- texts as the cells of a row -/
def st (l : List ByteArray) : List Value := l.map Value.string
theorem st_append (l r : List ByteArray) : st (l ++ r) = st l ++ st r := by simp [st]
theorem st_length (l : List ByteArray) : (st l).length = l.length := by simp [st]
theorem st_at (l : List ByteArray) (k : Nat) (h : k < l.length) : (st l)[k]? = some (.string l[k]) := by simp [st, h]
end Go.Proofs.YthkkhmmcgjcedaaDoor

namespace Go.Proofs.YthkkhmmcgjcedaaDoor
open Go.RowKit

/-- the figure of x, as a byte -/
def fig (x : Int) : Int := if x < 10 then 48 + x else 87 + x

theorem fig_bd {x : Int} (h0 : 0 ≤ x) (h1 : x ≤ 15) : 48 ≤ fig x ∧ fig x ≤ 102 := by unfold fig; split <;> omega

def hexOf : List UInt8 → List UInt8
  | [] => []
  | b :: r => UInt8.ofNat (fig (b.toNat / 16)).toNat :: UInt8.ofNat (fig (b.toNat % 16)).toNat :: hexOf r

theorem hexOf_append (l r : List UInt8) : hexOf (l ++ r) = hexOf l ++ hexOf r := by
  induction l with
  | nil => rfl
  | cons b l ih => simp [hexOf, ih]

theorem hexOf_length (l : List UInt8) : (hexOf l).length = 2 * l.length := by
  induction l with
  | nil => rfl
  | cons b l ih => simp [hexOf, ih]; omega

theorem take_snoc (s : ByteArray) (k : Nat) (h : k < s.size) : s.data.toList.take (k + 1) = s.data.toList.take k ++ [s[k]] := by
  rw [List.take_succ_eq_append_getElem (by simpa using h)]; rfl

theorem take_len (s : ByteArray) (k : Nat) (h : k ≤ s.size) : (s.data.toList.take k).length = k := by
  have : s.data.toList.length = s.size := by simp
  rw [List.length_take]; omega

theorem two_cs (b : UInt8) : [Value.int .u8 (fig ((b.toNat : Int) / 16)), .int .u8 (fig ((b.toNat : Int) % 16))] = cs (hexOf [b]) := by
  have hb := b.toNat_lt
  have h1 := fig_bd (x := (b.toNat : Int) / 16) (by omega) (by omega)
  have h2 := fig_bd (x := (b.toNat : Int) % 16) (by omega) (by omega)
  simp only [hexOf, cs, List.map_cons, List.map_nil, UInt8.toNat_ofNat', List.cons.injEq, and_true, Value.int.injEq, true_and]
  omega

theorem hex_step {s : ByteArray} {k : Nat} {w wr w1 : World} {v : Value} {g cap : Nat} {B : Obj} (hk : k < s.size) (hown : wr.ownsRow w.heap.size 5 1 v (2 * k) (cs (hexOf (s.data.toList.take k))))
    (hown' : w1.ownsRow w.heap.size 5 1 (.slice (some ⟨g, 0, none⟩) (2 * k + 2) cap) (2 * k + 2) (cs (hexOf (s.data.toList.take k)) ++ [.int .u8 (fig ((s[k].toNat : Int) / 16)), .int .u8 (fig ((s[k].toNat : Int) % 16))]))
    (hgrow : (wr.alloc B).drew.grownBy w1 v.ownBlock) (hb : Below w.heap.size w wr) :
    w1.ownsRow w.heap.size 5 1 (.slice (some ⟨g, 0, none⟩) (2 * k + 2) cap) (2 * (k + 1)) (cs (hexOf (s.data.toList.take (k + 1)))) ∧ Below w.heap.size w w1 := by
  refine ⟨?_, ((hb.alloc hb.size _).drew).grown hgrow (by have := hb.size; simp; omega) (fun j hj => (hown.lt j hj).1)⟩
  rw [two_cs, ← cs_append, ← hexOf_append, ← take_snoc s k hk] at hown'
  exact hown'

theorem i64_id {x : Int} (h0 : -9223372036854775808 ≤ x) (h1 : x ≤ 9223372036854775807) : IntKind.i64.wrap x = x := by
  simp [IntKind.wrap, IntKind.signed, IntKind.bits]; omega
theorem u8_id {x : Int} (h0 : 0 ≤ x) (h1 : x ≤ 255) : IntKind.u8.wrap x = x := by
  simp [IntKind.wrap, IntKind.signed, IntKind.bits]; omega

theorem wrap_quo (b : UInt8) : IntKind.i64.wrap ((IntKind.i64.wrap (b.toNat : Int)).tdiv 16) = (b.toNat : Int) / 16 := by
  have hb := b.toNat_lt
  have e : IntKind.i64.wrap (b.toNat : Int) = (b.toNat : Int) := by simp [IntKind.wrap, IntKind.signed, IntKind.bits]; omega
  rw [e, Int.tdiv_eq_ediv_of_nonneg (by omega)]
  simp [IntKind.wrap, IntKind.signed, IntKind.bits]; omega
theorem wrap_rem (b : UInt8) : (IntKind.i64.wrap (b.toNat : Int)).tmod 16 = (b.toNat : Int) % 16 := by
  have hb := b.toNat_lt
  have e : IntKind.i64.wrap (b.toNat : Int) = (b.toNat : Int) := by simp [IntKind.wrap, IntKind.signed, IntKind.bits]; omega
  rw [e, Int.tmod_eq_emod_of_nonneg (by omega)]
end Go.Proofs.YthkkhmmcgjcedaaDoor

namespace Go.Proofs.YthkkhmmcgjcedaaDoor
open Go.RowKit

/-- what the byte c counts as a figure; -1 where it is none -/
def lv (c : Int) : Int := if 48 ≤ c ∧ c ≤ 57 then c - 48 else if 97 ≤ c ∧ c ≤ 102 then c - 87 else -1

theorem lv_bd (c : Int) : -1 ≤ lv c ∧ lv c ≤ 15 := by unfold lv; split <;> (try split) <;> omega

theorem fig_lv {c j : Int} (h0 : 0 ≤ j) (h1 : j ≤ 15) : c = fig j ↔ lv c = j := by
  unfold lv fig
  split <;> split <;> (try split) <;> omega

/-- the values of a text's figures -/
def lvs (l : List UInt8) : List Int := l.map fun c => lv (c.toNat : Int)

def Figs (b : Nat) (l : List UInt8) : Prop := ∀ c ∈ l, 0 ≤ lv (c.toNat : Int) ∧ lv (c.toNat : Int) < b

theorem Figs.snoc {b : Nat} {l : List UInt8} {c : UInt8} (h : Figs b l) (hc : 0 ≤ lv (c.toNat : Int) ∧ lv (c.toNat : Int) < b) : Figs b (l ++ [c]) := by
  intro x hx
  rcases List.mem_append.1 hx with hx | hx
  · exact h x hx
  · simp at hx; subst hx; exact hc

/-- ints as the cells of a row -/
def ns (l : List Int) : List Value := l.map (Value.int .i64)

theorem mem_at (s : ByteArray) (k : Nat) (h : k < s.size) : s[k] ∈ s.data.toList := by
  have h1 : k < s.data.toList.length := by simpa using h
  have h2 := List.getElem_mem h1
  have h3 : s.data.toList[k] = s[k] := by rw [Array.getElem_toList]; rfl
  rw [h3] at h2
  exact h2

theorem lvs_append (l r : List UInt8) : lvs (l ++ r) = lvs l ++ lvs r := by simp [lvs]
theorem lvs_length (l : List UInt8) : (lvs l).length = l.length := by simp [lvs]
theorem ns_append (l r : List Int) : ns (l ++ r) = ns l ++ ns r := by simp [ns]

theorem fv_step {s : ByteArray} {k : Nat} {w wr w1 : World} {v v' : Value} {B : Obj} {j : Int} (hk : k < s.size) (hj : lv (s[k].toNat : Int) = j) (hown : wr.ownsRow w.heap.size 3 1 v k (ns (lvs (s.data.toList.take k))))
    (hown' : w1.ownsRow w.heap.size 3 1 v' (k + 1) (ns (lvs (s.data.toList.take k)) ++ [.int .i64 j])) (hgrow : (wr.alloc B).grownBy w1 v.ownBlock) (hb : Below w.heap.size w wr) :
    w1.ownsRow w.heap.size 3 1 v' (k + 1) (ns (lvs (s.data.toList.take (k + 1)))) ∧ Below w.heap.size w w1 := by
  refine ⟨?_, (hb.alloc hb.size _).grown hgrow (by have := hb.size; simp; omega) (fun j hj => (hown.lt j hj).1)⟩
  have e : [Value.int .i64 j] = ns (lvs [s[k]]) := by simp [ns, lvs, hj]
  rw [e, ← ns_append, ← lvs_append, ← take_snoc s k hk] at hown'
  exact hown'

/-- where the values lie -/
theorem values_lie {w w1 : World} {s : ByteArray} {v : Value} (h : w1.ownsRow w.heap.size 3 1 v s.size (ns (lvs s.data.toList))) :
    ∃ ao cap, v = .slice ao s.size cap ∧ (0 < s.size → ∃ g, ao = some ⟨g, 0, none⟩ ∧ g < w1.heap.size ∧ s.size ≤ cap ∧ ∀ j (hj : j < s.size), w1.cell? ⟨g, j, none⟩ = some (.int .i64 (lv (s[j].toNat : Int)))) := by
  have h' := h
  obtain ⟨h1, h2⟩ := h
  rcases h2 with ⟨hv, hn⟩ | ⟨g, cap, cur, hv, hgb, hh, hle, hmx, hsz, hx⟩
  · exact ⟨none, 0, by rw [hv, hn], fun h0 => by omega⟩
  · refine ⟨_, cap, hv, fun _ => ⟨g, rfl, (h'.lt g (by rw [hv]; rfl)).2, hle, fun j hj => ?_⟩⟩
    have hu : (ns (lvs s.data.toList))[j]? = some (.int .i64 (lv (s[j].toNat : Int))) := by
      have hj' : j < s.data.toList.length := by simpa using hj
      have e : s.data.toList[j] = s[j] := by rw [Array.getElem_toList]; rfl
      simp only [ns, lvs, List.getElem?_map, List.getElem?_eq_getElem hj', Option.map_some, e]
    have := h'.cells (g := g) (by rw [hv]; rfl) j _ hu
    have ea : (⟨g, 0, none⟩ : Addr).add j = ⟨g, j, none⟩ := by
      simp only [Addr.add]
      split
      · simp_all
      · simp
    rw [ea] at this
    exact this
end Go.Proofs.YthkkhmmcgjcedaaDoor

namespace Go.Proofs.YthkkhmmcgjcedaaDoor
open Go.RowKit

/-- the decimal figures of n, none for 0 (with so many steps at the most) -/
def ddF : Nat → Nat → List UInt8
  | 0, _ => []
  | f + 1, n => if n = 0 then [] else ddF f (n / 10) ++ [UInt8.ofNat (48 + n % 10)]
/-- the decimal figures of n, none for 0 -/
def dd (n : Nat) : List UInt8 := ddF n n

theorem ddF_eq : ∀ (f g n : Nat), n ≤ f → n ≤ g → ddF f n = ddF g n
  | 0, 0, _, _, _ => rfl
  | 0, g + 1, n, h, _ => by
    obtain rfl : n = 0 := by omega
    rw [ddF, ddF, if_pos rfl]
  | f + 1, 0, n, _, h => by
    obtain rfl : n = 0 := by omega
    rw [ddF, ddF, if_pos rfl]
  | f + 1, g + 1, n, h1, h2 => by
    rw [ddF, ddF]
    by_cases h : n = 0
    · rw [if_pos h, if_pos h]
    · rw [if_neg h, if_neg h, ddF_eq f g (n / 10) (by omega) (by omega)]
theorem dd_zero : dd 0 = [] := rfl
theorem dd_pos {n : Nat} (h : 0 < n) : dd n = dd (n / 10) ++ [UInt8.ofNat (48 + n % 10)] := by
  rw [dd, ddF_eq n (n + 1) n (Nat.le_refl _) (by omega), ddF, if_neg (by omega), dd, ddF_eq n (n / 10) (n / 10) (by omega) (Nat.le_refl _)]

theorem dd_len (k : Nat) : ∀ n, n < 10 ^ k → (dd n).length ≤ k := by
  induction k with
  | zero => intro n h; have : n = 0 := by simp at h; omega
            subst this; rw [dd_zero]; simp
  | succ k ih =>
    intro n h
    by_cases h0 : n = 0
    · subst h0; rw [dd_zero]; simp
    · rw [dd_pos (by omega), List.length_append]
      have := ih (n / 10) (by rw [Nat.pow_succ] at h; omega)
      simp only [List.length_cons, List.length_nil]
      omega

/-- n in decimal -/
def dec (n : Int) : List UInt8 := if n = 0 then [48] else if n < 0 then 45 :: dd n.natAbs else dd n.natAbs

/-- what figures make -/
def num (l : List UInt8) : Nat := l.foldl (fun n c => 10 * n + (c.toNat - 48)) 0

theorem num_nil : num [] = 0 := rfl
theorem num_snoc (l : List UInt8) (c : UInt8) : num (l ++ [c]) = 10 * num l + (c.toNat - 48) := by simp [num, List.foldl_append]

def Digits (l : List UInt8) : Prop := ∀ c ∈ l, 48 ≤ c.toNat ∧ c.toNat ≤ 57

theorem Digits.init {l : List UInt8} {c : UInt8} (h : Digits (l ++ [c])) : Digits l ∧ 48 ≤ c.toNat ∧ c.toNat ≤ 57 :=
  ⟨fun x hx => h x (List.mem_append.2 (Or.inl hx)), h c (by simp)⟩
theorem Digits.snoc {l : List UInt8} {c : UInt8} (h : Digits l) (hc : 48 ≤ c.toNat ∧ c.toNat ≤ 57) : Digits (l ++ [c]) := by
  intro x hx
  rcases List.mem_append.1 hx with hx | hx
  · exact h x hx
  · simp at hx; subst hx; exact hc

theorem snoc_cases (l : List UInt8) : l = [] ∨ ∃ r c, l = r ++ [c] := by
  rcases h : l.reverse with _ | ⟨c, r⟩
  · exact Or.inl (by simpa using h)
  · exact Or.inr ⟨r.reverse, c, by have := congrArg List.reverse h; simpa using this⟩

theorem num_lt : ∀ (k : Nat) (l : List UInt8), l.length = k → Digits l → num l < 10 ^ k
  | 0, l, h, _ => by
    have : l = [] := List.eq_nil_of_length_eq_zero h
    subst this; simp [num]
  | k + 1, l, h, hd => by
    rcases snoc_cases l with rfl | ⟨r, c, rfl⟩
    · simp at h
    · have h1 := hd.init
      have := num_lt k r (by simpa using h) h1.1
      rw [num_snoc, Nat.pow_succ]
      omega

theorem num_lead (c : UInt8) (hc : c ≠ 48) (hc1 : 48 ≤ c.toNat ∧ c.toNat ≤ 57) : ∀ (k : Nat) (r : List UInt8), r.length = k → Digits r → 0 < num (c :: r) ∧ dd (num (c :: r)) = c :: r
  | 0, r, h, _ => by
    have : r = [] := List.eq_nil_of_length_eq_zero h
    subst this
    have h48 : c.toNat ≠ 48 := fun e => hc (UInt8.toNat_inj.1 (by simpa using e))
    have e : num [c] = c.toNat - 48 := by simp [num]
    rw [e]
    refine ⟨by omega, ?_⟩
    rw [dd_pos (by omega), show (c.toNat - 48) / 10 = 0 by omega, dd_zero, show 48 + (c.toNat - 48) % 10 = c.toNat by omega]
    simp
  | k + 1, r, h, hd => by
    rcases snoc_cases r with rfl | ⟨r', x, rfl⟩
    · simp at h
    · have h1 := hd.init
      obtain ⟨i1, i2⟩ := num_lead c hc hc1 k r' (by simpa using h) h1.1
      have e : num (c :: (r' ++ [x])) = 10 * num (c :: r') + (x.toNat - 48) := num_snoc (c :: r') x
      rw [e]
      refine ⟨by omega, ?_⟩
      rw [dd_pos (by omega), show (10 * num (c :: r') + (x.toNat - 48)) / 10 = num (c :: r') by omega, show 48 + (10 * num (c :: r') + (x.toNat - 48)) % 10 = x.toNat by omega, i2]
      simp

/-- figures of a number do not begin with a nought -/
theorem dd_head : ∀ (n : Nat), 0 < n → ∃ c r, dd n = c :: r ∧ c ≠ 48 := by
  intro n
  induction n using Nat.strongRecOn with
  | _ n ih =>
    intro h
    rw [dd_pos h]
    by_cases h1 : n / 10 = 0
    · rw [h1, dd_zero]
      refine ⟨_, [], rfl, ?_⟩
      intro e
      have := congrArg UInt8.toNat e
      simp only [UInt8.toNat_ofNat', UInt8.toNat_ofNat] at this
      omega
    · obtain ⟨c, r, e, hc⟩ := ih (n / 10) (by omega) (by omega)
      exact ⟨c, r ++ [UInt8.ofNat (48 + n % 10)], by rw [e]; rfl, hc⟩

/-- a text of figures is how its number is written, just when it has some and no needless nought ahead -/
theorem dec_num (l : List UInt8) (hd : Digits l) : dec (num l : Int) = l ↔ l ≠ [] ∧ ¬ (l.head? = some 48 ∧ 1 < l.length) := by
  match l, hd with
  | [], _ => simp [num, dec]
  | c :: r, hd =>
    have hc := hd c (by simp)
    have hr : Digits r := fun x hx => hd x (by simp [hx])
    by_cases h48 : c = 48
    · subst h48
      match r, hr with
      | [], _ => simp [num, dec]
      | x :: r', hr =>
        simp only [List.head?_cons, List.length_cons, ne_eq, reduceCtorEq, not_false_eq_true, true_and]
        constructor
        · intro e
          unfold dec at e
          split at e
          · simp at e
          · rename_i hz
            rw [if_neg (by omega), Int.natAbs_natCast] at e
            obtain ⟨y, q, e1, e2⟩ := dd_head (num (48 :: x :: r')) (by omega)
            rw [e1] at e
            simp only [List.cons.injEq] at e
            exact absurd e.1 e2
        · intro h
          exact absurd (by omega) h
    · obtain ⟨i1, i2⟩ := num_lead c h48 hc r.length r rfl hr
      unfold dec
      rw [if_neg (by omega), if_neg (by omega), Int.natAbs_natCast, i2]
      simp [h48]

theorem digits_figs (l : List UInt8) : Digits l ↔ Figs 10 l := by
  constructor
  · intro h c hc
    have := h c hc
    unfold lv
    rw [if_pos (by omega)]
    omega
  · intro h c hc
    have := h c hc
    unfold lv at this
    split at this
    · omega
    · split at this <;> omega
theorem lv_digit {c : UInt8} (h : 48 ≤ c.toNat ∧ c.toNat ≤ 57) : lv (c.toNat : Int) = ((c.toNat - 48 : Nat) : Int) := by
  unfold lv; rw [if_pos (by omega)]; omega

/-- a text that ReadDecimal takes -/
def DecOk (l : List UInt8) : Prop := Digits l ∧ num l ≤ 1000000000 ∧ l ≠ [] ∧ ¬ (l.head? = some 48 ∧ 1 < l.length)

theorem digits_at {s : ByteArray} {k : Nat} (hk : k < s.size) (h : ¬ (48 ≤ s[k].toNat ∧ s[k].toNat ≤ 57)) : ¬ DecOk s.data.toList := fun hd => h (hd.1 s[k] (mem_at s k hk))

theorem num_step {s : ByteArray} {k : Nat} (hk : k < s.size) (h : 48 ≤ (s[k].toNat : Int)) : ((num (s.data.toList.take (k + 1)) : Nat) : Int) = 10 * (num (s.data.toList.take k) : Int) + (s[k].toNat : Int) - 48 := by
  rw [take_snoc s k hk, num_snoc]
  omega

theorem ret_num {a b : Nat} (h : a = b) : Ending.returned (.tuple #[.int .i64 a, .bool true]) = .returned (.tuple #[.int .i64 b, .bool true]) := by rw [h]

theorem same_dec {s : ByteArray} {l : List UInt8} : (!l == s.toList) = false ↔ l = s.data.toList := by
  rw [ByteArray.toList_eq]; simp
end Go.Proofs.YthkkhmmcgjcedaaDoor

namespace Go.Proofs.YthkkhmmcgjcedaaDoor
open Go.RowKit

/-- a number within bounds -/
def within (x a b : Int) : Bool := decide (a ≤ x) && decide (x ≤ b)
theorem within_yes {x a b : Int} (h1 : a ≤ x) (h2 : x ≤ b) : within x a b = true := by simp [within, h1, h2]
theorem within_no {x a b : Int} (h : x < a ∨ b < x) : within x a b = false := by
  simp only [within, Bool.and_eq_false_imp, decide_eq_true_eq, decide_eq_false_iff_not]
  omega
theorem within_iff {x a b : Int} : within x a b = true ↔ a ≤ x ∧ x ≤ b := by simp [within]
end Go.Proofs.YthkkhmmcgjcedaaDoor

namespace Go.Proofs.YthkkhmmcgjcedaaDoor
open Go.RowKit

structure DgramD where
  src : Int
  dst : Int
  ident : Int
  place : Int
  more : Bool
  body : ByteArray
/-- numbers that are numbers, texts that are texts -/
def DgramD.Fits (e : DgramD) : Prop := (-9223372036854775808 ≤ e.src ∧ e.src ≤ 9223372036854775807) ∧ (-9223372036854775808 ≤ e.dst ∧ e.dst ≤ 9223372036854775807) ∧ (-9223372036854775808 ≤ e.ident ∧ e.ident ≤ 9223372036854775807) ∧ (-9223372036854775808 ≤ e.place ∧ e.place ≤ 9223372036854775807) ∧ True ∧ e.body.size ≤ maxLen
def dgramEnc (e : DgramD) : List Value := [.int .i64 e.src, .int .i64 e.dst, .int .i64 e.ident, .int .i64 e.place, .bool e.more, .string e.body]
/-- the cells of a row -/
def dgramCells (l : List DgramD) : List Value := l.flatMap dgramEnc
theorem dgramCells_length (l : List DgramD) : (dgramCells l).length = l.length * 6 := row_length dgramEnc 6 (fun _ => rfl) l
theorem dgramCells_take (l : List DgramD) (k : Nat) (h : k < l.length) : dgramCells (l.take (k + 1)) = dgramCells (l.take k) ++ dgramEnc l[k] := by
  rw [List.take_succ_eq_append_getElem h, dgramCells, dgramCells, List.flatMap_append]
  simp
/-- how many letters -/
def dgramOne (e : DgramD) : Int := (e.body.size : Int)
theorem dgramOne_nonneg (e : DgramD) : 0 ≤ dgramOne e := by unfold dgramOne; omega
def dgramBulk : List DgramD → Int
  | [] => 0
  | f :: l => dgramOne f + dgramBulk l
theorem dgramBulk_nonneg (l : List DgramD) : 0 ≤ dgramBulk l := by
  induction l with
  | nil => exact Int.le_refl 0
  | cons f l ih => have := dgramOne_nonneg f; simp only [dgramBulk]; omega
theorem dgramBulk_take (l : List DgramD) (k : Nat) (h : k < l.length) : dgramBulk (l.take (k + 1)) = dgramBulk (l.take k) + dgramOne l[k] := by
  induction l generalizing k with
  | nil => simp at h
  | cons f l ih =>
    cases k with
    | zero => simp [dgramBulk]
    | succ k =>
      have := ih k (by simpa using h)
      simp only [List.take_succ_cons, dgramBulk, List.getElem_cons_succ] at this ⊢
      omega
theorem dgramBulk_le (l : List DgramD) (k : Nat) : dgramBulk (l.take k) ≤ dgramBulk l := by
  induction l generalizing k with
  | nil => simp [dgramBulk]
  | cons f l ih =>
    cases k with
    | zero => have := dgramBulk_nonneg (f :: l); simpa [dgramBulk] using this
    | succ k => have := ih k; simp only [List.take_succ_cons, dgramBulk]; omega
theorem dgram_le_bulk {l : List DgramD} {f : DgramD} (h : f ∈ l) : dgramOne f ≤ dgramBulk l := by
  induction l with
  | nil => cases h
  | cons g l ih =>
    simp only [dgramBulk]
    have := dgramBulk_nonneg l
    have := dgramOne_nonneg g
    rcases List.mem_cons.1 h with e | e
    · subst e; omega
    · have := ih e; omega
/-- few and short -/
def DgramsSmall (l : List DgramD) : Prop := l.length ≤ 1048576 ∧ ∀ f ∈ l, dgramOne f ≤ 1048576
theorem dgramsSmall {l : List DgramD} (h : 0 ≤ (1048576 : Int) - l.length - dgramBulk l) : DgramsSmall l := by
  have := dgramBulk_nonneg l
  exact ⟨by omega, fun f hf => by have := dgram_le_bulk hf; omega⟩
/-- they lie at an address, one behind the other -/
def DgramsAt (w : World) (ao : Option Addr) (l : List DgramD) : Prop :=
  l ≠ [] → ∃ b off, ao = some ⟨b, off, none⟩ ∧ ∀ j (hj : j < l.length), w.cell? ⟨b, off + j * 6, none⟩ = some (.int .i64 l[j].src) ∧ w.cell? ⟨b, off + j * 6 + 1, none⟩ = some (.int .i64 l[j].dst) ∧ w.cell? ⟨b, off + j * 6 + 2, none⟩ = some (.int .i64 l[j].ident) ∧ w.cell? ⟨b, off + j * 6 + 3, none⟩ = some (.int .i64 l[j].place) ∧ w.cell? ⟨b, off + j * 6 + 4, none⟩ = some (.bool l[j].more) ∧ w.cell? ⟨b, off + j * 6 + 5, none⟩ = some (.string l[j].body)
theorem dgramsAt_of {w : World} {g : Nat} {t : TypeId} {l : List DgramD} {r : List Value} (h : BlockIs w g t (dgramCells l ++ r)) : DgramsAt w (some ⟨g, 0, none⟩) l := by
  intro _
  refine ⟨g, 0, rfl, fun j hj => ?_⟩
  rw [Nat.zero_add]
  exact ⟨h.cell (row_at dgramEnc 6 (fun _ => rfl) l r j 0 hj (by omega)), h.cell (row_at dgramEnc 6 (fun _ => rfl) l r j 1 hj (by omega)), h.cell (row_at dgramEnc 6 (fun _ => rfl) l r j 2 hj (by omega)), h.cell (row_at dgramEnc 6 (fun _ => rfl) l r j 3 hj (by omega)), h.cell (row_at dgramEnc 6 (fun _ => rfl) l r j 4 hj (by omega)), h.cell (row_at dgramEnc 6 (fun _ => rfl) l r j 5 hj (by omega))⟩
def DgramsFit (l : List DgramD) : Prop := ∀ j (hj : j < l.length), l[j].Fits
theorem DgramsAt.on {w w' : World} {ao : Option Addr} {l : List DgramD} (h : DgramsAt w ao l) (hb : Below w.heap.size w w') : DgramsAt w' ao l := by
  intro h0
  obtain ⟨b, off, e1, e2⟩ := h h0
  refine ⟨b, off, e1, fun j hj => ?_⟩
  obtain ⟨x0, x1, x2, x3, x4, x5⟩ := e2 j hj
  exact ⟨(hb.cell (p := ⟨b, off + j * 6, none⟩) (World.block_lt_of_cell? w _ x0)).trans x0, (hb.cell (p := ⟨b, off + j * 6 + 1, none⟩) (World.block_lt_of_cell? w _ x1)).trans x1, (hb.cell (p := ⟨b, off + j * 6 + 2, none⟩) (World.block_lt_of_cell? w _ x2)).trans x2, (hb.cell (p := ⟨b, off + j * 6 + 3, none⟩) (World.block_lt_of_cell? w _ x3)).trans x3, (hb.cell (p := ⟨b, off + j * 6 + 4, none⟩) (World.block_lt_of_cell? w _ x4)).trans x4, (hb.cell (p := ⟨b, off + j * 6 + 5, none⟩) (World.block_lt_of_cell? w _ x5)).trans x5⟩
/-- cells of a list, written -/
theorem dgram_sets (p : List Value) (a0 a1 a2 a3 a4 a5 o0 o1 o2 o3 o4 o5 : Value) (r : List Value) : ((((((p ++ o0 :: o1 :: o2 :: o3 :: o4 :: o5 :: r).set (p.length) a0).set (p.length + 1) a1).set (p.length + 2) a2).set (p.length + 3) a3).set (p.length + 4) a4).set (p.length + 5) a5 = p ++ a0 :: a1 :: a2 :: a3 :: a4 :: a5 :: r := by
  rw [List.set_append_right _ _ (Nat.le_refl _), List.set_append_right _ _ (by omega), List.set_append_right _ _ (by omega), List.set_append_right _ _ (by omega), List.set_append_right _ _ (by omega), List.set_append_right _ _ (by omega)]
  simp
theorem dgram_set_other {cs : List Value} {i j : Nat} {v u : Value} (h : cs[j]? = some u) (hij : i ≠ j) : (cs.set i v)[j]? = some u := by
  rw [List.getElem?_set_ne hij]; exact h
end Go.Proofs.YthkkhmmcgjcedaaDoor

namespace Go.Proofs.YthkkhmmcgjcedaaDoor
open Go.RowKit

/-- one more number; what goes beyond comes in at the low end -/
def ones1 (s n : Nat) : Nat := if 65535 < s + n then s + n - 65535 else s + n
def onesF : Nat → List UInt8 → Nat
  | s, [] => s
  | s, [a] => ones1 s (256 * a.toNat)
  | s, a :: b :: r => onesF (ones1 s (256 * a.toNat + b.toNat)) r
def sumOnes (l : List UInt8) : Nat := 65535 - onesF 0 l
theorem ones1_le {s n : Nat} (hs : s ≤ 65535) (hn : n ≤ 65535) : ones1 s n ≤ 65535 := by
  unfold ones1
  split <;> omega
theorem pair_le (a b : UInt8) : 256 * a.toNat + b.toNat ≤ 65535 := by
  have := a.toNat_lt
  have := b.toNat_lt
  omega
theorem onesF_le : ∀ (l : List UInt8) (s : Nat), s ≤ 65535 → onesF s l ≤ 65535
  | [], _, h => h
  | [a], s, h => ones1_le h (by have := a.toNat_lt; omega)
  | a :: b :: r, s, h => onesF_le r _ (ones1_le h (pair_le a b))
theorem sumOnes_le (l : List UInt8) : sumOnes l ≤ 65535 := by unfold sumOnes; omega
/-- the sum goes on by pairs -/
theorem onesF_pair (l : List UInt8) (k s : Nat) (h : k + 1 < l.length) : onesF s (l.drop k) = onesF (ones1 s (256 * (l[k]'(by omega)).toNat + l[k + 1].toNat)) (l.drop (k + 2)) := by
  rw [List.drop_eq_getElem_cons (show k < l.length by omega), List.drop_eq_getElem_cons h]
  rfl
theorem onesF_last (l : List UInt8) (k s : Nat) (h : k + 1 = l.length) : onesF s (l.drop k) = ones1 s (256 * (l[k]'(by omega)).toNat) := by
  rw [List.drop_eq_getElem_cons (show k < l.length by omega), List.drop_eq_nil_of_le (by omega)]
  rfl
theorem onesF_append_even : ∀ (l r : List UInt8) (s : Nat), l.length % 2 = 0 → onesF s (l ++ r) = onesF (onesF s l) r
  | [], r, s, _ => rfl
  | [a], r, s, h => by simp at h
  | a :: b :: l, r, s, h => by
    show onesF _ (l ++ r) = _
    exact onesF_append_even l r _ (by simp at h; omega)
/-- a sum with the sum itself put to it is nothing -/
theorem sumOnes_with {l : List UInt8} (h : l.length % 2 = 0) : sumOnes (l ++ [UInt8.ofNat (sumOnes l / 256), UInt8.ofNat (sumOnes l % 256)]) = 0 := by
  have hle := onesF_le l 0 (by omega)
  unfold sumOnes
  rw [onesF_append_even l _ 0 h]
  obtain ⟨S, hS⟩ : ∃ S, onesF 0 l = S := ⟨_, rfl⟩
  rw [hS] at hle ⊢
  have e : onesF S [UInt8.ofNat ((65535 - S) / 256), UInt8.ofNat ((65535 - S) % 256)] = ones1 S (65535 - S) := by
    show ones1 S (256 * (UInt8.ofNat ((65535 - S) / 256)).toNat + (UInt8.ofNat ((65535 - S) % 256)).toNat) = _
    rw [UInt8.toNat_ofNat', UInt8.toNat_ofNat']
    congr 1
    omega
  rw [e]
  unfold ones1
  split <;> omega
end Go.Proofs.YthkkhmmcgjcedaaDoor

namespace Go.Proofs.YthkkhmmcgjcedaaDoor
open Go.RowKit

def dgramOk (d : DgramD) : Bool := within d.src 1 99 && (within d.dst 1 99 && (within d.ident 0 65535 && (within d.place 0 160 && (decide (d.place % 8 = 0) && (within (d.body.size : Int) 1 (160 - d.place) && (!d.more || decide (d.body.size % 8 = 0)))))))
theorem dgramOk_bd {d : DgramD} (h : dgramOk d = true) : (1 ≤ d.src ∧ d.src ≤ 99) ∧ (1 ≤ d.dst ∧ d.dst ≤ 99) ∧ (0 ≤ d.ident ∧ d.ident ≤ 65535) ∧ (0 ≤ d.place ∧ d.place ≤ 160) ∧ d.place % 8 = 0 ∧ (1 ≤ (d.body.size : Int) ∧ (d.body.size : Int) ≤ 160 - d.place) ∧ (d.more = true → d.body.size % 8 = 0) := by
  simp only [dgramOk, Bool.and_eq_true, within_iff, decide_eq_true_eq, Bool.or_eq_true, Bool.not_eq_true'] at h
  obtain ⟨h1, h2, h3, h4, h5, h6, h7⟩ := h
  refine ⟨h1, h2, h3, h4, h5, h6, fun hm => ?_⟩
  rcases h7 with h7 | h7
  · rw [hm] at h7; cases h7
  · exact h7
/-- a number in two bytes, the higher one first -/
def twoB (n : Nat) : List UInt8 := [UInt8.ofNat (n / 256), UInt8.ofNat (n % 256)]
/-- the six bytes of the head -/
def dHead (d : DgramD) : List UInt8 := [UInt8.ofNat d.src.toNat, UInt8.ofNat d.dst.toNat] ++ twoB d.ident.toNat ++ [UInt8.ofNat (d.place.toNat / 8), UInt8.ofNat (if d.more then 1 else 0)]
def dBytes (d : DgramD) : List UInt8 := dHead d ++ twoB (sumOnes (dHead d)) ++ d.body.data.toList
def dText (d : DgramD) : ByteArray := ⟨(dHead d).toArray⟩ ++ ⟨(twoB (sumOnes (dHead d))).toArray⟩ ++ d.body
def dgramText (d : DgramD) : ByteArray × Bool := if dgramOk d then (dText d, true) else (ByteArray.empty, false)
def dgramZero : DgramD := ⟨0, 0, 0, 0, false, ByteArray.empty⟩
theorem dgramText_yes {d : DgramD} (h : dgramOk d = true) : dgramText d = (dText d, true) := by rw [dgramText, if_pos h]
theorem dgramText_no {d : DgramD} (h : dgramOk d = false) : dgramText d = (ByteArray.empty, false) := by rw [dgramText, if_neg (by simp [h])]
theorem dHead_length (d : DgramD) : (dHead d).length = 6 := rfl
theorem dText_list (d : DgramD) : (dText d).data.toList = dBytes d := by
  rw [dText, ByteArray.data_append, ByteArray.data_append, Array.toList_append, Array.toList_append, dBytes]
theorem dText_size (d : DgramD) : (dText d).size = d.body.size + 8 := by
  rw [dText, ByteArray.size_append, ByteArray.size_append]
  show 6 + 2 + d.body.size = _
  omega
/-- the datagram that nine bytes and more tell -/
def dgramOf (s : ByteArray) : DgramD := ⟨(s.data.toList.getD 0 0).toNat, (s.data.toList.getD 1 0).toNat, 256 * (s.data.toList.getD 2 0).toNat + (s.data.toList.getD 3 0).toNat, 8 * (s.data.toList.getD 4 0).toNat, decide ((s.data.toList.getD 5 0).toNat = 1), s.extract 8 s.size⟩
theorem tail8 (s : ByteArray) : (s.extract 8 s.size).data.toList = s.data.toList.drop 8 := by
  have h : (s.extract 8 s.size).data = s.data.extract 8 s.size := by rw [ByteArray.data_extract]
  rw [h, Array.toList_extract, List.extract_eq_take_drop]
  apply List.take_of_length_le
  rw [List.length_drop, Array.length_toList]
  exact Nat.le_refl _
/-- the text of a right datagram -/
def DgramIn (s : ByteArray) : Prop := 9 ≤ s.size ∧ (s.data.toList.getD 5 0).toNat ≤ 1 ∧ dgramOk (dgramOf s) = true ∧ dText (dgramOf s) = s
theorem dgramOf_text {d : DgramD} (h : dgramOk d = true) : dgramOf (dText d) = d := by
  obtain ⟨⟨a1, a2⟩, ⟨b1, b2⟩, ⟨c1, c2⟩, ⟨e1, e2⟩, f1, _, _⟩ := dgramOk_bd h
  obtain ⟨x, y, z, p, m, b⟩ := d
  dsimp only at a1 a2 b1 b2 c1 c2 e1 e2 f1
  have hb : (dText ⟨x, y, z, p, m, b⟩).extract 8 (dText ⟨x, y, z, p, m, b⟩).size = b := by
    apply ByteArray.ext
    apply Array.toList_inj.1
    rw [tail8, dText_list]
    rfl
  rw [dgramOf, hb, dText_list]
  simp only [dBytes, dHead, twoB, List.cons_append, List.nil_append, List.getD_cons_zero, List.getD_cons_succ, UInt8.toNat_ofNat']
  have h1 : ((x.toNat % 2 ^ 8 : Nat) : Int) = x := by omega
  have h2 : ((y.toNat % 2 ^ 8 : Nat) : Int) = y := by omega
  have h3 : (256 * ((z.toNat / 256 % 2 ^ 8 : Nat) : Int) + ((z.toNat % 256 % 2 ^ 8 : Nat) : Int)) = z := by omega
  have h4 : (8 * ((p.toNat / 8 % 2 ^ 8 : Nat) : Int)) = p := by omega
  rw [h1, h2, h3, h4]
  cases m <;> rfl
theorem dgramIn_text {d : DgramD} (h : dgramOk d = true) : DgramIn (dText d) := by
  have hz := dText_size d
  have hb := (dgramOk_bd h).2.2.2.2.2.1.1
  refine ⟨by omega, ?_, by rw [dgramOf_text h]; exact h, by rw [dgramOf_text h]⟩
  rw [dText_list]
  show (UInt8.ofNat (if d.more = true then 1 else 0)).toNat ≤ 1
  cases d.more <;> decide
theorem head_sum (d : DgramD) : sumOnes (dHead d ++ twoB (sumOnes (dHead d))) = 0 := sumOnes_with (by rw [dHead_length])
end Go.Proofs.YthkkhmmcgjcedaaDoor

namespace Go.Proofs.YthkkhmmcgjcedaaDoor
open Go.RowKit

def segOk (d : SegD) : Bool := within d.num 0 65535 && (within d.ack 0 65535 && (within d.flags 0 7 && (decide ((d.body.size : Int) ≤ 8) && ((!decide (d.flags % 2 = 1) || decide (d.body.size = 0)) && (decide (d.flags / 2 % 2 = 1) || decide (d.ack = 0))))))
theorem segOk_iff {d : SegD} : segOk d = true ↔ (0 ≤ d.num ∧ d.num ≤ 65535) ∧ (0 ≤ d.ack ∧ d.ack ≤ 65535) ∧ (0 ≤ d.flags ∧ d.flags ≤ 7) ∧ (d.body.size : Int) ≤ 8 ∧ (d.flags % 2 = 1 → d.body.size = 0) ∧ (¬ d.flags / 2 % 2 = 1 → d.ack = 0) := by
  simp only [segOk, Bool.and_eq_true, within_iff, decide_eq_true_eq, Bool.or_eq_true, Bool.not_eq_true', decide_eq_false_iff_not]
  constructor
  · rintro ⟨h1, h2, h3, h4, h5, h6⟩
    exact ⟨h1, h2, h3, h4, by omega, by omega⟩
  · rintro ⟨h1, h2, h3, h4, h5, h6⟩
    exact ⟨h1, h2, h3, h4, by omega, by omega⟩
theorem segOk_no {d : SegD} (h : ((0 ≤ d.num ∧ d.num ≤ 65535) ∧ (0 ≤ d.ack ∧ d.ack ≤ 65535) ∧ (0 ≤ d.flags ∧ d.flags ≤ 7) ∧ (d.body.size : Int) ≤ 8 ∧ (d.flags % 2 = 1 → d.body.size = 0) ∧ (¬ d.flags / 2 % 2 = 1 → d.ack = 0)) → False) : segOk d = false := by
  rw [← Bool.not_eq_true]
  exact fun hk => h (segOk_iff.1 hk)
/-- the five bytes of the head -/
def sHead (d : SegD) : List UInt8 := twoB d.num.toNat ++ twoB d.ack.toNat ++ [UInt8.ofNat d.flags.toNat]
def sText (d : SegD) : ByteArray := ⟨(twoB d.num.toNat).toArray⟩ ++ ⟨(twoB d.ack.toNat).toArray⟩ ++ ⟨#[UInt8.ofNat d.flags.toNat]⟩ ++ d.body
def segText (d : SegD) : ByteArray × Bool := if segOk d then (sText d, true) else (ByteArray.empty, false)
def segZero : SegD := ⟨0, 0, 0, ByteArray.empty⟩
theorem segText_yes {d : SegD} (h : segOk d = true) : segText d = (sText d, true) := by rw [segText, if_pos h]
theorem segText_no {d : SegD} (h : segOk d = false) : segText d = (ByteArray.empty, false) := by rw [segText, if_neg (by simp [h])]
theorem sText_list (d : SegD) : (sText d).data.toList = UInt8.ofNat (d.num.toNat / 256) :: UInt8.ofNat (d.num.toNat % 256) :: UInt8.ofNat (d.ack.toNat / 256) :: UInt8.ofNat (d.ack.toNat % 256) :: UInt8.ofNat d.flags.toNat :: d.body.data.toList := by
  rw [sText, ByteArray.data_append, ByteArray.data_append, ByteArray.data_append, Array.toList_append, Array.toList_append, Array.toList_append]
  rfl
theorem sText_size (d : SegD) : (sText d).size = d.body.size + 5 := by
  rw [sText, ByteArray.size_append, ByteArray.size_append, ByteArray.size_append]
  have h1 : (⟨(twoB d.num.toNat).toArray⟩ : ByteArray).size = 2 := rfl
  have h2 : (⟨(twoB d.ack.toNat).toArray⟩ : ByteArray).size = 2 := rfl
  have h3 : (⟨#[UInt8.ofNat d.flags.toNat]⟩ : ByteArray).size = 1 := rfl
  omega
/-- the segment that a text tells -/
def segOf (s : ByteArray) : SegD := ⟨256 * (s.data.toList.getD 0 0).toNat + (s.data.toList.getD 1 0).toNat, 256 * (s.data.toList.getD 2 0).toNat + (s.data.toList.getD 3 0).toNat, (s.data.toList.getD 4 0).toNat, s.extract 5 s.size⟩
theorem tail5 (s : ByteArray) : (s.extract 5 s.size).data.toList = s.data.toList.drop 5 := by
  rw [ByteArray.data_extract, Array.toList_extract, List.extract_eq_take_drop, List.take_of_length_le]
  have : s.size = s.data.toList.length := rfl
  rw [List.length_drop]
  omega
theorem segOf_text {d : SegD} (h : segOk d = true) : segOf (sText d) = d := by
  obtain ⟨⟨a1, a2⟩, ⟨b1, b2⟩, ⟨c1, c2⟩, _⟩ := segOk_iff.1 h
  obtain ⟨x, y, z, b⟩ := d
  dsimp only at a1 a2 b1 b2 c1 c2
  have hb : (sText ⟨x, y, z, b⟩).extract 5 (sText ⟨x, y, z, b⟩).size = b := by
    apply ByteArray.ext
    apply Array.toList_inj.1
    rw [tail5, sText_list]
    rfl
  rw [segOf, hb, sText_list]
  simp only [List.getD_cons_zero, List.getD_cons_succ, UInt8.toNat_ofNat']
  rw [show ((256 : Int) * ((x.toNat / 256 % 2 ^ 8 : Nat) : Int) + ((x.toNat % 256 % 2 ^ 8 : Nat) : Int)) = x by omega, show ((256 : Int) * ((y.toNat / 256 % 2 ^ 8 : Nat) : Int) + ((y.toNat % 256 % 2 ^ 8 : Nat) : Int)) = y by omega, show ((z.toNat % 2 ^ 8 : Nat) : Int) = z by omega]
theorem segOf_at {U : ByteArray} (h : 5 ≤ U.size) : segOf U = ⟨(256 : Int) * ((U[0]'(by omega)).toNat : Int) + ((U[1]'(by omega)).toNat : Int), (256 : Int) * ((U[2]'(by omega)).toNat : Int) + ((U[3]'(by omega)).toNat : Int), ((U[4]'(by omega)).toNat : Int), U.extract 5 U.size⟩ := by
  obtain ⟨⟨l⟩⟩ := U
  have hl : 5 ≤ l.length := h
  match l, hl with
  | a :: b :: c :: d :: e :: r, _ => rfl
theorem text_segOf {s : ByteArray} (h : 5 ≤ s.size) : sText (segOf s) = s := by
  apply ByteArray.ext
  apply Array.toList_inj.1
  rw [sText_list]
  obtain ⟨l, hl⟩ : ∃ l, s.data.toList = l := ⟨_, rfl⟩
  have hlen : 5 ≤ l.length := by rw [← hl]; simpa using h
  simp only [segOf, tail5]
  rw [hl]
  match l, hlen with
  | a :: b :: c :: d :: e :: r, _ =>
    simp only [List.getD_cons_zero, List.getD_cons_succ, List.drop_succ_cons, List.drop_zero]
    have ha := a.toNat_lt
    have hb := b.toNat_lt
    have hc := c.toNat_lt
    have hd := d.toNat_lt
    rw [show (256 * (a.toNat : Int) + (b.toNat : Int)).toNat / 256 = a.toNat by omega, show (256 * (a.toNat : Int) + (b.toNat : Int)).toNat % 256 = b.toNat by omega, show (256 * (c.toNat : Int) + (d.toNat : Int)).toNat / 256 = c.toNat by omega, show (256 * (c.toNat : Int) + (d.toNat : Int)).toNat % 256 = d.toNat by omega]
    simp
/-- the text of a right segment -/
def SegIn (s : ByteArray) : Prop := 5 ≤ s.size ∧ segOk (segOf s) = true
theorem segIn_text {d : SegD} (h : segOk d = true) : SegIn (sText d) := ⟨by rw [sText_size]; omega, by rw [segOf_text h]; exact h⟩
theorem not_segIn_empty : ¬ SegIn ByteArray.empty := fun h => by have := h.1; simp at this
/-- what a reader told -/
def STold (s : ByteArray) (r : SegD) (ok : Bool) : Prop := (SegIn s ∧ r = segOf s ∧ ok = true) ∨ (¬ SegIn s ∧ r = segZero ∧ ok = false)
theorem segText_flag {d : SegD} {T : ByteArray} {ok : Bool} (h : segText d = (T, ok)) : segOk d = ok := by
  cases hE : segOk d with
  | true => rw [segText_yes hE] at h; exact congrArg Prod.snd h
  | false => rw [segText_no hE] at h; exact congrArg Prod.snd h
theorem stext_parts {d : SegD} {T : ByteArray} (h : segText d = (T, true)) : segOk d = true ∧ T = sText d := by
  cases hE : segOk d with
  | true => rw [segText_yes hE] at h; exact ⟨rfl, (congrArg Prod.fst h).symm⟩
  | false => rw [segText_no hE] at h; cases congrArg Prod.snd h
theorem segText_small (d : SegD) : (segText d).1.size ≤ 13 := by
  cases hE : segOk d with
  | true =>
    rw [segText_yes hE]
    show (sText d).size ≤ 13
    rw [sText_size]
    have := (segOk_iff.1 hE).2.2.2.1
    omega
  | false => rw [segText_no hE]; exact Nat.zero_le _
theorem stold_back {d r : SegD} {T : ByteArray} {right : Bool} (h : segText d = (T, true)) (ht : STold T r right) : r = d ∧ right = true := by
  obtain ⟨hE, rfl⟩ := stext_parts h
  rcases ht with ⟨_, h3, h4⟩ | ⟨h3, _⟩
  · exact ⟨h3.trans (segOf_text hE), h4⟩
  · exact absurd (segIn_text hE) h3
theorem stold_same {s : ByteArray} {r r2 : SegD} {a b : Bool} (h : STold s r a) (h2 : STold s r2 b) : r = r2 ∧ a = b := by
  rcases h with ⟨x, h3, h4⟩ | ⟨x, h3, h4⟩ <;> rcases h2 with ⟨y, h5, h6⟩ | ⟨y, h5, h6⟩
  · exact ⟨h3.trans h5.symm, h4.trans h6.symm⟩
  · exact absurd x y
  · exact absurd y x
  · exact ⟨h3.trans h5.symm, h4.trans h6.symm⟩
theorem stold_again {s again : ByteArray} {r : SegD} {may ok2 : Bool} (h : STold s r may) (h2 : segText r = (again, ok2)) : may = true → again = s := by
  rintro rfl
  rcases h with ⟨x, h3, _⟩ | ⟨_, _, h4⟩
  · subst h3
    rw [segText_yes x.2] at h2
    exact (congrArg Prod.fst h2).symm.trans (text_segOf x.1)
  · cases h4
end Go.Proofs.YthkkhmmcgjcedaaDoor

namespace Go.Proofs.YthkkhmmcgjcedaaDoor
open Go.RowKit

/-- the part that begins at a place -/
def partAt (d : DgramD) (sz k : Nat) : DgramD := ⟨d.src, d.dst, d.ident, d.place + (k * sz : Nat), if d.body.size ≤ k * sz + sz then d.more else true, d.body.extract (k * sz) (min (k * sz + sz) d.body.size)⟩
def cutTo (d : DgramD) (sz k : Nat) : List DgramD := (List.range k).map (partAt d sz)
def nParts (d : DgramD) (sz : Nat) : Nat := (d.body.size + sz - 1) / sz
def cutOk (d : DgramD) (size : Int) : Bool := dgramOk d && within size 8 160
/-- the parts of a datagram -/
def cutD (d : DgramD) (size : Int) : List DgramD := if cutOk d size = true then cutTo d (size.toNat / 8 * 8) (nParts d (size.toNat / 8 * 8)) else []
theorem cutTo_length (d : DgramD) (sz k : Nat) : (cutTo d sz k).length = k := by simp [cutTo]
theorem cutTo_succ (d : DgramD) (sz k : Nat) : cutTo d sz (k + 1) = cutTo d sz k ++ [partAt d sz k] := by simp [cutTo, List.range_succ]
theorem parts_more {d : DgramD} {sz k : Nat} (hs : 0 < sz) : k * sz < d.body.size ↔ k < nParts d sz := by
  unfold nParts
  rw [Nat.lt_div_iff_mul_lt hs]
  constructor <;> intro h <;> omega
theorem parts_done {d : DgramD} {sz k : Nat} (hs : 0 < sz) (h : k ≤ nParts d sz) (h2 : ¬ k * sz < d.body.size) : k = nParts d sz := by
  rw [parts_more hs] at h2
  omega
theorem nParts_le {d : DgramD} {sz : Nat} (hs : 8 ≤ sz) (hb : d.body.size ≤ 160) : nParts d sz ≤ 20 := by
  unfold nParts
  have h1 : (d.body.size + sz - 1) / sz ≤ (160 + sz - 1) / sz := Nat.div_le_div_right (by omega)
  have h2 : (160 + sz - 1) / sz < 21 := by rw [Nat.div_lt_iff_lt_mul (by omega)]; omega
  omega
end Go.Proofs.YthkkhmmcgjcedaaDoor

namespace Go.Proofs.YthkkhmmcgjcedaaDoor
open Go.RowKit

structure CellD where
  dst : Int
  src : Int
  kd : Int
  body : ByteArray
/-- numbers that are numbers, texts that are texts -/
def CellD.Fits (e : CellD) : Prop := (-9223372036854775808 ≤ e.dst ∧ e.dst ≤ 9223372036854775807) ∧ (-9223372036854775808 ≤ e.src ∧ e.src ≤ 9223372036854775807) ∧ (-9223372036854775808 ≤ e.kd ∧ e.kd ≤ 9223372036854775807) ∧ e.body.size ≤ maxLen
def cellEnc (e : CellD) : List Value := [.int .i64 e.dst, .int .i64 e.src, .int .i64 e.kd, .string e.body]
/-- the cells of a row -/
def cellCells (l : List CellD) : List Value := l.flatMap cellEnc
theorem cellCells_length (l : List CellD) : (cellCells l).length = l.length * 4 := row_length cellEnc 4 (fun _ => rfl) l
theorem cellCells_take (l : List CellD) (k : Nat) (h : k < l.length) : cellCells (l.take (k + 1)) = cellCells (l.take k) ++ cellEnc l[k] := by
  rw [List.take_succ_eq_append_getElem h, cellCells, cellCells, List.flatMap_append]
  simp
/-- how many letters -/
def cellOne (e : CellD) : Int := (e.body.size : Int)
theorem cellOne_nonneg (e : CellD) : 0 ≤ cellOne e := by unfold cellOne; omega
def cellBulk : List CellD → Int
  | [] => 0
  | f :: l => cellOne f + cellBulk l
theorem cellBulk_nonneg (l : List CellD) : 0 ≤ cellBulk l := by
  induction l with
  | nil => exact Int.le_refl 0
  | cons f l ih => have := cellOne_nonneg f; simp only [cellBulk]; omega
theorem cellBulk_take (l : List CellD) (k : Nat) (h : k < l.length) : cellBulk (l.take (k + 1)) = cellBulk (l.take k) + cellOne l[k] := by
  induction l generalizing k with
  | nil => simp at h
  | cons f l ih =>
    cases k with
    | zero => simp [cellBulk]
    | succ k =>
      have := ih k (by simpa using h)
      simp only [List.take_succ_cons, cellBulk, List.getElem_cons_succ] at this ⊢
      omega
theorem cellBulk_le (l : List CellD) (k : Nat) : cellBulk (l.take k) ≤ cellBulk l := by
  induction l generalizing k with
  | nil => simp [cellBulk]
  | cons f l ih =>
    cases k with
    | zero => have := cellBulk_nonneg (f :: l); simpa [cellBulk] using this
    | succ k => have := ih k; simp only [List.take_succ_cons, cellBulk]; omega
theorem cell_le_bulk {l : List CellD} {f : CellD} (h : f ∈ l) : cellOne f ≤ cellBulk l := by
  induction l with
  | nil => cases h
  | cons g l ih =>
    simp only [cellBulk]
    have := cellBulk_nonneg l
    have := cellOne_nonneg g
    rcases List.mem_cons.1 h with e | e
    · subst e; omega
    · have := ih e; omega
/-- few and short -/
def CellsSmall (l : List CellD) : Prop := l.length ≤ 1048576 ∧ ∀ f ∈ l, cellOne f ≤ 1048576
theorem cellsSmall {l : List CellD} (h : 0 ≤ (1048576 : Int) - l.length - cellBulk l) : CellsSmall l := by
  have := cellBulk_nonneg l
  exact ⟨by omega, fun f hf => by have := cell_le_bulk hf; omega⟩
/-- they lie at an address, one behind the other -/
def CellsAt (w : World) (ao : Option Addr) (l : List CellD) : Prop :=
  l ≠ [] → ∃ b off, ao = some ⟨b, off, none⟩ ∧ ∀ j (hj : j < l.length), w.cell? ⟨b, off + j * 4, none⟩ = some (.int .i64 l[j].dst) ∧ w.cell? ⟨b, off + j * 4 + 1, none⟩ = some (.int .i64 l[j].src) ∧ w.cell? ⟨b, off + j * 4 + 2, none⟩ = some (.int .i64 l[j].kd) ∧ w.cell? ⟨b, off + j * 4 + 3, none⟩ = some (.string l[j].body)
theorem cellsAt_of {w : World} {g : Nat} {t : TypeId} {l : List CellD} {r : List Value} (h : BlockIs w g t (cellCells l ++ r)) : CellsAt w (some ⟨g, 0, none⟩) l := by
  intro _
  refine ⟨g, 0, rfl, fun j hj => ?_⟩
  rw [Nat.zero_add]
  exact ⟨h.cell (row_at cellEnc 4 (fun _ => rfl) l r j 0 hj (by omega)), h.cell (row_at cellEnc 4 (fun _ => rfl) l r j 1 hj (by omega)), h.cell (row_at cellEnc 4 (fun _ => rfl) l r j 2 hj (by omega)), h.cell (row_at cellEnc 4 (fun _ => rfl) l r j 3 hj (by omega))⟩
def CellsFit (l : List CellD) : Prop := ∀ j (hj : j < l.length), l[j].Fits
theorem CellsAt.on {w w' : World} {ao : Option Addr} {l : List CellD} (h : CellsAt w ao l) (hb : Below w.heap.size w w') : CellsAt w' ao l := by
  intro h0
  obtain ⟨b, off, e1, e2⟩ := h h0
  refine ⟨b, off, e1, fun j hj => ?_⟩
  obtain ⟨x0, x1, x2, x3⟩ := e2 j hj
  exact ⟨(hb.cell (p := ⟨b, off + j * 4, none⟩) (World.block_lt_of_cell? w _ x0)).trans x0, (hb.cell (p := ⟨b, off + j * 4 + 1, none⟩) (World.block_lt_of_cell? w _ x1)).trans x1, (hb.cell (p := ⟨b, off + j * 4 + 2, none⟩) (World.block_lt_of_cell? w _ x2)).trans x2, (hb.cell (p := ⟨b, off + j * 4 + 3, none⟩) (World.block_lt_of_cell? w _ x3)).trans x3⟩
/-- cells of a list, written -/
theorem cell_sets (p : List Value) (a0 a1 a2 a3 o0 o1 o2 o3 : Value) (r : List Value) : ((((p ++ o0 :: o1 :: o2 :: o3 :: r).set (p.length) a0).set (p.length + 1) a1).set (p.length + 2) a2).set (p.length + 3) a3 = p ++ a0 :: a1 :: a2 :: a3 :: r := by
  rw [List.set_append_right _ _ (Nat.le_refl _), List.set_append_right _ _ (by omega), List.set_append_right _ _ (by omega), List.set_append_right _ _ (by omega)]
  simp
theorem cell_set_other {cs : List Value} {i j : Nat} {v u : Value} (h : cs[j]? = some u) (hij : i ≠ j) : (cs.set i v)[j]? = some u := by
  rw [List.getElem?_set_ne hij]; exact h
end Go.Proofs.YthkkhmmcgjcedaaDoor

namespace Go.Proofs.YthkkhmmcgjcedaaDoor
open Go.RowKit

/-- one of the eight steps -/
def half (x : Nat) : Nat := if x % 2 = 1 then x / 2 ^^^ 3558460437 else x / 2

theorem half_lt {x : Nat} (h : x < 4294967296) : half x < 4294967296 := by
  unfold half
  split
  · exact Nat.xor_lt_two_pow (n := 32) (by omega) (by omega)
  · omega

theorem top_bit {a : Nat} (h : a < 2147483648) : 2147483648 ≤ a ^^^ 3558460437 := by
  have h1 : (a ^^^ 3558460437).testBit 31 = true := by
    rw [Nat.testBit_xor, Nat.testBit_lt_two_pow (x := a) (i := 31) (by omega)]
    decide
  exact Nat.ge_two_pow_of_testBit h1

theorem xor_cancel {a b c : Nat} (h : a ^^^ c = b ^^^ c) : a = b := by
  have := congrArg (· ^^^ c) h
  simpa [Nat.xor_assoc] using this

theorem half_inj {x y : Nat} (hx : x < 4294967296) (hy : y < 4294967296) (h : half x = half y) : x = y := by
  unfold half at h
  have tx := top_bit (a := x / 2) (by omega)
  have ty := top_bit (a := y / 2) (by omega)
  split at h <;> split at h
  · have := xor_cancel h; omega
  · omega
  · omega
  · omega

/-- k steps -/
def hsN : Nat → Nat → Nat
  | 0, x => x
  | k + 1, x => half (hsN k x)

theorem hsN_lt (k : Nat) {x : Nat} (h : x < 4294967296) : hsN k x < 4294967296 := by
  induction k with
  | zero => exact h
  | succ k ih => exact half_lt ih
theorem hsN_inj (k : Nat) {x y : Nat} (hx : x < 4294967296) (hy : y < 4294967296) (h : hsN k x = hsN k y) : x = y := by
  induction k with
  | zero => exact h
  | succ k ih => exact ih (half_inj (hsN_lt k hx) (hsN_lt k hy) h)

/-- a sum and one byte more -/
def crc1 (s : Nat) (b : UInt8) : Nat := hsN 8 (s ^^^ b.toNat)

theorem xb_lt {s : Nat} (h : s < 4294967296) (b : UInt8) : s ^^^ b.toNat < 4294967296 := Nat.xor_lt_two_pow (n := 32) (by omega) (by have := b.toNat_lt; omega)
theorem crc1_lt {s : Nat} (h : s < 4294967296) (b : UInt8) : crc1 s b < 4294967296 := hsN_lt 8 (xb_lt h b)
theorem crc1_inj {s t : Nat} (hs : s < 4294967296) (ht : t < 4294967296) {b : UInt8} (h : crc1 s b = crc1 t b) : s = t :=
  xor_cancel (hsN_inj 8 (xb_lt hs b) (xb_lt ht b) h)
theorem crc1_byte {s : Nat} (hs : s < 4294967296) {b c : UInt8} (h : crc1 s b = crc1 s c) : b = c := by
  have h1 := hsN_inj 8 (xb_lt hs b) (xb_lt hs c) h
  rw [Nat.xor_comm s, Nat.xor_comm s] at h1
  exact UInt8.toNat_inj.1 (xor_cancel h1)

/-- a sum and more bytes -/
def crc (s : Nat) (l : List UInt8) : Nat := l.foldl crc1 s

theorem crc_append (s : Nat) (l r : List UInt8) : crc s (l ++ r) = crc (crc s l) r := by simp [crc]
theorem crc_snoc (s : Nat) (l : List UInt8) (b : UInt8) : crc s (l ++ [b]) = crc1 (crc s l) b := by simp [crc]
theorem crc_lt {s : Nat} (h : s < 4294967296) (l : List UInt8) : crc s l < 4294967296 := by
  induction l generalizing s with
  | nil => exact h
  | cons b l ih => exact ih (crc1_lt h b)
theorem crc_inj {s t : Nat} (hs : s < 4294967296) (ht : t < 4294967296) (l : List UInt8) (h : crc s l = crc t l) : s = t := by
  induction l generalizing s t with
  | nil => exact h
  | cons b l ih => exact crc1_inj hs ht (ih (crc1_lt hs b) (crc1_lt ht b) h)
/-- one byte turned turns the sum -/
theorem crc_turned {s : Nat} (hs : s < 4294967296) (p q : List UInt8) {b c : UInt8} (h : crc s (p ++ b :: q) = crc s (p ++ c :: q)) : b = c := by
  rw [crc_append, crc_append] at h
  have hp := crc_lt hs p
  have h1 : crc (crc1 (crc s p) b) q = crc (crc1 (crc s p) c) q := h
  exact crc1_byte hp (crc_inj (crc1_lt hp b) (crc1_lt hp c) q h1)

/-- a sum in four bytes, the highest first -/
def four (x : Nat) : List UInt8 := [UInt8.ofNat (x / 16777216), UInt8.ofNat (x / 65536), UInt8.ofNat (x / 256), UInt8.ofNat x]
theorem four_length (x : Nat) : (four x).length = 4 := rfl
theorem four_inj {x y : Nat} (hx : x < 4294967296) (hy : y < 4294967296) (h : four x = four y) : x = y := by
  simp only [four, List.cons.injEq, and_true] at h
  obtain ⟨h1, h2, h3, h4⟩ := h
  have e1 := congrArg UInt8.toNat h1
  have e2 := congrArg UInt8.toNat h2
  have e3 := congrArg UInt8.toNat h3
  have e4 := congrArg UInt8.toNat h4
  simp only [UInt8.toNat_ofNat'] at e1 e2 e3 e4
  omega

def sumOf (l : List UInt8) : Nat := crc 4294967295 l
theorem sumOf_lt (l : List UInt8) : sumOf l < 4294967296 := crc_lt (by omega) l

/-- a sealed text with one byte turned is the sealed text of none of its length -/
theorem seal_turned (l m : List UInt8) (p q : List UInt8) (b c : UInt8) (h1 : l ++ four (sumOf l) = p ++ b :: q) (h2 : m ++ four (sumOf m) = p ++ c :: q) : b = c := by
  have hlen : l.length = m.length := by
    have e1 := congrArg List.length h1
    have e2 := congrArg List.length h2
    simp only [List.length_append, List.length_cons, four_length] at e1 e2
    omega
  have tl : l = (p ++ b :: q).take l.length := by rw [← h1, List.take_left]
  have tm : m = (p ++ c :: q).take l.length := by rw [← h2, hlen, List.take_left]
  have dl : four (sumOf l) = (p ++ b :: q).drop l.length := by rw [← h1, List.drop_left]
  have dm : four (sumOf m) = (p ++ c :: q).drop l.length := by rw [← h2, hlen, List.drop_left]
  rw [List.take_append] at tl tm
  rw [List.drop_append] at dl dm
  rcases Nat.lt_or_ge p.length l.length with hp | hp
  · -- the byte lies in the text: the sums' bytes are alike
    obtain ⟨k, hk⟩ : ∃ k, l.length - p.length = k + 1 := ⟨l.length - p.length - 1, by omega⟩
    rw [hk, List.take_of_length_le (by omega), List.take_succ_cons] at tl tm
    rw [hk, List.drop_of_length_le (by omega), List.drop_succ_cons] at dl dm
    have hs := four_inj (sumOf_lt l) (sumOf_lt m) (dl.trans dm.symm)
    rw [tl, tm] at hs
    exact crc_turned (by omega) p (q.take k) hs
  · -- the byte lies in the sum: the texts are alike
    have hk : l.length - p.length = 0 := by omega
    rw [hk, List.take_zero, List.append_nil] at tl tm
    have e : l = m := tl.trans tm.symm
    have h3 : p ++ b :: q = p ++ c :: q := by rw [← h1, ← h2, e]
    have h4 := List.append_cancel_left h3
    simp only [List.cons.injEq] at h4
    exact h4.1

/-- a text that is sealed -/
def Uns (s : ByteArray) : Prop := 4 ≤ s.size ∧ s.size ≤ 20004 ∧ s.data.toList.drop (s.size - 4) = four (sumOf (s.data.toList.take (s.size - 4)))

theorem slice_from {P : Program} {t : TypeId} (h : P.underlying t = some .string) (s : ByteArray) (a : Nat) (x : Int) (hx : x = a) (ha : a ≤ s.size) (w : World) :
    (Instr.slice t (.string s) (some (.int .i64 x)) none none).run P w = .ok (.string (s.extract a s.size)) w := by
  subst hx
  rw [run_slice_string_l w t s h .i64 a (by omega) (by omega)]
  simp
theorem slice_upto {P : Program} {t : TypeId} (h : P.underlying t = some .string) (s : ByteArray) (a : Nat) (x : Int) (hx : x = a) (ha : a ≤ s.size) (w : World) :
    (Instr.slice t (.string s) none (some (.int .i64 x)) none).run P w = .ok (.string (s.extract 0 a)) w := by
  subst hx
  rw [run_slice_string_h w t s h .i64 a (by omega) (by omega)]
  simp

theorem head_list (s : ByteArray) (a : Nat) : (s.extract 0 a).data.toList = s.data.toList.take a := by rw [extract_eq]; simp
theorem tail_list (s : ByteArray) (a : Nat) : (s.extract a s.size).data.toList = s.data.toList.drop a := by
  rw [extract_eq, List.take_of_length_le (by simp)]

theorem uns_same {s : ByteArray} (h4 : 4 ≤ s.size) (h2 : s.size ≤ 20004) : (s.extract (s.size - 4) s.size).toList = four (sumOf (s.extract 0 (s.size - 4)).data.toList) ↔ Uns s := by
  rw [ByteArray.toList_eq, tail_list s _, head_list]
  exact ⟨fun h => ⟨h4, h2, h⟩, fun h => h.2.2⟩
end Go.Proofs.YthkkhmmcgjcedaaDoor

namespace Go.Proofs.YthkkhmmcgjcedaaDoor
open Go.RowKit

/-- the sealed text -/
def sealOf (s : ByteArray) : ByteArray := s ++ ⟨(four (sumOf s.data.toList)).toArray⟩

theorem sealOf_list (s : ByteArray) : (sealOf s).data.toList = s.data.toList ++ four (sumOf s.data.toList) := by
  rw [sealOf, ByteArray.data_append, Array.toList_append]
theorem sealOf_size (s : ByteArray) : (sealOf s).size = s.size + 4 := by
  rw [sealOf, ByteArray.size_append]
  rfl
theorem sealOf_uns {s : ByteArray} (h : s.size ≤ 20000) : Uns (sealOf s) := by
  refine ⟨by rw [sealOf_size]; omega, by rw [sealOf_size]; omega, ?_⟩
  have e : (sealOf s).size - 4 = s.data.toList.length := by rw [sealOf_size]; simp
  rw [e, sealOf_list, List.take_left, List.drop_left]
theorem sealOf_head (s : ByteArray) : (sealOf s).extract 0 ((sealOf s).size - 4) = s := by
  apply ByteArray.ext
  apply Array.toList_inj.1
  have e : (sealOf s).size - 4 = s.data.toList.length := by rw [sealOf_size]; simp
  rw [head_list, e, sealOf_list, List.take_left]

/-- a sealed text with one byte turned is none -/
theorem turned_not {s t : ByteArray} {k : Nat} {b : UInt8} (hk : k < (sealOf s).size) (hb : b ≠ (sealOf s).data.toList[k]'(by simpa using hk)) (ht : t.data.toList = (sealOf s).data.toList.set k b) : ¬ Uns t := by
  intro h
  have hkl : k < (sealOf s).data.toList.length := by simpa using hk
  obtain ⟨L, hL⟩ : ∃ L, (sealOf s).data.toList = L := ⟨_, rfl⟩
  have h1 := sealOf_list s
  simp only [hL] at hb hkl ht h1
  obtain ⟨_, _, h3⟩ := h
  have h4 := List.take_append_drop (t.size - 4) t.data.toList
  rw [h3] at h4
  refine hb ?_
  refine (seal_turned s.data.toList (t.data.toList.take (t.size - 4)) (L.take k) (L.drop (k + 1)) L[k] b ?_ ?_).symm
  · rw [← h1]
    rw [List.getElem_cons_drop hkl, List.take_append_drop]
  · rw [h4, ht, List.set_eq_take_append_cons_drop, if_pos hkl]

/-- with one byte turned it is no sealed text -/
def TurnsNot (Q : ByteArray) : Prop := ∀ (t : ByteArray) (k : Nat) (b : UInt8) (hk : k < Q.size), b ≠ Q[k] → t.data.toList = Q.data.toList.set k b → ¬ Uns t
theorem sealOf_turns (s : ByteArray) : TurnsNot (sealOf s) := fun _ _ _ hk hb ht => turned_not hk (fun h => hb (h.trans rfl)) ht
end Go.Proofs.YthkkhmmcgjcedaaDoor

namespace Go.Proofs.YthkkhmmcgjcedaaDoor
open Go.RowKit

def cellOk (d : CellD) : Bool := within d.dst 0 99 && (within d.src 1 99 && (within d.kd 1 3 && decide ((d.body.size : Int) ≤ 60)))
/-- the three bytes of the head -/
def head3 (a b c : Nat) : ByteArray := ⟨#[UInt8.ofNat a, UInt8.ofNat b, UInt8.ofNat c]⟩
def cellRaw (d : CellD) : ByteArray := head3 d.dst.toNat d.src.toNat d.kd.toNat ++ d.body
def cellText (d : CellD) : ByteArray × Bool := if cellOk d then (sealOf (cellRaw d), true) else (ByteArray.empty, false)
def cellZero : CellD := ⟨0, 0, 0, ByteArray.empty⟩
/-- the frame that an unsealed text tells -/
def cellOf (s : ByteArray) : CellD := ⟨(s.data.toList.getD 0 0).toNat, (s.data.toList.getD 1 0).toNat, (s.data.toList.getD 2 0).toNat, s.extract 3 s.size⟩
theorem cellText_yes {d : CellD} (h : cellOk d = true) : cellText d = (sealOf (cellRaw d), true) := by rw [cellText, if_pos h]
theorem cellText_no {d : CellD} (h : cellOk d = false) : cellText d = (ByteArray.empty, false) := by rw [cellText, if_neg (by simp [h])]
theorem cellOk_bd {d : CellD} (h : cellOk d = true) : (0 ≤ d.dst ∧ d.dst ≤ 99) ∧ (1 ≤ d.src ∧ d.src ≤ 99) ∧ (1 ≤ d.kd ∧ d.kd ≤ 3) ∧ d.body.size ≤ 60 := by
  simp only [cellOk, Bool.and_eq_true, within_iff, decide_eq_true_eq] at h
  omega
theorem head3_size (a b c : Nat) : (head3 a b c).size = 3 := rfl
theorem cellRaw_size (d : CellD) : (cellRaw d).size = d.body.size + 3 := by rw [cellRaw, ByteArray.size_append, head3_size]; omega
theorem cellRaw_list (d : CellD) : (cellRaw d).data.toList = UInt8.ofNat d.dst.toNat :: UInt8.ofNat d.src.toNat :: UInt8.ofNat d.kd.toNat :: d.body.data.toList := by
  rw [cellRaw, ByteArray.data_append, Array.toList_append]
  rfl
theorem tail3 (s : ByteArray) : (s.extract 3 s.size).data.toList = s.data.toList.drop 3 := tail_list s 3
theorem cellOf_raw {d : CellD} (h : cellOk d = true) : cellOf (cellRaw d) = d := by
  obtain ⟨⟨a1, a2⟩, ⟨b1, b2⟩, ⟨c1, c2⟩, _⟩ := cellOk_bd h
  obtain ⟨x, y, z, b⟩ := d
  dsimp only at a1 a2 b1 b2 c1 c2
  have hb : (cellRaw ⟨x, y, z, b⟩).extract 3 (cellRaw ⟨x, y, z, b⟩).size = b := by
    apply ByteArray.ext
    apply Array.toList_inj.1
    rw [tail3, cellRaw_list]
    rfl
  rw [cellOf, hb, cellRaw_list]
  simp only [List.getD_cons_zero, List.getD_cons_succ, UInt8.toNat_ofNat']
  rw [show ((x.toNat % 2 ^ 8 : Nat) : Int) = x by omega, show ((y.toNat % 2 ^ 8 : Nat) : Int) = y by omega, show ((z.toNat % 2 ^ 8 : Nat) : Int) = z by omega]
theorem raw_cellOf {s : ByteArray} (h : 3 ≤ s.size) : cellRaw (cellOf s) = s := by
  apply ByteArray.ext
  apply Array.toList_inj.1
  rw [cellRaw_list]
  obtain ⟨l, hl⟩ : ∃ l, s.data.toList = l := ⟨_, rfl⟩
  have hlen : 3 ≤ l.length := by rw [← hl]; simpa using h
  simp only [cellOf, tail3]
  rw [hl]
  match l, hlen with
  | a :: b :: c :: r, _ => simp
theorem cellOf_at {U : ByteArray} (h : 3 ≤ U.size) : cellOf U = ⟨((U[0]'(by omega)).toNat : Int), ((U[1]'(by omega)).toNat : Int), ((U[2]'(by omega)).toNat : Int), U.extract 3 U.size⟩ := by
  obtain ⟨⟨l⟩⟩ := U
  have hl : 3 ≤ l.length := h
  match l, hl with
  | a :: b :: c :: r, _ => rfl
/-- the text of a right frame -/
def CellIn (s : ByteArray) : Prop := Uns s ∧ 7 ≤ s.size ∧ cellOk (cellOf (s.extract 0 (s.size - 4))) = true
theorem cellIn_text {d : CellD} (h : cellOk d = true) : CellIn (sealOf (cellRaw d)) ∧ cellOf ((sealOf (cellRaw d)).extract 0 ((sealOf (cellRaw d)).size - 4)) = d := by
  have hb := (cellOk_bd h).2.2.2
  have hz := cellRaw_size d
  have e : cellOf ((sealOf (cellRaw d)).extract 0 ((sealOf (cellRaw d)).size - 4)) = d := by rw [sealOf_head, cellOf_raw h]
  exact ⟨⟨sealOf_uns (by omega), by rw [sealOf_size]; omega, by rw [e]; exact h⟩, e⟩
theorem not_cellIn_empty : ¬ CellIn ByteArray.empty := fun h => by have := h.2.1; simp at this
end Go.Proofs.YthkkhmmcgjcedaaDoor

namespace Go.Proofs.YthkkhmmcgjcedaaDoor
open Go.RowKit

/-- the datagram of a segment -/
def wrapDg (d : SegD) (src dst ident : Int) : DgramD := ⟨src, dst, ident, 0, false, (segText d).1⟩
/-- the frame of a part -/
def wrapTx (src dst : Int) (p : DgramD) : ByteArray := (cellText ⟨dst, src, 1, (dgramText p).1⟩).1
def wrapOk (d : SegD) (src dst ident : Int) : Bool := cutOk (wrapDg d src dst ident) 8
def wrapD (d : SegD) (src dst ident : Int) : List ByteArray := (cutD (wrapDg d src dst ident) 8).map (wrapTx src dst)
theorem segText_few (d : SegD) : (segText d).1.size ≤ 13 := by
  cases h : segOk d with
  | false => rw [segText_no h]; exact Nat.zero_le _
  | true =>
    rw [segText_yes h]
    have h1 := (segOk_iff.1 h).2.2.2.1
    show (sText d).size ≤ 13
    rw [sText_size]
    omega
theorem wrap_no {d : SegD} {src dst ident : Int} (h : segOk d = false) : wrapOk d src dst ident = false := by
  rw [wrapOk, cutOk, wrapDg, segText_no h, dgramOk]
  have h0 : within 0 1 160 = false := by decide
  simp [h0]
theorem part_few {D : DgramD} {p : DgramD} (h : p ∈ cutD D 8) : p.body.size ≤ 8 := by
  unfold cutD at h
  split at h
  · simp only [cutTo, List.mem_map] at h
    obtain ⟨k, _, rfl⟩ := h
    simp only [partAt, ByteArray.size_extract]
    omega
  · cases h
theorem dgramText_few {p : DgramD} (h : p.body.size ≤ 8) : (dgramText p).1.size ≤ 16 := by
  unfold dgramText
  split
  · show (dText p).size ≤ 16
    rw [dText_size]
    omega
  · exact Nat.zero_le _
theorem wrap_cell {src dst ident : Int} {b : ByteArray} {t : ByteArray} (h : cutOk ⟨src, dst, ident, 0, false, b⟩ 8 = true) (ht : t.size ≤ 16) : (cellText ⟨dst, src, 1, t⟩).2 = true := by
  rw [cutOk, Bool.and_eq_true] at h
  obtain ⟨h1, h2, _⟩ := dgramOk_bd h.1
  dsimp only at h1 h2
  have : cellOk ⟨dst, src, 1, t⟩ = true := by
    simp only [cellOk, Bool.and_eq_true, within_iff, decide_eq_true_eq]
    omega
  rw [cellText_yes this]
end Go.Proofs.YthkkhmmcgjcedaaDoor

namespace Go.Proofs.YthkkhmmcgjcedaaDoor
open Go.RowKit

theorem toDgram_info : (Tryd.prog.info? 36).map (fun i => (i.zero, i.size, i.bytes)) = some (some (.agg #[.int .i64 0, .int .i64 0, .int .i64 0, .int .i64 0, .bool false, .string ByteArray.empty]), 6, 56) := by kernel_rfl
/-- an element's cells are written -/
theorem put_dgram {w w2 : World} {g k : Nat} {t : TypeId} {l : List DgramD} {r : List Value} (hk : k < l.length) (h : BlockIs w g t (dgramCells (l.take k) ++ r)) (hr : r.length = (l.length - k) * 6) {B : Nat} (hb : Below B w w2) (hg : g < B) :
    (∃ o0 o1 o2 o3 o4 o5, w2.cell? ⟨g, k * 6, none⟩ = some o0 ∧ w2.cell? ⟨g, k * 6 + 1, none⟩ = some o1 ∧ w2.cell? ⟨g, k * 6 + 2, none⟩ = some o2 ∧ w2.cell? ⟨g, k * 6 + 3, none⟩ = some o3 ∧ w2.cell? ⟨g, k * 6 + 4, none⟩ = some o4 ∧ w2.cell? ⟨g, k * 6 + 5, none⟩ = some o5) ∧ (∀ j, w2.frozen? ⟨g, j, none⟩ = false) ∧
    ∃ r', r'.length = (l.length - (k + 1)) * 6 ∧ BlockIs ((((((w2.setCell ⟨g, k * 6, none⟩ (.int .i64 l[k].src)).setCell ⟨g, k * 6 + 1, none⟩ (.int .i64 l[k].dst)).setCell ⟨g, k * 6 + 2, none⟩ (.int .i64 l[k].ident)).setCell ⟨g, k * 6 + 3, none⟩ (.int .i64 l[k].place)).setCell ⟨g, k * 6 + 4, none⟩ (.bool l[k].more)).setCell ⟨g, k * 6 + 5, none⟩ (.string l[k].body)) g t (dgramCells (l.take (k + 1)) ++ r') := by
  have h2 := h.on hb hg
  have hlen : (dgramCells (l.take k)).length = k * 6 := by rw [dgramCells_length, List.length_take]; omega
  match r, hr with
  | z0 :: z1 :: z2 :: z3 :: z4 :: z5 :: r', hr =>
    have hs := (((((h2.set (k * 6) (.int .i64 l[k].src)).set (k * 6 + 1) (.int .i64 l[k].dst)).set (k * 6 + 2) (.int .i64 l[k].ident)).set (k * 6 + 3) (.int .i64 l[k].place)).set (k * 6 + 4) (.bool l[k].more)).set (k * 6 + 5) (.string l[k].body)
    have e3 := dgram_sets (dgramCells (l.take k)) (.int .i64 l[k].src) (.int .i64 l[k].dst) (.int .i64 l[k].ident) (.int .i64 l[k].place) (.bool l[k].more) (.string l[k].body) z0 z1 z2 z3 z4 z5 r'
    rw [hlen] at e3
    rw [e3] at hs
    refine ⟨⟨z0, z1, z2, z3, z4, z5, h2.cell ?_, h2.cell ?_, h2.cell ?_, h2.cell ?_, h2.cell ?_, h2.cell ?_⟩, fun j => h2.thaw j, r', ?_, ?_⟩
    · rw [List.getElem?_append_right (by omega), hlen, Nat.sub_self]; rfl
    · rw [List.getElem?_append_right (by omega), hlen, show k * 6 + 1 - k * 6 = 1 by omega]; rfl
    · rw [List.getElem?_append_right (by omega), hlen, show k * 6 + 2 - k * 6 = 2 by omega]; rfl
    · rw [List.getElem?_append_right (by omega), hlen, show k * 6 + 3 - k * 6 = 3 by omega]; rfl
    · rw [List.getElem?_append_right (by omega), hlen, show k * 6 + 4 - k * 6 = 4 by omega]; rfl
    · rw [List.getElem?_append_right (by omega), hlen, show k * 6 + 5 - k * 6 = 5 by omega]; rfl
    · simp at hr; omega
    · rw [dgramCells_take l k hk, List.append_assoc]
      exact hs
  | [], hr => simp at hr; omega
  | [_], hr => simp at hr; omega
  | [_, _], hr => simp at hr; omega
  | [_, _, _], hr => simp at hr; omega
  | [_, _, _, _], hr => simp at hr; omega
  | [_, _, _, _, _], hr => simp at hr; omega

theorem made_dgram (n : Nat) : (madeCells (Value.agg #[.int .i64 0, .int .i64 0, .int .i64 0, .int .i64 0, .bool false, .string ByteArray.empty]).cells (n * 6)).toList.length = n * 6 := by
  simp [madeCells]
end Go.Proofs.YthkkhmmcgjcedaaDoor

namespace Go.Proofs.YthkkhmmcgjcedaaDoor
open Go.RowKit

theorem row_shape {w : World} {base size n : Nat} {t : TypeId} {v : Value} {xs : List Value} (h : w.ownsRow base t size v n xs) : ∃ a c, v = .slice a n c := by
  obtain ⟨_, (⟨rfl, rfl⟩ | ⟨g, cap, _, rfl, _⟩)⟩ := h
  · exact ⟨_, _, rfl⟩
  · exact ⟨_, _, rfl⟩
theorem row_down {w : World} {base base' size n : Nat} {t : TypeId} {v : Value} {xs : List Value} (h : w.ownsRow base t size v n xs) (hb : base' ≤ base) : w.ownsRow base' t size v n xs :=
  ⟨h.1, h.2.imp id fun ⟨g, cap, cur, a, b, r⟩ => ⟨g, cap, cur, a, Nat.le_trans hb b, r⟩⟩
/-- behind an append to a row of the call's own: all that was there ahead of the row stands -/
theorem behind_append {w wr w1 : World} {v : Value} {base n : Nat} {t : TypeId} {size : Nat} {xs : List Value} {o : Obj} (hB : w.heap.size ≤ base) (BR : Below w.heap.size w wr) (OR : wr.ownsRow base t size v n xs) (hz : base ≤ wr.heap.size) (hg : (wr.alloc o).drew.grownBy w1 v.ownBlock) :
    Below w.heap.size w w1 ∧ base ≤ w1.heap.size ∧ ∀ j tj cs, j < base → BlockIs wr j tj cs → BlockIs w1 j tj cs := by
  have hown : ∀ j, v.ownBlock = some j → base ≤ j := fun j hj => (OR.lt j hj).1
  have hd : Below wr.heap.size wr (wr.alloc o).drew := below_drewN (below_more (Below.refl _ wr) o) 1
  have h1 : Below base wr w1 := ((hd.mono hz).grown hg (Nat.le_trans hz hd.size) hown)
  refine ⟨BR.trans (h1.mono hB), Nat.le_trans hz h1.size, fun j tj cs hj hb => hb.on h1 hj⟩
end Go.Proofs.YthkkhmmcgjcedaaDoor

namespace Go.Proofs.YthkkhmmcgjcedaaDoor
open Go.RowKit

/-- four blocks laid one behind the other -/
theorem four_log (w : World) (o p q : Obj) : Below w.heap.size w (((w.alloc o).alloc p).alloc q) ∧ (((w.alloc o).alloc p).alloc q).heap[w.heap.size]? = some o ∧ (((w.alloc o).alloc p).alloc q).heap[w.heap.size + 1]? = some p ∧ (((w.alloc o).alloc p).alloc q).heap[w.heap.size + 1 + 1]? = some q := by
  refine ⟨below_more (below_more (below_more (Below.refl _ w) _) _) _, ?_, ?_, ?_⟩
  · show (((w.heap.push o).push p).push q)[w.heap.size]? = some o
    rw [Array.getElem?_push, if_neg (by simp; omega), Array.getElem?_push, if_neg (by simp), Array.getElem?_push, if_pos rfl]
  · show (((w.heap.push o).push p).push q)[w.heap.size + 1]? = some p
    rw [Array.getElem?_push, if_neg (by simp), Array.getElem?_push, if_pos (by simp)]
  · show (((w.heap.push o).push p).push q)[w.heap.size + 1 + 1]? = some q
    rw [Array.getElem?_push, if_pos (by simp)]

/-- a row of the call's own, made between two sizes of memory -/
def OwnAt (w : World) (t : TypeId) (cs : List Value) (n : Nat) (va : Option Addr) (lo hi : Nat) : Prop :=
  n = 0 ∨ ∃ g r, va = some ⟨g, 0, none⟩ ∧ lo ≤ g ∧ g < hi ∧ BlockIs w g t (cs ++ r)
theorem OwnAt.on {w w' : World} {t : TypeId} {cs : List Value} {n : Nat} {va : Option Addr} {lo hi : Nat} (h : OwnAt w t cs n va lo hi) (hb : Below w.heap.size w w') : OwnAt w' t cs n va lo hi :=
  h.imp id fun ⟨g, r, a, b, c, d⟩ => ⟨g, r, a, b, c, d.on hb d.lt⟩
theorem OwnAt.down {w : World} {t : TypeId} {cs : List Value} {n : Nat} {va : Option Addr} {lo hi lo' hi' : Nat} (h : OwnAt w t cs n va lo hi) (h1 : lo' ≤ lo) (h2 : hi ≤ hi') : OwnAt w t cs n va lo' hi' :=
  h.imp id fun ⟨g, r, a, b, c, d⟩ => ⟨g, r, a, Nat.le_trans h1 b, Nat.lt_of_lt_of_le c h2, d⟩
/-- a cell below is written -/
theorem OwnAt.far {w : World} {t : TypeId} {cs : List Value} {n : Nat} {va : Option Addr} {lo b j : Nat} (h : OwnAt w t cs n va lo w.heap.size) (hb : b < lo) (v : Value) : OwnAt (w.setCell ⟨b, j, none⟩ v) t cs n va lo (w.setCell ⟨b, j, none⟩ v).heap.size := by
  rw [World.size_setCell]
  exact h.imp id fun ⟨g, r, a, c, d, e⟩ => ⟨g, r, a, c, d, e.far (by omega) v⟩
/-- nothing but blocks between two sizes has turned -/
def KeptBut (lo hi : Nat) (w w' : World) : Prop := ∀ j t cs, ¬ (lo ≤ j ∧ j < hi) → BlockIs w j t cs → BlockIs w' j t cs
theorem OwnAt.kept {w w' : World} {t : TypeId} {cs : List Value} {n : Nat} {va : Option Addr} {lo hi lo2 hi2 : Nat} (h : OwnAt w t cs n va lo hi) (hk : KeptBut lo2 hi2 w w') (ho : hi ≤ lo2 ∨ hi2 ≤ lo) : OwnAt w' t cs n va lo hi :=
  h.imp id fun ⟨g, r, a, b, c, d⟩ => ⟨g, r, a, b, c, hk _ _ _ (by omega) d⟩
theorem BlockIs.kept {w w' : World} {g lo hi : Nat} {t : TypeId} {cs : List Value} (h : BlockIs w g t cs) (hk : KeptBut lo hi w w') (ho : g < lo ∨ hi ≤ g) : BlockIs w' g t cs := hk _ _ _ (by omega) h
theorem row_ext {x y : World} {base size n : Nat} {t : TypeId} {v : Value} {xs : List Value} (h : x.ownsRow base t size v n xs) (hb : ∀ g cs, BlockIs x g t cs → BlockIs y g t cs) : y.ownsRow base t size v n xs := by
  refine ⟨h.1, h.2.imp id ?_⟩
  rintro ⟨g, cap, cur, a, b, c, r⟩
  have := hb g cur.toList (by unfold BlockIs; rw [c])
  unfold BlockIs at this
  exact ⟨g, cap, cur, a, b, by rw [this], r⟩
theorem OwnAt.ext {x y : World} {t : TypeId} {cs : List Value} {n : Nat} {va : Option Addr} {lo : Nat} (h : OwnAt x t cs n va lo x.heap.size) (hs : x.heap.size ≤ y.heap.size) (hb : ∀ g r, BlockIs x g t (cs ++ r) → BlockIs y g t (cs ++ r)) : OwnAt y t cs n va lo y.heap.size :=
  h.imp id fun ⟨g, r, a, b, c, d⟩ => ⟨g, r, a, b, Nat.lt_of_lt_of_le c hs, hb g r d⟩
theorem row_block {w : World} {base size n : Nat} {t : TypeId} {v : Value} {xs : List Value} (h : w.ownsRow base t size v n xs) {g : Nat} (hg : v.ownBlock = some g) : ∃ cs, BlockIs w g t cs ∧ base ≤ g := by
  obtain ⟨_, (⟨rfl, _⟩ | ⟨g', cap, cur, rfl, hb, hc, _⟩)⟩ := h
  · cases hg
  · cases hg
    exact ⟨cur.toList, by unfold BlockIs; rw [hc], hb⟩
theorem block_one {w : World} {g : Nat} {t t' : TypeId} {cs cs' : List Value} (h : BlockIs w g t cs) (h' : BlockIs w g t' cs') : t = t' ∧ cs = cs' := by
  unfold BlockIs at h h'
  rw [h] at h'
  simp only [Option.some.injEq, Obj.cells.injEq] at h'
  exact ⟨h'.2.1, by simpa using h'.1⟩
end Go.Proofs.YthkkhmmcgjcedaaDoor

namespace Go.Proofs.YthkkhmmcgjcedaaDoor
open Go.RowKit

theorem dgramR_one (a : DgramD) : ∀ u ∈ dgramEnc a, u.oneCell' = true := by
  intro u hu
  simp only [dgramEnc, List.mem_cons, List.not_mem_nil, or_false] at hu
  rcases hu with rfl | rfl | rfl | rfl | rfl | rfl <;> rfl
theorem dgramR_all (l : List DgramD) : ∀ u ∈ dgramCells l, u.oneCell' = true := by
  intro u hu
  obtain ⟨a, _, h⟩ := List.mem_flatMap.1 hu
  exact dgramR_one a u h
theorem dgramR_snoc (l : List DgramD) (a : DgramD) : dgramCells (l ++ [a]) = dgramCells l ++ dgramEnc a := by simp [dgramCells]
theorem dgramR_append (l m : List DgramD) : dgramCells (l ++ m) = dgramCells l ++ dgramCells m := by simp [dgramCells]
/-- the cells of a list that lies at an address -/
theorem dgrams_cells {w : World} {b off : Nat} {l : List DgramD} (h : ∀ j (hj : j < l.length), w.cell? ⟨b, off + j * 6, none⟩ = some (.int .i64 l[j].src) ∧ w.cell? ⟨b, off + j * 6 + 1, none⟩ = some (.int .i64 l[j].dst) ∧ w.cell? ⟨b, off + j * 6 + 2, none⟩ = some (.int .i64 l[j].ident) ∧ w.cell? ⟨b, off + j * 6 + 3, none⟩ = some (.int .i64 l[j].place) ∧ w.cell? ⟨b, off + j * 6 + 4, none⟩ = some (.bool l[j].more) ∧ w.cell? ⟨b, off + j * 6 + 5, none⟩ = some (.string l[j].body)) :
    ∀ j u, (dgramCells l)[j]? = some u → w.cell? ((⟨b, off, none⟩ : Addr).add j) = some u := by
  intro j u hu
  have hlt : j < (dgramCells l).length := (List.getElem?_eq_some_iff.1 hu).1
  rw [dgramCells_length] at hlt
  have hj : j / 6 < l.length := by omega
  have hr := row_at dgramEnc 6 (fun _ => rfl) l [] (j / 6) (j % 6) hj (Nat.mod_lt _ (by omega))
  rw [List.append_nil, show j / 6 * 6 + j % 6 = j by omega] at hr
  have hu' : (dgramEnc l[j / 6])[j % 6]? = some u := by rw [← hr]; exact hu
  have hadd : (⟨b, off, none⟩ : Addr).add j = ⟨b, off + j, none⟩ := Addr.add_lit _ _ _
  rw [hadd]
  obtain ⟨h0, h1, h2, h3, h4, h5⟩ := h (j / 6) hj
  have h3 : j % 6 = 0 ∨ j % 6 = 1 ∨ j % 6 = 2 ∨ j % 6 = 3 ∨ j % 6 = 4 ∨ j % 6 = 5 := by omega
  rcases h3 with e | e | e | e | e | e
  · rw [e] at hu'
    rw [show off + j = off + j / 6 * 6 by omega, h0]
    exact hu'
  · rw [e] at hu'
    rw [show off + j = off + j / 6 * 6 + 1 by omega, h1]
    exact hu'
  · rw [e] at hu'
    rw [show off + j = off + j / 6 * 6 + 2 by omega, h2]
    exact hu'
  · rw [e] at hu'
    rw [show off + j = off + j / 6 * 6 + 3 by omega, h3]
    exact hu'
  · rw [e] at hu'
    rw [show off + j = off + j / 6 * 6 + 4 by omega, h4]
    exact hu'
  · rw [e] at hu'
    rw [show off + j = off + j / 6 * 6 + 5 by omega, h5]
    exact hu'
theorem dgramR_below {w w2 : World} {base n : Nat} {v : Value} {xs : List Value} (h : w.ownsRow base 36 6 v n xs) (hb : Below w.heap.size w w2) : w2.ownsRow base 36 6 v n xs := by
  refine h.kept (grown_of_below hb none) ?_
  cases v.ownBlock with
  | none => exact Or.inl rfl
  | some g => exact Or.inr (by simp)
theorem dgramR_block {w : World} {base n j : Nat} {v : Value} {xs : List Value} (h : w.ownsRow base 36 6 v n xs) (hv : v.ownBlock = some j) : base ≤ j ∧ ∃ cs, BlockIs w j 36 cs := by
  rcases h.2 with ⟨rfl, _⟩ | ⟨g, cap, cur, rfl, hb, hh, _⟩
  · simp [Value.ownBlock] at hv
  · have : g = j := by simpa [Value.ownBlock] using hv
    subst this
    exact ⟨hb, cur.toList, by unfold BlockIs; rw [hh]⟩
/-- a block of another type stands where a row grows -/
theorem dgramR_other {w w1 : World} {base n g : Nat} {t : TypeId} {v : Value} {xs cs : List Value} (h : BlockIs w g t cs) (hr : w.ownsRow base 36 6 v n xs) (hg : w.grownBy w1 v.ownBlock) (ht : t ≠ 36) : BlockIs w1 g t cs := by
  have hlt := h.lt
  unfold BlockIs at h ⊢
  rw [hg.block g hlt ?_]
  · exact h
  · intro e
    obtain ⟨_, cs2, h2⟩ := dgramR_block hr e.symm
    unfold BlockIs at h2
    rw [h] at h2
    simp only [Option.some.injEq, Obj.cells.injEq] at h2
    exact ht h2.2.1
theorem dgramR_down {w w1 w2 : World} {m base n : Nat} {v : Value} {xs : List Value} (h : Below m w w1) (hr : w1.ownsRow base 36 6 v n xs) (hg : w1.grownBy w2 v.ownBlock) (hb : m ≤ base) (hm : m ≤ w1.heap.size) : Below m w w2 :=
  h.grown hg hm (fun k e => by have := (dgramR_block hr e).1; omega)
theorem dgramR_nil (w : World) (m : Nat) (hm : m ≤ w.heap.size) : World.ownsRow (w.alloc (.cells #[] 36)) m 36 6 (.slice (some ⟨w.heap.size, 0, none⟩) 0 0) 0 (dgramCells []) :=
  row_down (World.ownsRow_made w (size := 6) (e := 36) #[] 0 (Nat.le_refl _) (Nat.zero_le _) rfl) hm
/-- one that is laid by itself -/
theorem dgramR_new (w : World) (a : DgramD) : ∀ j u, (dgramEnc a)[j]? = some u → (w.alloc (.cells #[.int .i64 a.src, .int .i64 a.dst, .int .i64 a.ident, .int .i64 a.place, .bool a.more, .string a.body] 36)).cell? ((⟨w.heap.size, 0, none⟩ : Addr).add j) = some u := by
  intro j u hu
  rw [Addr.add_lit, Nat.zero_add]
  exact (show BlockIs _ _ 36 (dgramEnc a) from heap_alloc_new w _).cell hu
/-- a list behind a row of the call's own -/
theorem append_dgrams {W : World} {v : Value} {base c : Nat} {L M : List DgramD} {ao : Option Addr} (hn : L.length + M.length ≤ 2097153) (hbase : base ≤ W.heap.size) (hr : W.ownsRow base 36 6 v L.length (dgramCells L)) (hM : DgramsAt W ao M) :
    ∃ v' W', (Builtin.append_ #[37, 37] 37 #[v, .slice ao M.length c]).run Tryd.prog W = .ok v' W' ∧ W'.ownsRow base 36 6 v' (L ++ M).length (dgramCells (L ++ M)) ∧ W.grownBy W' v.ownBlock := by
  obtain ⟨i0, hi, hz0, hz1, hz2⟩ := info_parts toDgram_info
  rw [List.length_append, dgramR_append]
  cases ao with
  | none =>
    have hM0 : M = [] := by
      by_cases hne : M = []
      · exact hne
      · obtain ⟨b, off, e, _⟩ := hM hne
        cases e
    subst hM0
    refine ⟨v, W, ?_, by simpa [dgramCells] using hr, World.grownBy.refl _ _⟩
    obtain ⟨va, vc, rfl⟩ := row_shape hr
    have hlc : L.length ≤ vc := by
      rcases hr.2 with ⟨hq, hz⟩ | ⟨_, cp, _, hq, _, _, hle, _⟩
      · omega
      · simp only [Value.slice.injEq] at hq
        omega
    cases va <;> simp [Builtin.append_, run_underlying Tryd.underlying37, sizeOf, typeInfo, hi, Builtin.lenOf, Builtin.firstCells, storeCells, hlc]
  | some ad =>
    have hnews : ∀ j u, (dgramCells M)[j]? = some u → W.cell? (ad.add j) = some u := by
      by_cases hne : M = []
      · subst hne
        intro j u hu
        simp [dgramCells] at hu
      · obtain ⟨b, off, e, hc⟩ := hM hne
        cases e
        exact dgrams_cells hc
    obtain ⟨v', W', h1, h2, h3, _⟩ := run_append_own (P := Tryd.prog) W base 37 37 36 i0 _ 6 56 Tryd.underlying37 hi hz0 hz1 hz2 rfl (by decide) v L.length _ hr ad M.length c (dgramCells M) (dgramCells_length M) hnews (dgramR_all M) (by unfold maxLen; omega) (by omega) hbase
    exact ⟨v', W', h1, h2, h3⟩
theorem wpList_append_dgrams {w : World} {ops : Array Oper} {rest : List Oper} {o : Oper} {a : Act} {Q : Exit → Act → World → Prop} (hgd : o.guard = none) (s x : Operand)
    (ho : o.op = .call { callee := .builtin .append, args := #[s, x], argTypes := #[37, 37] }) (hty : o.type = 37) {v : Value} {base c m N : Nat} {L M : List DgramD} {ao : Option Addr} (hs : a.eval s = v) (hx : a.eval x = .slice ao m c)
    (hm : M.length = m) (hN : (L ++ M).length = N) (hn : N ≤ 2097153) (hbase : base ≤ w.heap.size) (hr : w.ownsRow base 36 6 v L.length (dgramCells L)) (hM : DgramsAt w ao M)
    (h : ∀ va vc w1, w1.ownsRow base 36 6 (.slice va N vc) N (dgramCells (L ++ M)) → w.grownBy w1 v.ownBlock → wpList Tryd.prog ops Q rest (a.put o.dst (.slice va N vc)) w1) : wpList Tryd.prog ops Q (o :: rest) a w := by
  subst hm hN
  obtain ⟨v', W', hrun, h2, h3⟩ := append_dgrams (c := c) (by rw [← List.length_append]; exact hn) hbase hr hM
  obtain ⟨va, vc, rfl⟩ := row_shape h2
  refine wpList_plain hgd fun K hK => ?_
  unfold Oper.wp
  simp [execOp, ho, hty, resolve, invoke, builtin, hs, hx, hrun, Result.andThen]
  have h4 := h va vc W' h2 h3
  rw [List.length_append] at h4
  exact hK _ _ h4
/-- they lie there -/
theorem dgramR_at {w : World} {base : Nat} {va : Option Addr} {vc : Nat} {l : List DgramD} (h : w.ownsRow base 36 6 (.slice va l.length vc) l.length (dgramCells l)) : DgramsAt w va l := by
  rcases h.2 with ⟨hv, h0⟩ | ⟨g, cp, cur, hv, _, hh, _, _, _, ht⟩
  · exact fun hne => absurd (List.length_eq_zero_iff.1 h0) hne
  · simp only [Value.slice.injEq] at hv
    obtain ⟨rfl, _, rfl⟩ := hv
    have hcur : cur.toList = dgramCells l ++ cur.toList.drop (l.length * 6) := by rw [← ht, List.take_append_drop]
    exact dgramsAt_of (r := cur.toList.drop (l.length * 6)) (by unfold BlockIs; rw [hh, ← hcur])
end Go.Proofs.YthkkhmmcgjcedaaDoor

namespace Go.Proofs.YthkkhmmcgjcedaaDoor
open Go.RowKit

def CutDid (A : List DgramD) (ok : Bool) (w : World) (e : Ending) (w' : World) : Prop :=
  ∃ va vc, e = .returned (.tuple #[.slice va A.length vc, .bool ok]) ∧ A.length ≤ vc ∧ OwnAt w' 36 (dgramCells A) A.length va w.heap.size w'.heap.size ∧ Below w.heap.size w w'
theorem at_of_row {w : World} {base size n : Nat} {t : TypeId} {va : Option Addr} {vc : Nat} {cs : List Value} (h : w.ownsRow base t size (.slice va n vc) n cs) : n ≤ vc ∧ OwnAt w t cs n va base w.heap.size := by
  rcases h.2 with ⟨hv, h0⟩ | ⟨g, cp, cur, hv, hb, hh, hle, _, _, ht⟩
  · exact ⟨by omega, Or.inl h0⟩
  · simp only [Value.slice.injEq] at hv
    obtain ⟨rfl, _, rfl⟩ := hv
    have hcur : cur.toList = cs ++ cur.toList.drop (n * size) := by rw [← ht, List.take_append_drop]
    have hk : BlockIs w g t (cs ++ cur.toList.drop (n * size)) := by unfold BlockIs; rw [hh, ← hcur]
    exact ⟨hle, Or.inr ⟨g, _, rfl, hb, hk.lt, hk⟩⟩
theorem OwnAt.dgrams {w : World} {l : List DgramD} {va : Option Addr} {lo hi : Nat} (h : OwnAt w 36 (dgramCells l) l.length va lo hi) : DgramsAt w va l := by
  rcases h with h | ⟨g, r, rfl, _, _, h⟩
  · exact fun h0 => absurd (List.length_eq_zero_iff.1 h) h0
  · exact dgramsAt_of h
theorem cutD_no {d : DgramD} {size : Int} (h : cutOk d size = false) : cutD d size = [] := by rw [cutD, if_neg (by simp [h])]
theorem cutD_yes {d : DgramD} {size : Int} (h : cutOk d size = true) : cutD d size = cutTo d (size.toNat / 8 * 8) (nParts d (size.toNat / 8 * 8)) := by rw [cutD, if_pos h]
theorem cutD_few (d : DgramD) (size : Int) : (cutD d size).length ≤ 20 := by
  cases h : cutOk d size with
  | false => rw [cutD_no h]; exact Nat.zero_le _
  | true =>
    rw [cutD_yes h, cutTo_length]
    simp only [cutOk, Bool.and_eq_true, within_iff] at h
    have := dgramOk_bd h.1
    exact nParts_le (by omega) (by omega)
end Go.Proofs.YthkkhmmcgjcedaaDoor

namespace Go.Proofs.YthkkhmmcgjcedaaDoor
open Go.RowKit

theorem wrap_info9 : (Tryd.prog.info? 9).map (fun i => (i.zero, i.size, i.bytes)) = some (some (.string ByteArray.empty), 1, 16) := by kernel_rfl
def WrapDid (A : List ByteArray) (ok : Bool) (w : World) (e : Ending) (w' : World) : Prop :=
  ∃ v, e = .returned (.tuple #[v, .bool ok]) ∧ w'.ownsRow w.heap.size 9 1 v A.length (st A) ∧ Below w.heap.size w w'
theorem texts_below {w w2 : World} {base n : Nat} {v : Value} {xs : List Value} (h : w.ownsRow base 9 1 v n xs) (hb : Below w.heap.size w w2) : w2.ownsRow base 9 1 v n xs := by
  refine h.kept (grown_of_below hb none) ?_
  cases v.ownBlock with
  | none => exact Or.inl rfl
  | some g => exact Or.inr (by simp)
/-- a frame is put behind the others -/
theorem wrap_step {L : List DgramD} {f : DgramD → ByteArray} {k : Nat} {w0 wr w1 : World} {v v' : Value} {B : Obj} {T : ByteArray} (hk : k < L.length) (hT : f L[k] = T) (hown : wr.ownsRow w0.heap.size 9 1 v k (st ((L.map f).take k))) (hb : Below w0.heap.size w0 wr)
    (hown' : w1.ownsRow w0.heap.size 9 1 v' (k + 1) (st ((L.map f).take k) ++ [.string T])) (hgrow : (wr.alloc B).grownBy w1 v.ownBlock) :
    w1.ownsRow w0.heap.size 9 1 v' (k + 1) (st ((L.map f).take (k + 1))) ∧ Below w0.heap.size w0 w1 := by
  refine ⟨?_, (hb.alloc hb.size _).grown hgrow (by have := hb.size; simp; omega) (fun j hj => (hown.lt j hj).1)⟩
  rw [List.take_succ_eq_append_getElem (by rw [List.length_map]; exact hk), List.getElem_map, st_append, hT]
  exact hown'
end Go.Proofs.YthkkhmmcgjcedaaDoor

namespace Go.Proofs.YthkkhmmcgjcedaaDoor
open Go.RowKit

def two2 (a b : Nat) : ByteArray := ⟨#[UInt8.ofNat a, UInt8.ofNat b]⟩
theorem two2_text {W : World} {g a b : Nat} (ha : a ≤ 255) (hb : b ≤ 255) (h : BlockIs W g 5 [.int .u8 (a : Int), .int .u8 (b : Int)]) : (convert 46 9 (.slice (some ⟨g, 0, none⟩) 2 2)).run Tryd.prog W = .ok (.string (two2 a b)) W :=
  run_convert_bytes_back _ 46 9 5 ⟨g, 0, none⟩ 2 [UInt8.ofNat a, UInt8.ofNat b] Tryd.underlying46 Tryd.underlying5 Tryd.underlying9 fun j hj => by
    have ea : ((UInt8.ofNat a).toNat : Int) = (a : Int) := by rw [UInt8.toNat_ofNat']; omega
    have eb : ((UInt8.ofNat b).toNat : Int) = (b : Int) := by rw [UInt8.toNat_ofNat']; omega
    have h0 := h.cell (j := 0) rfl
    have h1 := h.cell (j := 1) rfl
    rw [← ea] at h0
    rw [← eb] at h1
    simp at hj
    match j, hj with
    | 0, _ => exact h0
    | 1, _ => exact h1
theorem two2_new (W : World) {a b : Nat} (ha : a ≤ 255) (hb : b ≤ 255) : (convert 46 9 (.slice (some ⟨W.heap.size, 0, none⟩) 2 2)).run Tryd.prog (W.alloc (.cells #[.int .u8 (a : Int), .int .u8 (b : Int)] 5)) = .ok (.string (two2 a b)) (W.alloc (.cells #[.int .u8 (a : Int), .int .u8 (b : Int)] 5)) :=
  two2_text ha hb (heap_alloc_new W _)
end Go.Proofs.YthkkhmmcgjcedaaDoor

namespace Go.Proofs.YthkkhmmcgjcedaaDoor
open Go.RowKit

theorem one1_text {W : World} {g a : Nat} (ha : a ≤ 255) (h : BlockIs W g 5 [.int .u8 (a : Int)]) : (convert 46 9 (.slice (some ⟨g, 0, none⟩) 1 1)).run Tryd.prog W = .ok (.string ⟨#[UInt8.ofNat a]⟩) W :=
  run_convert_bytes_back _ 46 9 5 ⟨g, 0, none⟩ 1 [UInt8.ofNat a] Tryd.underlying46 Tryd.underlying5 Tryd.underlying9 fun j hj => by
    have ea : ((UInt8.ofNat a).toNat : Int) = (a : Int) := by rw [UInt8.toNat_ofNat']; omega
    have h0 := h.cell (j := 0) rfl
    rw [← ea] at h0
    simp at hj
    subst hj
    exact h0
end Go.Proofs.YthkkhmmcgjcedaaDoor

namespace Go.Proofs.YthkkhmmcgjcedaaDoor
open Go.RowKit

theorem head3_text {W : World} {g a b c : Nat} (ha : a ≤ 255) (hb : b ≤ 255) (hc : c ≤ 255) (h : BlockIs W g 5 [.int .u8 (a : Int), .int .u8 (b : Int), .int .u8 (c : Int)]) : (convert 46 9 (.slice (some ⟨g, 0, none⟩) 3 3)).run Tryd.prog W = .ok (.string (head3 a b c)) W :=
  run_convert_bytes_back _ 46 9 5 ⟨g, 0, none⟩ 3 [UInt8.ofNat a, UInt8.ofNat b, UInt8.ofNat c] Tryd.underlying46 Tryd.underlying5 Tryd.underlying9 fun j hj => by
    have ea : ((UInt8.ofNat a).toNat : Int) = (a : Int) := by rw [UInt8.toNat_ofNat']; omega
    have eb : ((UInt8.ofNat b).toNat : Int) = (b : Int) := by rw [UInt8.toNat_ofNat']; omega
    have ec : ((UInt8.ofNat c).toNat : Int) = (c : Int) := by rw [UInt8.toNat_ofNat']; omega
    have h0 := h.cell (j := 0) rfl
    have h1 := h.cell (j := 1) rfl
    have h2 := h.cell (j := 2) rfl
    rw [← ea] at h0
    rw [← eb] at h1
    rw [← ec] at h2
    simp at hj
    match j, hj with
    | 0, _ => exact h0
    | 1, _ => exact h1
    | 2, _ => exact h2
theorem head3_new (W : World) {a b c : Nat} (ha : a ≤ 255) (hb : b ≤ 255) (hc : c ≤ 255) : (convert 46 9 (.slice (some ⟨W.heap.size, 0, none⟩) 3 3)).run Tryd.prog (W.alloc (.cells #[.int .u8 (a : Int), .int .u8 (b : Int), .int .u8 (c : Int)] 5)) = .ok (.string (head3 a b c)) (W.alloc (.cells #[.int .u8 (a : Int), .int .u8 (b : Int), .int .u8 (c : Int)] 5)) :=
  head3_text ha hb hc (heap_alloc_new W _)
end Go.Proofs.YthkkhmmcgjcedaaDoor

namespace Go.Proofs.YthkkhmmcgjcedaaDoor
open Go.RowKit

theorem take_one (s : ByteArray) (k : Nat) (h : k < s.size) : s.data.toList.take (k + 1) = s.data.toList.take k ++ [s[k]] := by
  rw [List.take_succ_eq_append_getElem (by simpa using h)]; rfl

theorem ret_u32 {a b : Nat} (h : a = b) : Ending.returned (.int .u32 a) = .returned (.int .u32 b) := by rw [h]

end Go.Proofs.YthkkhmmcgjcedaaDoor

namespace Go.Proofs.YthkkhmmcgjcedaaDoor
open Go.RowKit

theorem half_xor (a b : Nat) : half (a ^^^ b) = half a ^^^ half b := by
  have hm : (a ^^^ b) % 2 = (a % 2 + b % 2) % 2 := by
    have h := Nat.testBit_xor a b 0
    simp only [Nat.testBit_zero] at h
    have e1 : a % 2 = 0 ∨ a % 2 = 1 := by omega
    have e2 : b % 2 = 0 ∨ b % 2 = 1 := by omega
    have e3 : (a ^^^ b) % 2 = 0 ∨ (a ^^^ b) % 2 = 1 := by omega
    rcases e1 with e1 | e1 <;> rcases e2 with e2 | e2 <;> rcases e3 with e3 | e3 <;> rw [e1, e2, e3] at h <;> simp at h <;> omega
  have hd : (a ^^^ b) / 2 = a / 2 ^^^ b / 2 := by
    apply Nat.eq_of_testBit_eq
    intro i
    simp only [Nat.testBit_xor, Nat.testBit_div_two]
  unfold half
  rw [hm, hd]
  have e1 : a % 2 = 0 ∨ a % 2 = 1 := by omega
  have e2 : b % 2 = 0 ∨ b % 2 = 1 := by omega
  rcases e1 with e1 | e1 <;> rcases e2 with e2 | e2 <;> simp only [e1, e2]
  · rfl
  · simp [Nat.xor_assoc]
  · have : a / 2 ^^^ b / 2 ^^^ 3558460437 = a / 2 ^^^ 3558460437 ^^^ b / 2 := by rw [Nat.xor_assoc, Nat.xor_assoc, Nat.xor_comm (b / 2)]
    simpa using this
  · have : a / 2 ^^^ 3558460437 ^^^ (b / 2 ^^^ 3558460437) = a / 2 ^^^ b / 2 := by
      rw [Nat.xor_comm (b / 2), ← Nat.xor_assoc, Nat.xor_assoc (a / 2), Nat.xor_self, Nat.xor_zero]
    simp [this]

theorem hsN_xor (k a b : Nat) : hsN k (a ^^^ b) = hsN k a ^^^ hsN k b := by
  induction k with
  | zero => rfl
  | succ k ih =>
    show half (hsN k (a ^^^ b)) = _
    rw [ih, half_xor]
    rfl

theorem half_even (y : Nat) : half (2 * y) = y := by
  unfold half
  rw [if_neg (by omega)]
  omega

theorem low_high (x : Nat) : x = (16 * (x / 16)) ^^^ (x % 16) := by
  apply Nat.eq_of_testBit_eq
  intro i
  rw [Nat.testBit_xor, show 16 * (x / 16) = 2 ^ 4 * (x / 2 ^ 4) from rfl, show x % 16 = x % 2 ^ 4 from rfl, Nat.testBit_two_pow_mul, Nat.testBit_mod_two_pow, Nat.testBit_div_two_pow]
  by_cases h : 4 ≤ i
  · have : ¬ i < 4 := by omega
    simp [h, this]
  · have : i < 4 := by omega
    simp [h, this]

theorem hsN_add (k j x : Nat) : hsN (k + j) x = hsN j (hsN k x) := by
  induction j with
  | zero => rfl
  | succ j ih => show half (hsN (k + j) x) = half (hsN j (hsN k x)); rw [ih]

theorem four_high (q : Nat) : hsN 4 (16 * q) = q := by
  show half (half (half (half (16 * q)))) = q
  rw [show 16 * q = 2 * (2 * (2 * (2 * q))) by omega, half_even, half_even, half_even, half_even]

theorem four_steps (x : Nat) : hsN 4 x = x / 16 ^^^ hsN 4 (x % 16) := by
  have h := congrArg (hsN 4) (low_high x)
  rw [hsN_xor, four_high] at h
  exact h

def stepsTab : List Int := [0, 1166650509, 2333301018, 3466261911, 3189058079, 4221339282, 889615109, 1888477064, 3558460437, 2442158232, 1594529039, 444807554, 1779230218, 797264519, 3776954128, 2761298845]
theorem stepsTab_at : ∀ r : Nat, r < 16 → stepsTab.getD r 0 = ((hsN 4 r : Nat) : Int) := by decide +kernel
end Go.Proofs.YthkkhmmcgjcedaaDoor
