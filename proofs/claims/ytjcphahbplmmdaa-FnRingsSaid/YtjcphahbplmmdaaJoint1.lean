/-
  Plain facts on the bytes of a number in sevens and on rows of bytes in memory; nothing of the program stands here.
  A block of memory of the call's own: its cells as a list; rows of elements of so many cells each.
  Slot as data; rows of them in memory, one behind the other.
  Rings as data: how many slots are the card's, what a right ring is.
  A wheel as data: the slots of a ring in an array of eight, and three numbers.
  What is posted and taken, as data.
  A right ring as a queue: texts from Tail on, going round.
  Rows of the call's own that grow: what stands behind an append.
  Rows of the call's own between two sizes of memory; blocks laid one behind the other.
  Plain facts on rows that a call owns; nothing of the program stands here.
  Plain facts on figures; nothing of the program stands here.
  Plain facts on the values of figures; nothing of the program stands here.
  Plain facts on decimal figures; nothing of the program stands here.
  A wheel in memory: slots go over by copy, a wheel is read and written whole.
  A number within bounds; nothing of the program stands here.
  A wheel in memory, one slot or one number of it written.
  What PostRing and TakeRing answer, in memory of the call's own.
-/
import Derived.WalkKit
import Derived.RowKit
import Derived.WalkSmall
import Derived.BigQuiet
import Derived.Deep.LoopGhost
import Derived.Laws.AppendOwn
import Derived.Maps.AppendAt
import Derived.Test.YtjcphahbplmmdaaRows
import Derived.Laws.CopyOwn
import Derived.Laws.Tables
import Derived.Deep.MidRow
namespace Go.Proofs.Ytjcphahbplmmdaa
open Go.RowKit

/-- the bytes of n, seven bits a byte, the least first (with so many steps at the most) -/
def vbF : Nat → Nat → List UInt8
  | 0, n => [UInt8.ofNat n]
  | f + 1, n => if n ≤ 127 then [UInt8.ofNat n] else UInt8.ofNat (n % 128 + 128) :: vbF f (n / 128)
/-- the bytes of n, seven bits a byte, the least first -/
def vb (n : Nat) : List UInt8 := vbF n n

theorem vbF_eq : ∀ (f g n : Nat), n ≤ f → n ≤ g → vbF f n = vbF g n
  | 0, 0, _, _, _ => rfl
  | 0, g + 1, n, h, _ => by
    obtain rfl : n = 0 := by omega
    rw [vbF, vbF, if_pos (by omega)]
  | f + 1, 0, n, _, h => by
    obtain rfl : n = 0 := by omega
    rw [vbF, vbF, if_pos (by omega)]
  | f + 1, g + 1, n, h1, h2 => by
    rw [vbF, vbF]
    by_cases h : n ≤ 127
    · rw [if_pos h, if_pos h]
    · rw [if_neg h, if_neg h, vbF_eq f g (n / 128) (by omega) (by omega)]
theorem vb_small {n : Nat} (h : n ≤ 127) : vb n = [UInt8.ofNat n] := by
  rw [vb, vbF_eq n (n + 1) n (Nat.le_refl _) (by omega), vbF, if_pos h]
theorem vb_big {n : Nat} (h : 127 < n) : vb n = UInt8.ofNat (n % 128 + 128) :: vb (n / 128) := by
  rw [vb, vbF_eq n (n + 1) n (Nat.le_refl _) (by omega), vbF, if_neg (by omega), vb, vbF_eq n (n / 128) (n / 128) (by omega) (Nat.le_refl _)]

theorem vb_pos (n : Nat) : 0 < (vb n).length := by
  by_cases h : n ≤ 127
  · rw [vb_small h]; simp
  · rw [vb_big (by omega)]; simp

theorem vb_le (n : Nat) : (vb n).length ≤ n + 1 := by
  induction n using Nat.strongRecOn with
  | _ n ih =>
    by_cases h : n ≤ 127
    · rw [vb_small h]; simp
    · rw [vb_big (by omega)]
      have := ih (n / 128) (by omega)
      simp only [List.length_cons]
      omega

/-- bytes as the cells of a row -/
def cs (l : List UInt8) : List Value := l.map fun b => Value.int .u8 (b.toNat : Int)

theorem cs_append (l r : List UInt8) : cs (l ++ r) = cs l ++ cs r := by simp [cs]
theorem cs_length (l : List UInt8) : (cs l).length = l.length := by simp [cs]
theorem cs_one {x : Int} (h0 : 0 ≤ x) (h1 : x ≤ 255) : [Value.int .u8 x] = cs [UInt8.ofNat x.toNat] := by
  simp [cs]
  omega

/-- a row that the call owns, turned into a text -/
theorem text_of_row {P : Program} {w : World} {base : Nat} {v : Value} {l : List UInt8} {src dst e : TypeId} (hs : P.underlying src = some (.slice e)) (he : P.underlying e = some (.int .u8)) (hd : P.underlying dst = some .string)
    (h : w.ownsRow base e 1 v l.length (cs l)) : (convert src dst v).run P w = .ok (.string ⟨l.toArray⟩) w := by
  obtain ⟨h1, h2⟩ := h
  rcases h2 with ⟨hv, hn⟩ | ⟨g, cap, cur, hv, hg, hh, hle, hm, hsz, hx⟩
  · have hl : l = [] := by cases l with | nil => rfl | cons a r => simp at hn
    subst hl hv
    exact run_convert_bytes_nil w src e hs he 0 0 dst hd
  · subst hv
    refine run_convert_bytes_back w src dst e ⟨g, 0, none⟩ cap l hs he hd fun j hj => ?_
    have hu : (cs l)[j]? = some (.int .u8 (l[j].toNat : Int)) := by simp [cs, hj]
    exact World.ownsRow.cells (w := w) (base := base) (e := e) (size := 1) ⟨h1, Or.inr ⟨g, cap, cur, rfl, hg, hh, hle, hm, hsz, hx⟩⟩ rfl j _ hu

/-- a piece of a text, its bounds as whole numbers -/
theorem slice_nat {P : Program} {t : TypeId} (h : P.underlying t = some .string) (s : ByteArray) (a b : Nat) (x y : Int) (hx : x = a) (hy : y = b) (hab : a ≤ b) (hb : b ≤ s.size) (w : World) :
    (Instr.slice t (.string s) (some (.int .i64 x)) (some (.int .i64 y)) none).run P w = .ok (.string (s.extract a b)) w := by
  subst hx hy
  rw [run_slice_string w t s .i64 .i64 a b h (by omega) (by omega) (by omega)]
  simp

theorem extract_eq (s : ByteArray) (a b : Nat) : (s.extract a b).data.toList = (s.data.toList.drop a).take (b - a) := by
  simp [ByteArray.extract, ByteArray.copySlice]

theorem var_step {n m : Nat} {acc : List UInt8} {w wr w1 : World} {v v' : Value} (hm : 127 < m) (hacc : acc ++ vb m = vb n) (hown : wr.ownsRow w.heap.size 5 1 v acc.length (cs acc))
    (hown' : w1.ownsRow w.heap.size 5 1 v' (acc.length + 1) (cs acc ++ [.int .u8 ((m : Int) % 128 + 128)])) (hgrow : (wr.alloc (.cells #[.int .u8 ((m : Int) % 128 + 128)] 5)).grownBy w1 v.ownBlock) (hb : Below w.heap.size w wr) :
    (acc ++ [UInt8.ofNat (m % 128 + 128)]) ++ vb (m / 128) = vb n ∧ w1.ownsRow w.heap.size 5 1 v' (acc ++ [UInt8.ofNat (m % 128 + 128)]).length (cs (acc ++ [UInt8.ofNat (m % 128 + 128)])) ∧ Below w.heap.size w w1 := by
  refine ⟨by rw [← hacc, vb_big hm]; simp, ?_, (hb.alloc hb.size _).grown hgrow (by have := hb.size; simp; omega) (fun k hk => (hown.lt k hk).1)⟩
  have e : [Value.int .u8 ((m : Int) % 128 + 128)] = cs [UInt8.ofNat (m % 128 + 128)] := by
    rw [cs_one (by omega) (by omega)]
    have : ((m : Int) % 128 + 128).toNat = m % 128 + 128 := by omega
    rw [this]
  rw [e, ← cs_append] at hown'
  simpa using hown'

theorem var_end {n m : Nat} {acc : List UInt8} {w wr w1 : World} {v v' : Value} (hm : m ≤ 127) (hacc : acc ++ vb m = vb n) (hown : wr.ownsRow w.heap.size 5 1 v acc.length (cs acc))
    (hown' : w1.ownsRow w.heap.size 5 1 v' (acc.length + 1) (cs acc ++ [.int .u8 (m : Int)])) (hgrow : (wr.alloc (.cells #[.int .u8 (m : Int)] 5)).grownBy w1 v.ownBlock) (hb : Below w.heap.size w wr) :
    w1.ownsRow w.heap.size 5 1 v' (vb n).length (cs (vb n)) ∧ Below w.heap.size w w1 := by
  refine ⟨?_, (hb.alloc hb.size _).grown hgrow (by have := hb.size; simp; omega) (fun k hk => (hown.lt k hk).1)⟩
  have e : [Value.int .u8 (m : Int)] = cs [UInt8.ofNat m] := by
    rw [cs_one (by omega) (by omega)]
    simp
  rw [e, ← cs_append, ← vb_small hm, hacc] at hown'
  have hl : acc.length + 1 = (vb n).length := by rw [← hacc, vb_small hm]; simp
  rw [hl] at hown'
  exact hown'

end Go.Proofs.Ytjcphahbplmmdaa

namespace Go.Proofs.Ytjcphahbplmmdaa
open Go.RowKit

/-- hidden from the walk -/
theorem hid {p : Prop} (h : p) : Hid p := h
theorem below_more {w w' : World} (h : Below w.heap.size w w') (o : Obj) : Below w.heap.size w (w'.alloc o) := h.alloc h.size o
theorem below_via {w w1 w2 : World} (h : Below w.heap.size w w1) (h2 : Below w1.heap.size w1 w2) : Below w.heap.size w w2 := h.trans (h2.mono h.size)

/-- block g holds just these cells, of elements of type t -/
def BlockIs (w : World) (g : Nat) (t : TypeId) (cs : List Value) : Prop := w.heap[g]? = some (.cells cs.toArray t (0, 0))

theorem BlockIs.lt {w : World} {g : Nat} {t : TypeId} {cs : List Value} (h : BlockIs w g t cs) : g < w.heap.size := by
  rcases Nat.lt_or_ge g w.heap.size with q | q
  · exact q
  · rw [BlockIs, Array.getElem?_eq_none q] at h; cases h
theorem BlockIs.cell {w : World} {g : Nat} {t : TypeId} {cs : List Value} (h : BlockIs w g t cs) {j : Nat} {v : Value} (hj : cs[j]? = some v) : w.cell? ⟨g, j, none⟩ = some v := by
  unfold BlockIs at h
  simp [World.cell?, h, hj]
theorem BlockIs.thaw {w : World} {g : Nat} {t : TypeId} {cs : List Value} (h : BlockIs w g t cs) (j : Nat) : w.frozen? ⟨g, j, none⟩ = false := by
  unfold BlockIs at h
  simp [World.frozen?, h]
theorem BlockIs.set {w : World} {g : Nat} {t : TypeId} {cs : List Value} (h : BlockIs w g t cs) (j : Nat) (v : Value) : BlockIs (w.setCell ⟨g, j, none⟩ v) g t (cs.set j v) := by
  unfold BlockIs at h ⊢
  simp only [World.setCell]
  rw [Array.getElem?_modify, if_pos rfl, h]
  simp [Array.setIfInBounds]
  exact fun hj => (List.set_eq_of_length_le hj).symm
theorem BlockIs.far {w : World} {g : Nat} {t : TypeId} {cs : List Value} (h : BlockIs w g t cs) {b j : Nat} (hb : b ≠ g) (v : Value) : BlockIs (w.setCell ⟨b, j, none⟩ v) g t cs := by
  unfold BlockIs at h ⊢
  simp only [World.setCell]
  rw [Array.getElem?_modify, if_neg hb]
  exact h
theorem BlockIs.on {w w' : World} {g : Nat} {t : TypeId} {cs : List Value} (h : BlockIs w g t cs) {B : Nat} (hb : Below B w w') (hg : g < B) : BlockIs w' g t cs := by
  unfold BlockIs
  rw [hb.block g hg]
  exact h
theorem BlockIs.made {w' : World} {g base : Nat} {t : TypeId} {n size : Nat} {xs : List Value} (h : w'.ownsRow base t size (.slice (some ⟨g, 0, none⟩) n n) n xs) : BlockIs w' g t xs := by
  obtain ⟨hx, (⟨h1, _⟩ | ⟨g', cap, cur, h1, _, hg, _, _, hs, ht⟩)⟩ := h
  · cases h1
  · cases h1
    unfold BlockIs
    rw [hg]
    have : cur.toList = xs := by rw [← ht, List.take_of_length_le (by simp [hs])]
    rw [← this]

/-- a cell of a row of elements of m cells each -/
theorem row_at {α : Type} (enc : α → List Value) (m : Nat) (hm : ∀ a, (enc a).length = m) (l : List α) (r : List Value) (j c : Nat) (hj : j < l.length) (hc : c < m) : (l.flatMap enc ++ r)[j * m + c]? = (enc l[j])[c]? := by
  induction l generalizing j with
  | nil => simp at hj
  | cons a l ih =>
    cases j with
    | zero =>
      simp only [List.flatMap_cons, Nat.zero_mul, Nat.zero_add, List.getElem_cons_zero, List.append_assoc]
      rw [List.getElem?_append_left (by rw [hm]; exact hc)]
    | succ j =>
      simp only [List.flatMap_cons, List.getElem_cons_succ, List.append_assoc]
      rw [List.getElem?_append_right (by rw [hm, Nat.succ_mul]; omega), hm, show (j + 1) * m + c - m = j * m + c by rw [Nat.succ_mul]; omega]
      exact ih j (by simpa using hj)
theorem row_length {α : Type} (enc : α → List Value) (m : Nat) (hm : ∀ a, (enc a).length = m) (l : List α) : (l.flatMap enc).length = l.length * m := by
  induction l with
  | nil => simp
  | cons a l ih => simp only [List.flatMap_cons, List.length_append, hm, ih, List.length_cons, Nat.succ_mul]; omega
/-- three cells of a list, written -/
theorem set_three (p : List Value) (a b c x y z : Value) (r : List Value) : (((p ++ x :: y :: z :: r).set p.length a).set (p.length + 1) b).set (p.length + 2) c = p ++ a :: b :: c :: r := by
  rw [List.set_append_right _ _ (Nat.le_refl _), List.set_append_right _ _ (by omega), List.set_append_right _ _ (by omega)]
  simp
end Go.Proofs.Ytjcphahbplmmdaa

namespace Go.Proofs.Ytjcphahbplmmdaa
open Go.RowKit

structure SlotD where
  own : Int
  text : ByteArray
/-- numbers that are numbers, texts that are texts -/
def SlotD.Fits (e : SlotD) : Prop := (-9223372036854775808 ≤ e.own ∧ e.own ≤ 9223372036854775807) ∧ e.text.size ≤ maxLen
def slotEnc (e : SlotD) : List Value := [.int .i64 e.own, .string e.text]
/-- the cells of a row -/
def slotCells (l : List SlotD) : List Value := l.flatMap slotEnc
theorem slotCells_length (l : List SlotD) : (slotCells l).length = l.length * 2 := row_length slotEnc 2 (fun _ => rfl) l
theorem slotCells_take (l : List SlotD) (k : Nat) (h : k < l.length) : slotCells (l.take (k + 1)) = slotCells (l.take k) ++ slotEnc l[k] := by
  rw [List.take_succ_eq_append_getElem h, slotCells, slotCells, List.flatMap_append]
  simp
/-- how many letters -/
def slotOne (e : SlotD) : Int := (e.text.size : Int)
theorem slotOne_nonneg (e : SlotD) : 0 ≤ slotOne e := by unfold slotOne; omega
def slotBulk : List SlotD → Int
  | [] => 0
  | f :: l => slotOne f + slotBulk l
theorem slotBulk_nonneg (l : List SlotD) : 0 ≤ slotBulk l := by
  induction l with
  | nil => exact Int.le_refl 0
  | cons f l ih => have := slotOne_nonneg f; simp only [slotBulk]; omega
theorem slotBulk_take (l : List SlotD) (k : Nat) (h : k < l.length) : slotBulk (l.take (k + 1)) = slotBulk (l.take k) + slotOne l[k] := by
  induction l generalizing k with
  | nil => simp at h
  | cons f l ih =>
    cases k with
    | zero => simp [slotBulk]
    | succ k =>
      have := ih k (by simpa using h)
      simp only [List.take_succ_cons, slotBulk, List.getElem_cons_succ] at this ⊢
      omega
theorem slotBulk_le (l : List SlotD) (k : Nat) : slotBulk (l.take k) ≤ slotBulk l := by
  induction l generalizing k with
  | nil => simp [slotBulk]
  | cons f l ih =>
    cases k with
    | zero => have := slotBulk_nonneg (f :: l); simpa [slotBulk] using this
    | succ k => have := ih k; simp only [List.take_succ_cons, slotBulk]; omega
theorem slot_le_bulk {l : List SlotD} {f : SlotD} (h : f ∈ l) : slotOne f ≤ slotBulk l := by
  induction l with
  | nil => cases h
  | cons g l ih =>
    simp only [slotBulk]
    have := slotBulk_nonneg l
    have := slotOne_nonneg g
    rcases List.mem_cons.1 h with e | e
    · subst e; omega
    · have := ih e; omega
/-- few and short -/
def SlotsSmall (l : List SlotD) : Prop := l.length ≤ 1048576 ∧ ∀ f ∈ l, slotOne f ≤ 1048576
theorem slotsSmall {l : List SlotD} (h : 0 ≤ (1048576 : Int) - l.length - slotBulk l) : SlotsSmall l := by
  have := slotBulk_nonneg l
  exact ⟨by omega, fun f hf => by have := slot_le_bulk hf; omega⟩
/-- they lie at an address, one behind the other -/
def SlotsAt (w : World) (ao : Option Addr) (l : List SlotD) : Prop :=
  l ≠ [] → ∃ b off, ao = some ⟨b, off, none⟩ ∧ ∀ j (hj : j < l.length), w.cell? ⟨b, off + j * 2, none⟩ = some (.int .i64 l[j].own) ∧ w.cell? ⟨b, off + j * 2 + 1, none⟩ = some (.string l[j].text)
theorem slotsAt_of {w : World} {g : Nat} {t : TypeId} {l : List SlotD} {r : List Value} (h : BlockIs w g t (slotCells l ++ r)) : SlotsAt w (some ⟨g, 0, none⟩) l := by
  intro _
  refine ⟨g, 0, rfl, fun j hj => ?_⟩
  rw [Nat.zero_add]
  exact ⟨h.cell (row_at slotEnc 2 (fun _ => rfl) l r j 0 hj (by omega)), h.cell (row_at slotEnc 2 (fun _ => rfl) l r j 1 hj (by omega))⟩
def SlotsFit (l : List SlotD) : Prop := ∀ j (hj : j < l.length), l[j].Fits
theorem SlotsAt.on {w w' : World} {ao : Option Addr} {l : List SlotD} (h : SlotsAt w ao l) (hb : Below w.heap.size w w') : SlotsAt w' ao l := by
  intro h0
  obtain ⟨b, off, e1, e2⟩ := h h0
  refine ⟨b, off, e1, fun j hj => ?_⟩
  obtain ⟨x0, x1⟩ := e2 j hj
  exact ⟨(hb.cell (p := ⟨b, off + j * 2, none⟩) (World.block_lt_of_cell? w _ x0)).trans x0, (hb.cell (p := ⟨b, off + j * 2 + 1, none⟩) (World.block_lt_of_cell? w _ x1)).trans x1⟩
/-- cells of a list, written -/
theorem slot_sets (p : List Value) (a0 a1 o0 o1 : Value) (r : List Value) : ((p ++ o0 :: o1 :: r).set (p.length) a0).set (p.length + 1) a1 = p ++ a0 :: a1 :: r := by
  rw [List.set_append_right _ _ (Nat.le_refl _), List.set_append_right _ _ (by omega)]
  simp
theorem slot_set_other {cs : List Value} {i j : Nat} {v u : Value} (h : cs[j]? = some u) (hij : i ≠ j) : (cs.set i v)[j]? = some u := by
  rw [List.getElem?_set_ne hij]; exact h
end Go.Proofs.Ytjcphahbplmmdaa

namespace Go.Proofs.Ytjcphahbplmmdaa
open Go.RowKit

/-- how many are the card's -/
def heldBy (l : List SlotD) : Nat := (l.filter fun e => e.own == 1).length
theorem heldBy_le (l : List SlotD) : heldBy l ≤ l.length := List.length_filter_le _ _
theorem heldBy_take (l : List SlotD) (k : Nat) (h : k < l.length) : heldBy (l.take (k + 1)) = heldBy (l.take k) + if l[k].own = 1 then 1 else 0 := by
  rw [heldBy, List.take_succ_eq_append_getElem h, List.filter_append, List.length_append, ← heldBy]
  by_cases e : l[k].own = 1 <;> simp [e]

/-- a slot at a place -/
def slotAt (l : List SlotD) (p : Nat) : SlotD := l.getD p ⟨0, ByteArray.empty⟩
theorem slotAt_eq {l : List SlotD} {p : Nat} (h : p < l.length) : slotAt l p = l[p] := by simp [slotAt, h]
def isFree (e : SlotD) : Bool := e.own == 0 && e.text.size == 0
def isPosted (e : SlotD) : Bool := e.own == 1 && decide (1 ≤ e.text.size) && decide (e.text.size ≤ 100)
/-- how many slots Head and Tail leave to the card -/
def ringHeld (l : List SlotD) (h t : Nat) : Nat := if h = t ∧ (slotAt l t).own = 1 then l.length else (h + l.length - t) % l.length
/-- is the i-th slot from Tail on as it must be? -/
def ringGood (l : List SlotD) (h t i : Nat) : Bool := if i < ringHeld l h t then isPosted (slotAt l ((t + i) % l.length)) else isFree (slotAt l ((t + i) % l.length))
def ringAll (l : List SlotD) (h t k : Nat) : Bool := (List.range k).all (ringGood l h t)
theorem ringAll_succ (l : List SlotD) (h t k : Nat) : ringAll l h t (k + 1) = (ringAll l h t k && ringGood l h t k) := by
  simp [ringAll, List.range_succ]
theorem ringAll_no {l : List SlotD} {h t k n : Nat} (hk : k < n) (hg : ringGood l h t k = false) : ringAll l h t n = false := by
  have hx : k ∈ List.range n := List.mem_range.2 hk
  cases hr : ringAll l h t n with
  | false => rfl
  | true =>
    have := List.all_eq_true.1 hr k hx
    rw [hg] at this
    cases this
/-- the ring's head and tail are places -/
def ringPlaces (l : List SlotD) (h t : Int) : Prop := (1 ≤ l.length ∧ l.length ≤ 8) ∧ (0 ≤ h ∧ h < l.length) ∧ (0 ≤ t ∧ t < l.length)
/-- a right ring -/
def ringOk (l : List SlotD) (h t : Int) : Bool := decide (1 ≤ l.length) && decide (l.length ≤ 8) && decide (0 ≤ h) && decide (h < l.length) && decide (0 ≤ t) && decide (t < l.length) && ringAll l h.toNat t.toNat l.length
theorem ringOk_places {l : List SlotD} {h t : Int} (hr : ringOk l h t = true) : ringPlaces l h t := by
  unfold ringOk at hr
  simp only [Bool.and_eq_true, decide_eq_true_eq] at hr
  unfold ringPlaces
  omega
theorem ringOk_not {l : List SlotD} {h t : Int} (hp : ¬ ringPlaces l h t) : ringOk l h t = false := by
  cases hr : ringOk l h t with
  | false => rfl
  | true => exact absurd (ringOk_places hr) hp
theorem ringOk_in {l : List SlotD} {h t : Nat} (hp : ringPlaces l h t) : ringOk l h t = ringAll l h t l.length := by
  obtain ⟨⟨a, b⟩, ⟨c, d⟩, e, f⟩ := hp
  simp [ringOk, a, b, d, f]
end Go.Proofs.Ytjcphahbplmmdaa

namespace Go.Proofs.Ytjcphahbplmmdaa
open Go.RowKit

def slot0 : SlotD := ⟨0, ByteArray.empty⟩
def padS (l : List SlotD) : List SlotD := l ++ List.replicate (8 - l.length) slot0
theorem padS_length {l : List SlotD} (h : l.length ≤ 8) : (padS l).length = 8 := by simp [padS]; omega
theorem padS_get {l : List SlotD} (p : Nat) (hp : p < (padS l).length) : (padS l)[p] = slotAt l p := by
  unfold padS at hp ⊢
  by_cases h : p < l.length
  · rw [List.getElem_append_left h, slotAt_eq h]
  · rw [List.getElem_append_right (by omega), List.getElem_replicate]
    unfold slotAt
    rw [List.getD, List.getElem?_eq_none (by omega)]
    rfl
theorem padS_set {l : List SlotD} {p : Nat} (e : SlotD) (hp : p < l.length) : (padS l).set p e = padS (l.set p e) := by
  unfold padS
  rw [List.set_append_left _ _ hp, List.length_set]
/-- the cells of a wheel -/
def wheelC (l : List SlotD) (h t : Nat) : List Value := slotCells (padS l) ++ [.int .i64 l.length, .int .i64 h, .int .i64 t]
theorem slotCells8 {l : List SlotD} (h8 : l.length ≤ 8) : (slotCells (padS l)).length = 16 := by rw [slotCells_length, padS_length h8]
theorem wheelC_length {l : List SlotD} {h t : Nat} (h8 : l.length ≤ 8) : (wheelC l h t).length = 19 := by
  rw [wheelC, List.length_append, slotCells8 h8]; rfl
theorem wheelC_own {l : List SlotD} {h t p : Nat} (h8 : l.length ≤ 8) (hp : p < 8) : (wheelC l h t)[p * 2]? = some (.int .i64 (slotAt l p).own) := by
  have hq : p < (padS l).length := by rw [padS_length h8]; exact hp
  have := row_at slotEnc 2 (fun _ => rfl) (padS l) [.int .i64 l.length, .int .i64 h, .int .i64 t] p 0 hq (by omega)
  rw [padS_get p hq] at this
  exact this
theorem wheelC_text {l : List SlotD} {h t p : Nat} (h8 : l.length ≤ 8) (hp : p < 8) : (wheelC l h t)[p * 2 + 1]? = some (.string (slotAt l p).text) := by
  have hq : p < (padS l).length := by rw [padS_length h8]; exact hp
  have := row_at slotEnc 2 (fun _ => rfl) (padS l) [.int .i64 l.length, .int .i64 h, .int .i64 t] p 1 hq (by omega)
  rw [padS_get p hq] at this
  exact this
theorem wheelC_num {l : List SlotD} {h t j : Nat} (h8 : l.length ≤ 8) : (wheelC l h t)[16 + j]? = [Value.int .i64 l.length, .int .i64 h, .int .i64 t][j]? := by
  rw [wheelC, List.getElem?_append_right (by rw [slotCells8 h8]; omega), slotCells8 h8, Nat.add_sub_cancel_left]
theorem slotEnc_one (e : SlotD) : ∀ v ∈ slotEnc e, v.oneCell' = true := by
  intro v hv
  simp [slotEnc] at hv
  rcases hv with rfl | rfl <;> rfl
theorem slotCells_one (l : List SlotD) : ∀ v ∈ slotCells l, v.oneCell' = true := by
  intro v hv
  obtain ⟨e, _, he⟩ := List.mem_flatMap.1 hv
  exact slotEnc_one e v he
theorem wheelC_one (l : List SlotD) (h t : Nat) : ∀ v ∈ wheelC l h t, v.oneCell' = true := by
  intro v hv
  rcases List.mem_append.1 hv with hv | hv
  · exact slotCells_one _ v hv
  · simp at hv
    rcases hv with rfl | rfl | rfl <;> rfl
/-- a wheel lies at a block -/
def WheelIs (w : World) (b : Nat) (l : List SlotD) (h t : Nat) : Prop := BlockIs w b 55 (wheelC l h t) ∧ (1 ≤ l.length ∧ l.length ≤ 8) ∧ h < l.length ∧ t < l.length
theorem WheelIs.on {w w' : World} {b : Nat} {l : List SlotD} {h t : Nat} (hw : WheelIs w b l h t) (hb : Below w.heap.size w w') : WheelIs w' b l h t := ⟨hw.1.on hb hw.1.lt, hw.2⟩
theorem WheelIs.own {w : World} {b : Nat} {l : List SlotD} {h t : Nat} (hw : WheelIs w b l h t) {p : Nat} (hp : p < 8) : w.cell? ⟨b, p * 2, none⟩ = some (.int .i64 (slotAt l p).own) := hw.1.cell (wheelC_own hw.2.1.2 hp)
theorem WheelIs.text {w : World} {b : Nat} {l : List SlotD} {h t : Nat} (hw : WheelIs w b l h t) {p : Nat} (hp : p < 8) : w.cell? ⟨b, p * 2 + 1, none⟩ = some (.string (slotAt l p).text) := hw.1.cell (wheelC_text hw.2.1.2 hp)
theorem WheelIs.count {w : World} {b : Nat} {l : List SlotD} {h t : Nat} (hw : WheelIs w b l h t) : w.cell? ⟨b, 16, none⟩ = some (.int .i64 l.length) := hw.1.cell (wheelC_num (j := 0) hw.2.1.2)
theorem WheelIs.head {w : World} {b : Nat} {l : List SlotD} {h t : Nat} (hw : WheelIs w b l h t) : w.cell? ⟨b, 17, none⟩ = some (.int .i64 h) := hw.1.cell (wheelC_num (j := 1) hw.2.1.2)
theorem WheelIs.tail {w : World} {b : Nat} {l : List SlotD} {h t : Nat} (hw : WheelIs w b l h t) : w.cell? ⟨b, 18, none⟩ = some (.int .i64 t) := hw.1.cell (wheelC_num (j := 2) hw.2.1.2)
end Go.Proofs.Ytjcphahbplmmdaa

namespace Go.Proofs.Ytjcphahbplmmdaa

def postOk (l : List SlotD) (h t : Int) (s : ByteArray) : Bool := ringOk l h t && (decide (1 ≤ s.size) && decide (s.size ≤ 100)) && !((slotAt l h.toNat).own == 1)
def postL (l : List SlotD) (h t : Int) (s : ByteArray) : List SlotD := if postOk l h t s then l.set h.toNat ⟨1, s⟩ else l
def postH (l : List SlotD) (h t : Int) (s : ByteArray) : Int := if postOk l h t s then ((h.toNat + 1) % l.length : Nat) else h
theorem postL_length (l : List SlotD) (h t : Int) (s : ByteArray) : (postL l h t s).length = l.length := by unfold postL; split <;> simp
def takeOk (l : List SlotD) (h t : Int) : Bool := ringOk l h t && !((slotAt l t.toNat).own == 0)
def takeL (l : List SlotD) (h t : Int) : List SlotD := if takeOk l h t then l.set t.toNat slot0 else l
def takeT (l : List SlotD) (h t : Int) : Int := if takeOk l h t then ((t.toNat + 1) % l.length : Nat) else t
def takeS (l : List SlotD) (h t : Int) : ByteArray := if takeOk l h t then (slotAt l t.toNat).text else ByteArray.empty
theorem takeL_length (l : List SlotD) (h t : Int) : (takeL l h t).length = l.length := by unfold takeL; split <;> simp
theorem mem_set_all {P : SlotD → Prop} {l : List SlotD} {p : Nat} {d : SlotD} (hd : P d) (h : ∀ f ∈ l, P f) : ∀ f ∈ l.set p d, P f := by
  intro f hf
  rcases List.mem_or_eq_of_mem_set hf with h1 | h1
  · exact h f h1
  · rw [h1]; exact hd
/-- in a right ring a slot is the card's or free -/
theorem slot_either {l : List SlotD} {h t p : Nat} (hr : ringAll l h t l.length = true) (hp : p < l.length) (ht : t < l.length) : isPosted (slotAt l p) = true ∨ isFree (slotAt l p) = true := by
  have hg : ∀ i, i < l.length → ringGood l h t i = true := fun i hi => List.all_eq_true.1 hr i (List.mem_range.2 hi)
  obtain ⟨i, hi, e⟩ : ∃ i, i < l.length ∧ (t + i) % l.length = p := by
    by_cases hle : t ≤ p
    · exact ⟨p - t, by omega, by rw [show t + (p - t) = p by omega, Nat.mod_eq_of_lt hp]⟩
    · exact ⟨p + l.length - t, by omega, by rw [show t + (p + l.length - t) = p + l.length by omega, Nat.add_mod_right, Nat.mod_eq_of_lt hp]⟩
  have := hg i hi
  unfold ringGood at this
  rw [e] at this
  split at this
  · exact Or.inl this
  · exact Or.inr this
theorem posted_own {d : SlotD} (h : isPosted d = true) : d.own = 1 := by
  unfold isPosted at h
  simp at h
  exact h.1.1
theorem free_own {d : SlotD} (h : isFree d = true) : d.own = 0 := by
  unfold isFree at h
  simp at h
  exact h.1
end Go.Proofs.Ytjcphahbplmmdaa

namespace Go.Proofs.Ytjcphahbplmmdaa

/-- the i-th text of a queue -/
def qAt (q : List ByteArray) (i : Nat) : ByteArray := q.getD i ByteArray.empty
/-- the slots l, Head h, Tail t hold just the texts q, in order -/
def RingIs (l : List SlotD) (h t : Nat) (q : List ByteArray) : Prop :=
  (1 ≤ l.length ∧ l.length ≤ 8) ∧ t < l.length ∧ h = (t + q.length) % l.length ∧ q.length ≤ l.length ∧ (∀ s ∈ q, 1 ≤ s.size ∧ s.size ≤ 100) ∧
    ∀ i, i < l.length → slotAt l ((t + i) % l.length) = if i < q.length then ⟨1, qAt q i⟩ else slot0

theorem qAt_size {q : List ByteArray} (hq : ∀ s ∈ q, 1 ≤ s.size ∧ s.size ≤ 100) {i : Nat} (hi : i < q.length) : 1 ≤ (qAt q i).size ∧ (qAt q i).size ≤ 100 := by
  have e : qAt q i = q[i] := by simp [qAt, hi]
  rw [e]
  exact hq _ (List.getElem_mem hi)
/-- going round, once -/
theorem round_at {n t i : Nat} (ht : t < n) (hi : i ≤ n) : (t + i) % n = if t + i < n then t + i else t + i - n := by
  split
  · rename_i h; exact Nat.mod_eq_of_lt h
  · rename_i h
    have : t + i = (t + i - n) + n := by omega
    by_cases e : t + i - n < n
    · rw [this, Nat.add_mod_right, Nat.mod_eq_of_lt e]; omega
    · omega
theorem round_inj {n t i j : Nat} (ht : t < n) (hi : i < n) (hj : j < n) (h : (t + i) % n = (t + j) % n) : i = j := by
  rw [round_at ht (Nat.le_of_lt hi), round_at ht (Nat.le_of_lt hj)] at h
  split at h <;> split at h <;> omega
theorem RingIs.small {l : List SlotD} {h t : Nat} {q : List ByteArray} (hr : RingIs l h t q) : ∀ f ∈ l, slotOne f ≤ 1048576 := by
  obtain ⟨⟨l1, l2⟩, ht, _, _, hq, hs⟩ := hr
  intro f hf
  obtain ⟨p, hp, rfl⟩ := List.getElem_of_mem hf
  have e : ∃ i, i < l.length ∧ (t + i) % l.length = p := by
    by_cases hle : t ≤ p
    · exact ⟨p - t, by omega, by rw [show t + (p - t) = p by omega, Nat.mod_eq_of_lt hp]⟩
    · exact ⟨p + l.length - t, by omega, by rw [show t + (p + l.length - t) = p + l.length by omega, Nat.add_mod_right, Nat.mod_eq_of_lt hp]⟩
  obtain ⟨i, hi, e⟩ := e
  have := hs i hi
  rw [e, slotAt_eq hp] at this
  rw [this]
  split
  · rename_i h1
    have := qAt_size hq h1
    show ((qAt q i).size : Int) ≤ _
    omega
  · decide
theorem RingIs.head_lt {l : List SlotD} {h t : Nat} {q : List ByteArray} (hr : RingIs l h t q) : h < l.length := by
  obtain ⟨⟨l1, l2⟩, ht, rfl, _⟩ := hr
  exact Nat.mod_lt _ (by omega)
theorem RingIs.at0 {l : List SlotD} {h t : Nat} {q : List ByteArray} (hr : RingIs l h t q) : slotAt l t = if 0 < q.length then ⟨1, qAt q 0⟩ else slot0 := by
  obtain ⟨⟨l1, l2⟩, ht, _, _, _, hs⟩ := hr
  have := hs 0 (by omega)
  rw [Nat.add_zero, Nat.mod_eq_of_lt ht] at this
  exact this
theorem RingIs.atHead {l : List SlotD} {h t : Nat} {q : List ByteArray} (hr : RingIs l h t q) : (slotAt l h).own = if q.length < l.length then 0 else 1 := by
  have h0 := hr.at0
  obtain ⟨⟨l1, l2⟩, ht, rfl, hq, _, hs⟩ := hr
  by_cases hlt : q.length < l.length
  · rw [hs q.length hlt, if_neg (by omega), if_pos hlt]; rfl
  · rw [show (t + q.length) % l.length = t by rw [show q.length = l.length by omega, Nat.add_mod_right, Nat.mod_eq_of_lt ht], h0, if_pos (by omega), if_neg hlt]
theorem RingIs.held {l : List SlotD} {h t : Nat} {q : List ByteArray} (hr : RingIs l h t q) : ringHeld l h t = q.length := by
  have h0 := hr.at0
  obtain ⟨⟨l1, l2⟩, ht, rfl, hq, _, hs⟩ := hr
  unfold ringHeld
  rw [h0]
  rw [round_at ht hq]
  by_cases hlt : q.length < l.length
  · by_cases hz : q.length = 0
    · rw [hz]
      simp [slot0, ht]
    · rw [if_neg]
      · split
        · rw [show t + q.length + l.length - t = q.length + l.length by omega, Nat.add_mod_right, Nat.mod_eq_of_lt hlt]
        · rw [show t + q.length - l.length + l.length - t = q.length by omega, Nat.mod_eq_of_lt hlt]
      · intro hh
        have := hh.1
        split at this <;> omega
  · have e : q.length = l.length := by omega
    have e2 : (if t + q.length < l.length then t + q.length else t + q.length - l.length) = t := by rw [if_neg (by omega)]; omega
    rw [e2, if_pos ⟨rfl, by rw [if_pos (by omega)]⟩, e]
theorem RingIs.ok {l : List SlotD} {h t : Nat} {q : List ByteArray} (hr : RingIs l h t q) : ringOk l h t = true := by
  have hh := hr.held
  have hl := hr.head_lt
  obtain ⟨⟨l1, l2⟩, ht, _, hq, hsz, hs⟩ := hr
  rw [ringOk_in ⟨⟨l1, l2⟩, ⟨by omega, by omega⟩, by omega, by omega⟩]
  refine List.all_eq_true.2 fun i hi => ?_
  have hi' : i < l.length := List.mem_range.1 hi
  unfold ringGood
  rw [hh, hs i hi']
  by_cases h1 : i < q.length
  · rw [if_pos h1, if_pos h1]
    have := qAt_size hsz h1
    simp [isPosted]; omega
  · rw [if_neg h1, if_neg h1]; rfl
theorem ring_new {n : Nat} (h1 : 1 ≤ n) (h8 : n ≤ 8) : RingIs (List.replicate n slot0) 0 0 [] := by
  refine ⟨by rw [List.length_replicate]; omega, by rw [List.length_replicate]; omega, by simp, by simp, fun s hs => by simp at hs, fun i hi => ?_⟩
  rw [List.length_replicate] at hi ⊢
  rw [Nat.zero_add, Nat.mod_eq_of_lt hi, slotAt_eq (by rw [List.length_replicate]; exact hi), List.getElem_replicate]
  simp
theorem slotAt_set {l : List SlotD} {p j : Nat} (hj : j < l.length) (d : SlotD) : slotAt (l.set p d) j = if p = j then d else slotAt l j := by
  rw [slotAt_eq (by rw [List.length_set]; exact hj), List.getElem_set, slotAt_eq hj]
theorem RingIs.postOk {l : List SlotD} {h t : Nat} {q : List ByteArray} (hr : RingIs l h t q) (s : ByteArray) : postOk l h t s = (decide (1 ≤ s.size) && decide (s.size ≤ 100) && decide (q.length < l.length)) := by
  unfold Go.Proofs.Ytjcphahbplmmdaa.postOk
  rw [hr.ok, Int.toNat_natCast, hr.atHead]
  by_cases hlt : q.length < l.length
  · simp [hlt]
  · simp [hlt]
theorem RingIs.post {l : List SlotD} {h t : Nat} {q : List ByteArray} (hr : RingIs l h t q) {s : ByteArray} (hs1 : 1 ≤ s.size) (hs2 : s.size ≤ 100) (hlt : q.length < l.length) : RingIs (l.set h ⟨1, s⟩) ((h + 1) % l.length) t (q ++ [s]) := by
  have hl := hr.head_lt
  obtain ⟨⟨l1, l2⟩, ht, rfl, hq, hsz, hs⟩ := hr
  unfold RingIs
  rw [List.length_set, List.length_append]
  refine ⟨⟨l1, l2⟩, ht, ?_, by simp; omega, ?_, fun i hi => ?_⟩
  · rw [Nat.mod_add_mod]; rfl
  · intro s' h'
    rcases List.mem_append.1 h' with h' | h'
    · exact hsz s' h'
    · rw [List.mem_singleton.1 h']; exact ⟨hs1, hs2⟩
  · rw [slotAt_set (Nat.mod_lt _ (by omega))]
    by_cases e : i = q.length
    · subst e
      rw [if_pos rfl, if_pos (by simp)]
      simp [qAt]
    · rw [if_neg (fun x => e (round_inj ht hi hlt x.symm)), hs i hi]
      by_cases h1 : i < q.length
      · rw [if_pos h1, if_pos (by simp; omega)]
        simp [qAt, h1, List.getElem?_append_left]
      · rw [if_neg h1, if_neg (by simp; omega)]
theorem RingIs.takeOk {l : List SlotD} {h t : Nat} {q : List ByteArray} (hr : RingIs l h t q) : takeOk l h t = decide (0 < q.length) := by
  unfold Go.Proofs.Ytjcphahbplmmdaa.takeOk
  rw [hr.ok, Int.toNat_natCast, hr.at0]
  by_cases hz : 0 < q.length
  · simp [hz]
  · simp [hz, slot0]
theorem RingIs.take {l : List SlotD} {h t : Nat} {a : ByteArray} {q : List ByteArray} (hr : RingIs l h t (a :: q)) : takeS l h t = a ∧ RingIs (l.set t slot0) h ((t + 1) % l.length) q := by
  have hok := hr.takeOk
  have h0 := hr.at0
  obtain ⟨⟨l1, l2⟩, ht, rfl, hq, hsz, hs⟩ := hr
  simp only [List.length_cons] at hq hok h0 hs ⊢
  refine ⟨?_, ?_⟩
  · unfold takeS
    rw [hok, if_pos (by simp), Int.toNat_natCast, h0, if_pos (by omega)]
    rfl
  · unfold RingIs
    rw [List.length_set]
    refine ⟨⟨l1, l2⟩, Nat.mod_lt _ (by omega), ?_, by omega, fun s h' => hsz s (List.mem_cons_of_mem _ h'), fun i hi => ?_⟩
    · rw [Nat.mod_add_mod]; congr 1; omega
    · rw [Nat.mod_add_mod, slotAt_set (Nat.mod_lt _ (by omega)), show t + 1 + i = t + (i + 1) by omega]
      by_cases e : i + 1 = l.length
      · rw [e, Nat.add_mod_right, Nat.mod_eq_of_lt ht, if_pos rfl, if_neg (by omega)]
      · have hi1 : i + 1 < l.length := by omega
        have hne : ¬ t = (t + (i + 1)) % l.length := by
          intro x
          have := round_inj ht (show 0 < l.length by omega) hi1 (by rw [Nat.add_zero, Nat.mod_eq_of_lt ht]; exact x)
          omega
        rw [if_neg hne, hs (i + 1) hi1]
        by_cases h1 : i < q.length
        · rw [if_pos (by omega), if_pos h1]; rfl
        · rw [if_neg (by omega), if_neg h1]
theorem RingIs.posted {l : List SlotD} {h t : Nat} {q : List ByteArray} (hr : RingIs l h t q) {s : ByteArray} (hs1 : 1 ≤ s.size) (hs2 : s.size ≤ 100) : ∃ (h' : Nat) (q' : List ByteArray), postH l h t s = (h' : Int) ∧ RingIs (postL l h t s) h' t q' := by
  have hp := hr.postOk s
  unfold postH postL
  rw [hp]
  by_cases hlt : q.length < l.length
  · rw [if_pos (by simp [hs1, hs2, hlt]), if_pos (by simp [hs1, hs2, hlt]), Int.toNat_natCast]
    exact ⟨_, _, rfl, hr.post hs1 hs2 hlt⟩
  · rw [if_neg (by simp [hlt]), if_neg (by simp [hlt])]
    exact ⟨_, _, rfl, hr⟩
theorem RingIs.taken {l : List SlotD} {h t : Nat} {q : List ByteArray} (hr : RingIs l h t q) : ∃ (t' : Nat) (q' : List ByteArray), takeT l h t = (t' : Int) ∧ RingIs (takeL l h t) h t' q' := by
  have hp := hr.takeOk
  unfold takeT takeL
  rw [hp]
  cases q with
  | nil =>
    rw [if_neg (by simp), if_neg (by simp)]
    exact ⟨_, _, rfl, hr⟩
  | cons a q =>
    rw [if_pos (by simp), if_pos (by simp), Int.toNat_natCast]
    exact ⟨_, _, rfl, hr.take.2⟩
/-- the card's slots are as many as the texts -/
theorem RingIs.heldBy {l : List SlotD} {h t : Nat} {q : List ByteArray} (hr : RingIs l h t q) : heldBy l = q.length := by
  obtain ⟨⟨l1, l2⟩, ht, _, hq, _, hs⟩ := hr
  have hrot : Go.Proofs.Ytjcphahbplmmdaa.heldBy l = Go.Proofs.Ytjcphahbplmmdaa.heldBy (l.drop t ++ l.take t) := by
    unfold Go.Proofs.Ytjcphahbplmmdaa.heldBy
    rw [List.filter_append, List.length_append, Nat.add_comm, ← List.length_append, ← List.filter_append, List.take_append_drop]
  have hlist : l.drop t ++ l.take t = q.map (fun s => (⟨1, s⟩ : SlotD)) ++ List.replicate (l.length - q.length) slot0 := by
    apply List.ext_getElem
    · simp; omega
    · intro i h1 h2
      have hi : i < l.length := by simp at h1; omega
      have hx := hs i hi
      have hm := round_at ht (Nat.le_of_lt hi)
      rw [hm] at hx
      have hL : (l.drop t ++ l.take t)[i] = slotAt l (if t + i < l.length then t + i else t + i - l.length) := by
        split
        · rename_i hc
          rw [List.getElem_append_left (by simp; omega), List.getElem_drop, slotAt_eq hc]
        · rename_i hc
          rw [List.getElem_append_right (by simp; omega), List.getElem_take, slotAt_eq (by omega)]
          congr 1
          simp; omega
      rw [hL, hx]
      split
      · rename_i hc
        rw [List.getElem_append_left (by simpa using hc), List.getElem_map]
        simp [qAt, hc]
      · rename_i hc
        rw [List.getElem_append_right (by simp; omega), List.getElem_replicate]
  rw [hrot, hlist]
  unfold Go.Proofs.Ytjcphahbplmmdaa.heldBy
  rw [List.filter_append, List.length_append]
  have e1 : ((q.map (fun s => (⟨1, s⟩ : SlotD))).filter fun e => e.own == 1).length = q.length := by
    rw [List.filter_map, List.length_map]
    have : q.filter ((fun e : SlotD => e.own == 1) ∘ fun s => (⟨1, s⟩ : SlotD)) = q := List.filter_eq_self.2 fun _ _ => rfl
    rw [this]
  have e2 : ((List.replicate (l.length - q.length) slot0).filter fun e => e.own == 1) = [] := List.filter_eq_nil_iff.2 fun a ha => by rw [List.eq_of_mem_replicate ha]; decide
  rw [e1, e2]
  rfl
end Go.Proofs.Ytjcphahbplmmdaa

namespace Go.Proofs.Ytjcphahbplmmdaa
open Go.RowKit

theorem row_shape {w : World} {base size n : Nat} {t : TypeId} {v : Value} {xs : List Value} (h : w.ownsRow base t size v n xs) : ∃ a c, v = .slice a n c := by
  obtain ⟨_, (⟨rfl, rfl⟩ | ⟨g, cap, _, rfl, _⟩)⟩ := h
  · exact ⟨_, _, rfl⟩
  · exact ⟨_, _, rfl⟩
theorem row_down {w : World} {base base' size n : Nat} {t : TypeId} {v : Value} {xs : List Value} (h : w.ownsRow base t size v n xs) (hb : base' ≤ base) : w.ownsRow base' t size v n xs :=
  ⟨h.1, h.2.imp id fun ⟨g, cap, cur, a, b, r⟩ => ⟨g, cap, cur, a, Nat.le_trans hb b, r⟩⟩
/-- behind an append to a row of the call's own: all that was there ahead of the row stands -/
theorem behind_append {w wr w1 : World} {v : Value} {base n : Nat} {t : TypeId} {size : Nat} {xs : List Value} {o : Obj} (hB : w.heap.size ≤ base) (BR : Below w.heap.size w wr) (OR : wr.ownsRow base t size v n xs) (hz : base ≤ wr.heap.size) (hg : (wr.alloc o).drew.grownBy w1 v.ownBlock) :
    Below w.heap.size w w1 ∧ base ≤ w1.heap.size ∧ ∀ j tj cs, j < base → BlockIs wr j tj cs → BlockIs w1 j tj cs := by
  have hown : ∀ j, v.ownBlock = some j → base ≤ j := fun j hj => (OR.lt j hj).1
  have hd : Below wr.heap.size wr (wr.alloc o).drew := below_drewN (below_more (Below.refl _ wr) o) 1
  have h1 : Below base wr w1 := ((hd.mono hz).grown hg (Nat.le_trans hz hd.size) hown)
  refine ⟨BR.trans (h1.mono hB), Nat.le_trans hz h1.size, fun j tj cs hj hb => hb.on h1 hj⟩
end Go.Proofs.Ytjcphahbplmmdaa

namespace Go.Proofs.Ytjcphahbplmmdaa
open Go.RowKit

/-- four blocks laid one behind the other -/
theorem four_log (w : World) (o p q : Obj) : Below w.heap.size w (((w.alloc o).alloc p).alloc q) ∧ (((w.alloc o).alloc p).alloc q).heap[w.heap.size]? = some o ∧ (((w.alloc o).alloc p).alloc q).heap[w.heap.size + 1]? = some p ∧ (((w.alloc o).alloc p).alloc q).heap[w.heap.size + 1 + 1]? = some q := by
  refine ⟨below_more (below_more (below_more (Below.refl _ w) _) _) _, ?_, ?_, ?_⟩
  · show (((w.heap.push o).push p).push q)[w.heap.size]? = some o
    rw [Array.getElem?_push, if_neg (by simp; omega), Array.getElem?_push, if_neg (by simp), Array.getElem?_push, if_pos rfl]
  · show (((w.heap.push o).push p).push q)[w.heap.size + 1]? = some p
    rw [Array.getElem?_push, if_neg (by simp), Array.getElem?_push, if_pos (by simp)]
  · show (((w.heap.push o).push p).push q)[w.heap.size + 1 + 1]? = some q
    rw [Array.getElem?_push, if_pos (by simp)]

/-- a row of the call's own, made between two sizes of memory -/
def OwnAt (w : World) (t : TypeId) (cs : List Value) (n : Nat) (va : Option Addr) (lo hi : Nat) : Prop :=
  n = 0 ∨ ∃ g r, va = some ⟨g, 0, none⟩ ∧ lo ≤ g ∧ g < hi ∧ BlockIs w g t (cs ++ r)
theorem OwnAt.on {w w' : World} {t : TypeId} {cs : List Value} {n : Nat} {va : Option Addr} {lo hi : Nat} (h : OwnAt w t cs n va lo hi) (hb : Below w.heap.size w w') : OwnAt w' t cs n va lo hi :=
  h.imp id fun ⟨g, r, a, b, c, d⟩ => ⟨g, r, a, b, c, d.on hb d.lt⟩
theorem OwnAt.down {w : World} {t : TypeId} {cs : List Value} {n : Nat} {va : Option Addr} {lo hi lo' hi' : Nat} (h : OwnAt w t cs n va lo hi) (h1 : lo' ≤ lo) (h2 : hi ≤ hi') : OwnAt w t cs n va lo' hi' :=
  h.imp id fun ⟨g, r, a, b, c, d⟩ => ⟨g, r, a, Nat.le_trans h1 b, Nat.lt_of_lt_of_le c h2, d⟩
/-- a cell below is written -/
theorem OwnAt.far {w : World} {t : TypeId} {cs : List Value} {n : Nat} {va : Option Addr} {lo b j : Nat} (h : OwnAt w t cs n va lo w.heap.size) (hb : b < lo) (v : Value) : OwnAt (w.setCell ⟨b, j, none⟩ v) t cs n va lo (w.setCell ⟨b, j, none⟩ v).heap.size := by
  rw [World.size_setCell]
  exact h.imp id fun ⟨g, r, a, c, d, e⟩ => ⟨g, r, a, c, d, e.far (by omega) v⟩
/-- nothing but blocks between two sizes has turned -/
def KeptBut (lo hi : Nat) (w w' : World) : Prop := ∀ j t cs, ¬ (lo ≤ j ∧ j < hi) → BlockIs w j t cs → BlockIs w' j t cs
theorem OwnAt.kept {w w' : World} {t : TypeId} {cs : List Value} {n : Nat} {va : Option Addr} {lo hi lo2 hi2 : Nat} (h : OwnAt w t cs n va lo hi) (hk : KeptBut lo2 hi2 w w') (ho : hi ≤ lo2 ∨ hi2 ≤ lo) : OwnAt w' t cs n va lo hi :=
  h.imp id fun ⟨g, r, a, b, c, d⟩ => ⟨g, r, a, b, c, hk _ _ _ (by omega) d⟩
theorem BlockIs.kept {w w' : World} {g lo hi : Nat} {t : TypeId} {cs : List Value} (h : BlockIs w g t cs) (hk : KeptBut lo hi w w') (ho : g < lo ∨ hi ≤ g) : BlockIs w' g t cs := hk _ _ _ (by omega) h
theorem row_ext {x y : World} {base size n : Nat} {t : TypeId} {v : Value} {xs : List Value} (h : x.ownsRow base t size v n xs) (hb : ∀ g cs, BlockIs x g t cs → BlockIs y g t cs) : y.ownsRow base t size v n xs := by
  refine ⟨h.1, h.2.imp id ?_⟩
  rintro ⟨g, cap, cur, a, b, c, r⟩
  have := hb g cur.toList (by unfold BlockIs; rw [c])
  unfold BlockIs at this
  exact ⟨g, cap, cur, a, b, by rw [this], r⟩
theorem OwnAt.ext {x y : World} {t : TypeId} {cs : List Value} {n : Nat} {va : Option Addr} {lo : Nat} (h : OwnAt x t cs n va lo x.heap.size) (hs : x.heap.size ≤ y.heap.size) (hb : ∀ g r, BlockIs x g t (cs ++ r) → BlockIs y g t (cs ++ r)) : OwnAt y t cs n va lo y.heap.size :=
  h.imp id fun ⟨g, r, a, b, c, d⟩ => ⟨g, r, a, b, Nat.lt_of_lt_of_le c hs, hb g r d⟩
theorem row_block {w : World} {base size n : Nat} {t : TypeId} {v : Value} {xs : List Value} (h : w.ownsRow base t size v n xs) {g : Nat} (hg : v.ownBlock = some g) : ∃ cs, BlockIs w g t cs ∧ base ≤ g := by
  obtain ⟨_, (⟨rfl, _⟩ | ⟨g', cap, cur, rfl, hb, hc, _⟩)⟩ := h
  · cases hg
  · cases hg
    exact ⟨cur.toList, by unfold BlockIs; rw [hc], hb⟩
theorem block_one {w : World} {g : Nat} {t t' : TypeId} {cs cs' : List Value} (h : BlockIs w g t cs) (h' : BlockIs w g t' cs') : t = t' ∧ cs = cs' := by
  unfold BlockIs at h h'
  rw [h] at h'
  simp only [Option.some.injEq, Obj.cells.injEq] at h'
  exact ⟨h'.2.1, by simpa using h'.1⟩
end Go.Proofs.Ytjcphahbplmmdaa

namespace Go.Proofs.Ytjcphahbplmmdaa
open Go.RowKit

theorem grown_of_below {w w' : World} (h : Below w.heap.size w w') (row : Option Nat) : w.grownBy w' row := ⟨h.os, h.tape, h.output, h.size, fun k hk _ => h.block k hk⟩

theorem add_at (g j : Nat) : (⟨g, 0, none⟩ : Addr).add j = ⟨g, j, none⟩ := by
  simp only [Addr.add]
  split
  · simp_all
  · simp

/-- where an owned row lies -/
theorem row_lie {w : World} {base : Nat} {e : TypeId} {v : Value} {n : Nat} {xs : List Value} (h : w.ownsRow base e 1 v n xs) :
    xs.length = n ∧ ∃ ao cap, v = .slice ao n cap ∧ (0 < n → ∃ g, ao = some ⟨g, 0, none⟩ ∧ base ≤ g ∧ g < w.heap.size ∧ n ≤ cap ∧ v.ownBlock = some g ∧ (∀ (j : Nat) u, xs[j]? = some u → w.cell? ⟨g, j, none⟩ = some u) ∧ ∀ j, w.frozen? ⟨g, j, none⟩ = false) := by
  have h' := h
  obtain ⟨h1, h2⟩ := h
  refine ⟨by omega, ?_⟩
  rcases h2 with ⟨hv, hn⟩ | ⟨g, cap, cur, hv, hgb, hh, hle, hmx, hsz, hx⟩
  · exact ⟨none, 0, by rw [hv, hn], fun h0 => by omega⟩
  · refine ⟨_, cap, hv, fun _ => ⟨g, rfl, hgb, (h'.lt g (by rw [hv]; rfl)).2, hle, by rw [hv]; rfl, fun j u hu => ?_, fun j => ?_⟩⟩
    · have := h'.cells (g := g) (by rw [hv]; rfl) j _ hu
      rw [add_at] at this
      exact this
    · simp [World.frozen?, hh]

/-- an owned row, one of its cells written -/
theorem ownsRow_set {w : World} {base : Nat} {e : TypeId} {v : Value} {n : Nat} {xs : List Value} (h : w.ownsRow base e 1 v n xs) {g : Nat} (hg : v.ownBlock = some g) (k : Nat) (u : Value) :
    (w.setCell ⟨g, k, none⟩ u).ownsRow base e 1 v n (xs.set k u) := by
  obtain ⟨h1, h2⟩ := h
  rcases h2 with ⟨hv, hn⟩ | ⟨g', cap, cur, hv, hgb, hh, hle, hmx, hsz, hx⟩
  · rw [hv] at hg; cases hg
  · rw [hv] at hg
    simp only [Value.ownBlock, Option.some.injEq] at hg
    subst hg
    refine ⟨by simpa using h1, Or.inr ⟨g', cap, cur.setIfInBounds k u, hv, hgb, ?_, hle, hmx, by simpa using hsz, ?_⟩⟩
    · simp only [World.setCell]
      rw [Array.getElem?_modify, if_pos rfl, hh]
      rfl
    · rw [Array.toList_setIfInBounds, ← hx, List.take_set]

/-- a place of an owned row may be written -/
theorem at_row {w : World} {base : Nat} {e : TypeId} {g n c : Nat} {xs : List Value} (h : w.ownsRow base e 1 (.slice (some ⟨g, 0, none⟩) n c) n xs) (k : Nat) (hk : k < n) : ∃ u, w.cell? ⟨g, k, none⟩ = some u ∧ w.frozen? ⟨g, k, none⟩ = false := by
  obtain ⟨hl, ao, cap, hv, hf⟩ := row_lie h
  obtain ⟨g', e1, _, _, _, _, hc, hz⟩ := hf (by omega)
  simp only [Value.slice.injEq] at hv
  obtain ⟨rfl, _, _⟩ := hv
  simp only [Option.some.injEq, Addr.mk.injEq, and_true] at e1
  subst e1
  have hk' : k < xs.length := by omega
  exact ⟨xs[k], hc k _ (List.getElem?_eq_getElem hk'), hz k⟩

theorem grownBy_set (w : World) (g k : Nat) (u : Value) : w.grownBy (w.setCell ⟨g, k, none⟩ u) (some g) :=
  ⟨rfl, rfl, rfl, by simp [World.setCell], fun j _ hj => Below.heap_setCell _ _ _ _ (fun e => hj (by simp [e]))⟩

/-- the one cell of a new block -/
theorem one_new (w : World) (x : Value) (t : TypeId) : ∀ (j : Nat) u, [x][j]? = some u → (w.alloc (.cells #[x] t)).cell? ((⟨w.heap.size, 0, none⟩ : Addr).add j) = some u := by
  intro j u hj
  match j, hj with
  | 0, hj => simp at hj; subst hj; simp [Addr.add]

/-- texts as the cells of a row -/
def st (l : List ByteArray) : List Value := l.map Value.string
theorem st_append (l r : List ByteArray) : st (l ++ r) = st l ++ st r := by simp [st]
theorem st_length (l : List ByteArray) : (st l).length = l.length := by simp [st]
theorem st_at (l : List ByteArray) (k : Nat) (h : k < l.length) : (st l)[k]? = some (.string l[k]) := by simp [st, h]
end Go.Proofs.Ytjcphahbplmmdaa

namespace Go.Proofs.Ytjcphahbplmmdaa
open Go.RowKit

/-- the figure of x, as a byte -/
def fig (x : Int) : Int := if x < 10 then 48 + x else 87 + x

theorem fig_bd {x : Int} (h0 : 0 ≤ x) (h1 : x ≤ 15) : 48 ≤ fig x ∧ fig x ≤ 102 := by unfold fig; split <;> omega

def hexOf : List UInt8 → List UInt8
  | [] => []
  | b :: r => UInt8.ofNat (fig (b.toNat / 16)).toNat :: UInt8.ofNat (fig (b.toNat % 16)).toNat :: hexOf r

theorem hexOf_append (l r : List UInt8) : hexOf (l ++ r) = hexOf l ++ hexOf r := by
  induction l with
  | nil => rfl
  | cons b l ih => simp [hexOf, ih]

theorem hexOf_length (l : List UInt8) : (hexOf l).length = 2 * l.length := by
  induction l with
  | nil => rfl
  | cons b l ih => simp [hexOf, ih]; omega

theorem take_snoc (s : ByteArray) (k : Nat) (h : k < s.size) : s.data.toList.take (k + 1) = s.data.toList.take k ++ [s[k]] := by
  rw [List.take_succ_eq_append_getElem (by simpa using h)]; rfl

theorem take_len (s : ByteArray) (k : Nat) (h : k ≤ s.size) : (s.data.toList.take k).length = k := by
  have : s.data.toList.length = s.size := by simp
  rw [List.length_take]; omega

theorem two_cs (b : UInt8) : [Value.int .u8 (fig ((b.toNat : Int) / 16)), .int .u8 (fig ((b.toNat : Int) % 16))] = cs (hexOf [b]) := by
  have hb := b.toNat_lt
  have h1 := fig_bd (x := (b.toNat : Int) / 16) (by omega) (by omega)
  have h2 := fig_bd (x := (b.toNat : Int) % 16) (by omega) (by omega)
  simp only [hexOf, cs, List.map_cons, List.map_nil, UInt8.toNat_ofNat', List.cons.injEq, and_true, Value.int.injEq, true_and]
  omega

theorem hex_step {s : ByteArray} {k : Nat} {w wr w1 : World} {v : Value} {g cap : Nat} {B : Obj} (hk : k < s.size) (hown : wr.ownsRow w.heap.size 5 1 v (2 * k) (cs (hexOf (s.data.toList.take k))))
    (hown' : w1.ownsRow w.heap.size 5 1 (.slice (some ⟨g, 0, none⟩) (2 * k + 2) cap) (2 * k + 2) (cs (hexOf (s.data.toList.take k)) ++ [.int .u8 (fig ((s[k].toNat : Int) / 16)), .int .u8 (fig ((s[k].toNat : Int) % 16))]))
    (hgrow : (wr.alloc B).drew.grownBy w1 v.ownBlock) (hb : Below w.heap.size w wr) :
    w1.ownsRow w.heap.size 5 1 (.slice (some ⟨g, 0, none⟩) (2 * k + 2) cap) (2 * (k + 1)) (cs (hexOf (s.data.toList.take (k + 1)))) ∧ Below w.heap.size w w1 := by
  refine ⟨?_, ((hb.alloc hb.size _).drew).grown hgrow (by have := hb.size; simp; omega) (fun j hj => (hown.lt j hj).1)⟩
  rw [two_cs, ← cs_append, ← hexOf_append, ← take_snoc s k hk] at hown'
  exact hown'

theorem i64_id {x : Int} (h0 : -9223372036854775808 ≤ x) (h1 : x ≤ 9223372036854775807) : IntKind.i64.wrap x = x := by
  simp [IntKind.wrap, IntKind.signed, IntKind.bits]; omega
theorem u8_id {x : Int} (h0 : 0 ≤ x) (h1 : x ≤ 255) : IntKind.u8.wrap x = x := by
  simp [IntKind.wrap, IntKind.signed, IntKind.bits]; omega

theorem wrap_quo (b : UInt8) : IntKind.i64.wrap ((IntKind.i64.wrap (b.toNat : Int)).tdiv 16) = (b.toNat : Int) / 16 := by
  have hb := b.toNat_lt
  have e : IntKind.i64.wrap (b.toNat : Int) = (b.toNat : Int) := by simp [IntKind.wrap, IntKind.signed, IntKind.bits]; omega
  rw [e, Int.tdiv_eq_ediv_of_nonneg (by omega)]
  simp [IntKind.wrap, IntKind.signed, IntKind.bits]; omega
theorem wrap_rem (b : UInt8) : (IntKind.i64.wrap (b.toNat : Int)).tmod 16 = (b.toNat : Int) % 16 := by
  have hb := b.toNat_lt
  have e : IntKind.i64.wrap (b.toNat : Int) = (b.toNat : Int) := by simp [IntKind.wrap, IntKind.signed, IntKind.bits]; omega
  rw [e, Int.tmod_eq_emod_of_nonneg (by omega)]
end Go.Proofs.Ytjcphahbplmmdaa

namespace Go.Proofs.Ytjcphahbplmmdaa
open Go.RowKit

/-- what the byte c counts as a figure; -1 where it is none -/
def lv (c : Int) : Int := if 48 ≤ c ∧ c ≤ 57 then c - 48 else if 97 ≤ c ∧ c ≤ 102 then c - 87 else -1

theorem lv_bd (c : Int) : -1 ≤ lv c ∧ lv c ≤ 15 := by unfold lv; split <;> (try split) <;> omega

theorem fig_lv {c j : Int} (h0 : 0 ≤ j) (h1 : j ≤ 15) : c = fig j ↔ lv c = j := by
  unfold lv fig
  split <;> split <;> (try split) <;> omega

/-- the values of a text's figures -/
def lvs (l : List UInt8) : List Int := l.map fun c => lv (c.toNat : Int)

def Figs (b : Nat) (l : List UInt8) : Prop := ∀ c ∈ l, 0 ≤ lv (c.toNat : Int) ∧ lv (c.toNat : Int) < b

theorem Figs.snoc {b : Nat} {l : List UInt8} {c : UInt8} (h : Figs b l) (hc : 0 ≤ lv (c.toNat : Int) ∧ lv (c.toNat : Int) < b) : Figs b (l ++ [c]) := by
  intro x hx
  rcases List.mem_append.1 hx with hx | hx
  · exact h x hx
  · simp at hx; subst hx; exact hc

/-- ints as the cells of a row -/
def ns (l : List Int) : List Value := l.map (Value.int .i64)

theorem mem_at (s : ByteArray) (k : Nat) (h : k < s.size) : s[k] ∈ s.data.toList := by
  have h1 : k < s.data.toList.length := by simpa using h
  have h2 := List.getElem_mem h1
  have h3 : s.data.toList[k] = s[k] := by rw [Array.getElem_toList]; rfl
  rw [h3] at h2
  exact h2

theorem lvs_append (l r : List UInt8) : lvs (l ++ r) = lvs l ++ lvs r := by simp [lvs]
theorem lvs_length (l : List UInt8) : (lvs l).length = l.length := by simp [lvs]
theorem ns_append (l r : List Int) : ns (l ++ r) = ns l ++ ns r := by simp [ns]

theorem fv_step {s : ByteArray} {k : Nat} {w wr w1 : World} {v v' : Value} {B : Obj} {j : Int} (hk : k < s.size) (hj : lv (s[k].toNat : Int) = j) (hown : wr.ownsRow w.heap.size 3 1 v k (ns (lvs (s.data.toList.take k))))
    (hown' : w1.ownsRow w.heap.size 3 1 v' (k + 1) (ns (lvs (s.data.toList.take k)) ++ [.int .i64 j])) (hgrow : (wr.alloc B).grownBy w1 v.ownBlock) (hb : Below w.heap.size w wr) :
    w1.ownsRow w.heap.size 3 1 v' (k + 1) (ns (lvs (s.data.toList.take (k + 1)))) ∧ Below w.heap.size w w1 := by
  refine ⟨?_, (hb.alloc hb.size _).grown hgrow (by have := hb.size; simp; omega) (fun j hj => (hown.lt j hj).1)⟩
  have e : [Value.int .i64 j] = ns (lvs [s[k]]) := by simp [ns, lvs, hj]
  rw [e, ← ns_append, ← lvs_append, ← take_snoc s k hk] at hown'
  exact hown'

/-- where the values lie -/
theorem values_lie {w w1 : World} {s : ByteArray} {v : Value} (h : w1.ownsRow w.heap.size 3 1 v s.size (ns (lvs s.data.toList))) :
    ∃ ao cap, v = .slice ao s.size cap ∧ (0 < s.size → ∃ g, ao = some ⟨g, 0, none⟩ ∧ g < w1.heap.size ∧ s.size ≤ cap ∧ ∀ j (hj : j < s.size), w1.cell? ⟨g, j, none⟩ = some (.int .i64 (lv (s[j].toNat : Int)))) := by
  have h' := h
  obtain ⟨h1, h2⟩ := h
  rcases h2 with ⟨hv, hn⟩ | ⟨g, cap, cur, hv, hgb, hh, hle, hmx, hsz, hx⟩
  · exact ⟨none, 0, by rw [hv, hn], fun h0 => by omega⟩
  · refine ⟨_, cap, hv, fun _ => ⟨g, rfl, (h'.lt g (by rw [hv]; rfl)).2, hle, fun j hj => ?_⟩⟩
    have hu : (ns (lvs s.data.toList))[j]? = some (.int .i64 (lv (s[j].toNat : Int))) := by
      have hj' : j < s.data.toList.length := by simpa using hj
      have e : s.data.toList[j] = s[j] := by rw [Array.getElem_toList]; rfl
      simp only [ns, lvs, List.getElem?_map, List.getElem?_eq_getElem hj', Option.map_some, e]
    have := h'.cells (g := g) (by rw [hv]; rfl) j _ hu
    have ea : (⟨g, 0, none⟩ : Addr).add j = ⟨g, j, none⟩ := by
      simp only [Addr.add]
      split
      · simp_all
      · simp
    rw [ea] at this
    exact this
end Go.Proofs.Ytjcphahbplmmdaa

namespace Go.Proofs.Ytjcphahbplmmdaa
open Go.RowKit

/-- the decimal figures of n, none for 0 (with so many steps at the most) -/
def ddF : Nat → Nat → List UInt8
  | 0, _ => []
  | f + 1, n => if n = 0 then [] else ddF f (n / 10) ++ [UInt8.ofNat (48 + n % 10)]
/-- the decimal figures of n, none for 0 -/
def dd (n : Nat) : List UInt8 := ddF n n

theorem ddF_eq : ∀ (f g n : Nat), n ≤ f → n ≤ g → ddF f n = ddF g n
  | 0, 0, _, _, _ => rfl
  | 0, g + 1, n, h, _ => by
    obtain rfl : n = 0 := by omega
    rw [ddF, ddF, if_pos rfl]
  | f + 1, 0, n, _, h => by
    obtain rfl : n = 0 := by omega
    rw [ddF, ddF, if_pos rfl]
  | f + 1, g + 1, n, h1, h2 => by
    rw [ddF, ddF]
    by_cases h : n = 0
    · rw [if_pos h, if_pos h]
    · rw [if_neg h, if_neg h, ddF_eq f g (n / 10) (by omega) (by omega)]
theorem dd_zero : dd 0 = [] := rfl
theorem dd_pos {n : Nat} (h : 0 < n) : dd n = dd (n / 10) ++ [UInt8.ofNat (48 + n % 10)] := by
  rw [dd, ddF_eq n (n + 1) n (Nat.le_refl _) (by omega), ddF, if_neg (by omega), dd, ddF_eq n (n / 10) (n / 10) (by omega) (Nat.le_refl _)]

theorem dd_len (k : Nat) : ∀ n, n < 10 ^ k → (dd n).length ≤ k := by
  induction k with
  | zero => intro n h; have : n = 0 := by simp at h; omega
            subst this; rw [dd_zero]; simp
  | succ k ih =>
    intro n h
    by_cases h0 : n = 0
    · subst h0; rw [dd_zero]; simp
    · rw [dd_pos (by omega), List.length_append]
      have := ih (n / 10) (by rw [Nat.pow_succ] at h; omega)
      simp only [List.length_cons, List.length_nil]
      omega

/-- n in decimal -/
def dec (n : Int) : List UInt8 := if n = 0 then [48] else if n < 0 then 45 :: dd n.natAbs else dd n.natAbs

/-- what figures make -/
def num (l : List UInt8) : Nat := l.foldl (fun n c => 10 * n + (c.toNat - 48)) 0

theorem num_nil : num [] = 0 := rfl
theorem num_snoc (l : List UInt8) (c : UInt8) : num (l ++ [c]) = 10 * num l + (c.toNat - 48) := by simp [num, List.foldl_append]

def Digits (l : List UInt8) : Prop := ∀ c ∈ l, 48 ≤ c.toNat ∧ c.toNat ≤ 57

theorem Digits.init {l : List UInt8} {c : UInt8} (h : Digits (l ++ [c])) : Digits l ∧ 48 ≤ c.toNat ∧ c.toNat ≤ 57 :=
  ⟨fun x hx => h x (List.mem_append.2 (Or.inl hx)), h c (by simp)⟩
theorem Digits.snoc {l : List UInt8} {c : UInt8} (h : Digits l) (hc : 48 ≤ c.toNat ∧ c.toNat ≤ 57) : Digits (l ++ [c]) := by
  intro x hx
  rcases List.mem_append.1 hx with hx | hx
  · exact h x hx
  · simp at hx; subst hx; exact hc

theorem snoc_cases (l : List UInt8) : l = [] ∨ ∃ r c, l = r ++ [c] := by
  rcases h : l.reverse with _ | ⟨c, r⟩
  · exact Or.inl (by simpa using h)
  · exact Or.inr ⟨r.reverse, c, by have := congrArg List.reverse h; simpa using this⟩

theorem num_lt : ∀ (k : Nat) (l : List UInt8), l.length = k → Digits l → num l < 10 ^ k
  | 0, l, h, _ => by
    have : l = [] := List.eq_nil_of_length_eq_zero h
    subst this; simp [num]
  | k + 1, l, h, hd => by
    rcases snoc_cases l with rfl | ⟨r, c, rfl⟩
    · simp at h
    · have h1 := hd.init
      have := num_lt k r (by simpa using h) h1.1
      rw [num_snoc, Nat.pow_succ]
      omega

theorem num_lead (c : UInt8) (hc : c ≠ 48) (hc1 : 48 ≤ c.toNat ∧ c.toNat ≤ 57) : ∀ (k : Nat) (r : List UInt8), r.length = k → Digits r → 0 < num (c :: r) ∧ dd (num (c :: r)) = c :: r
  | 0, r, h, _ => by
    have : r = [] := List.eq_nil_of_length_eq_zero h
    subst this
    have h48 : c.toNat ≠ 48 := fun e => hc (UInt8.toNat_inj.1 (by simpa using e))
    have e : num [c] = c.toNat - 48 := by simp [num]
    rw [e]
    refine ⟨by omega, ?_⟩
    rw [dd_pos (by omega), show (c.toNat - 48) / 10 = 0 by omega, dd_zero, show 48 + (c.toNat - 48) % 10 = c.toNat by omega]
    simp
  | k + 1, r, h, hd => by
    rcases snoc_cases r with rfl | ⟨r', x, rfl⟩
    · simp at h
    · have h1 := hd.init
      obtain ⟨i1, i2⟩ := num_lead c hc hc1 k r' (by simpa using h) h1.1
      have e : num (c :: (r' ++ [x])) = 10 * num (c :: r') + (x.toNat - 48) := num_snoc (c :: r') x
      rw [e]
      refine ⟨by omega, ?_⟩
      rw [dd_pos (by omega), show (10 * num (c :: r') + (x.toNat - 48)) / 10 = num (c :: r') by omega, show 48 + (10 * num (c :: r') + (x.toNat - 48)) % 10 = x.toNat by omega, i2]
      simp

/-- figures of a number do not begin with a nought -/
theorem dd_head : ∀ (n : Nat), 0 < n → ∃ c r, dd n = c :: r ∧ c ≠ 48 := by
  intro n
  induction n using Nat.strongRecOn with
  | _ n ih =>
    intro h
    rw [dd_pos h]
    by_cases h1 : n / 10 = 0
    · rw [h1, dd_zero]
      refine ⟨_, [], rfl, ?_⟩
      intro e
      have := congrArg UInt8.toNat e
      simp only [UInt8.toNat_ofNat', UInt8.toNat_ofNat] at this
      omega
    · obtain ⟨c, r, e, hc⟩ := ih (n / 10) (by omega) (by omega)
      exact ⟨c, r ++ [UInt8.ofNat (48 + n % 10)], by rw [e]; rfl, hc⟩

/-- a text of figures is how its number is written, just when it has some and no needless nought ahead -/
theorem dec_num (l : List UInt8) (hd : Digits l) : dec (num l : Int) = l ↔ l ≠ [] ∧ ¬ (l.head? = some 48 ∧ 1 < l.length) := by
  match l, hd with
  | [], _ => simp [num, dec]
  | c :: r, hd =>
    have hc := hd c (by simp)
    have hr : Digits r := fun x hx => hd x (by simp [hx])
    by_cases h48 : c = 48
    · subst h48
      match r, hr with
      | [], _ => simp [num, dec]
      | x :: r', hr =>
        simp only [List.head?_cons, List.length_cons, ne_eq, reduceCtorEq, not_false_eq_true, true_and]
        constructor
        · intro e
          unfold dec at e
          split at e
          · simp at e
          · rename_i hz
            rw [if_neg (by omega), Int.natAbs_natCast] at e
            obtain ⟨y, q, e1, e2⟩ := dd_head (num (48 :: x :: r')) (by omega)
            rw [e1] at e
            simp only [List.cons.injEq] at e
            exact absurd e.1 e2
        · intro h
          exact absurd (by omega) h
    · obtain ⟨i1, i2⟩ := num_lead c h48 hc r.length r rfl hr
      unfold dec
      rw [if_neg (by omega), if_neg (by omega), Int.natAbs_natCast, i2]
      simp [h48]

theorem digits_figs (l : List UInt8) : Digits l ↔ Figs 10 l := by
  constructor
  · intro h c hc
    have := h c hc
    unfold lv
    rw [if_pos (by omega)]
    omega
  · intro h c hc
    have := h c hc
    unfold lv at this
    split at this
    · omega
    · split at this <;> omega
theorem lv_digit {c : UInt8} (h : 48 ≤ c.toNat ∧ c.toNat ≤ 57) : lv (c.toNat : Int) = ((c.toNat - 48 : Nat) : Int) := by
  unfold lv; rw [if_pos (by omega)]; omega

/-- a text that ReadDecimal takes -/
def DecOk (l : List UInt8) : Prop := Digits l ∧ num l ≤ 1000000000 ∧ l ≠ [] ∧ ¬ (l.head? = some 48 ∧ 1 < l.length)

theorem digits_at {s : ByteArray} {k : Nat} (hk : k < s.size) (h : ¬ (48 ≤ s[k].toNat ∧ s[k].toNat ≤ 57)) : ¬ DecOk s.data.toList := fun hd => h (hd.1 s[k] (mem_at s k hk))

theorem num_step {s : ByteArray} {k : Nat} (hk : k < s.size) (h : 48 ≤ (s[k].toNat : Int)) : ((num (s.data.toList.take (k + 1)) : Nat) : Int) = 10 * (num (s.data.toList.take k) : Int) + (s[k].toNat : Int) - 48 := by
  rw [take_snoc s k hk, num_snoc]
  omega

theorem ret_num {a b : Nat} (h : a = b) : Ending.returned (.tuple #[.int .i64 a, .bool true]) = .returned (.tuple #[.int .i64 b, .bool true]) := by rw [h]

theorem same_dec {s : ByteArray} {l : List UInt8} : (!l == s.toList) = false ↔ l = s.data.toList := by
  rw [ByteArray.toList_eq]; simp
end Go.Proofs.Ytjcphahbplmmdaa

namespace Go.Proofs.Ytjcphahbplmmdaa
open Go.RowKit

/-- elements of several cells each go over by copy, into the beginning of a row -/
theorem run_copy_part {P : Program} (w : World) (dT sT ty elem : TypeId) (g dLen dCap : Nat) (a : Addr) (sLen sCap size : Nat) (cur : Array Value) (t : TypeId) (cs : List Value)
    (hu : P.underlying dT = some (.slice elem)) (hs : (P.info? elem).map (·.size) = some size) (hg : w.heap[g]? = some (.cells cur t (0, 0))) (hn : cs.length = Nat.min sLen dLen * size)
    (hsrc : ∀ j v, cs[j]? = some v → w.cell? (a.add j) = some v) (hfit : cs.length ≤ cur.size) (h1 : ∀ v ∈ cs, v.oneCell' = true) :
    (Builtin.copy_ #[dT, sT] ty #[.slice (some ⟨g, 0, none⟩) dLen dCap, .slice (some a) sLen sCap]).run P w = .ok (goInt (Nat.min sLen dLen)) (w.setRow g (cs ++ cur.toList.drop cs.length).toArray) := by
  have hl := run_loadCells_list (P := P) w a cs hsrc
  have hst := run_storeCells_at P g 0 t cs 0 cur w hg (by omega) h1
  rw [Nat.zero_add, Nat.zero_add, List.take_zero, List.nil_append] at hst
  cases hq : P.info? elem with
  | none => simp [hq] at hs
  | some i =>
    have hi : i.size = size := by simpa [hq] using hs
    simp [Builtin.copy_, run_underlying hu, Builtin.lenOf, Builtin.firstCells, sizeOf, typeInfo, hq, hi, ← hn, hl, hst]

/-- a cell of slots that lie in memory -/
theorem slots_cells {w : World} {b off : Nat} {l : List SlotD} (h : ∀ j (hj : j < l.length), w.cell? ⟨b, off + j * 2, none⟩ = some (.int .i64 l[j].own) ∧ w.cell? ⟨b, off + j * 2 + 1, none⟩ = some (.string l[j].text)) :
    ∀ j u, (slotCells l)[j]? = some u → w.cell? ((⟨b, off, none⟩ : Addr).add j) = some u := by
  intro j u hu
  have hlt : j < (slotCells l).length := (List.getElem?_eq_some_iff.1 hu).1
  rw [slotCells_length] at hlt
  have hj : j / 2 < l.length := by omega
  have hr := row_at slotEnc 2 (fun _ => rfl) l [] (j / 2) (j % 2) hj (Nat.mod_lt _ (by omega))
  rw [List.append_nil, show j / 2 * 2 + j % 2 = j by omega] at hr
  have hu' : (slotEnc l[j / 2])[j % 2]? = some u := by rw [← hr]; exact hu
  have hadd : (⟨b, off, none⟩ : Addr).add j = ⟨b, off + j, none⟩ := Addr.add_lit _ _ _
  rw [hadd]
  obtain ⟨h0, h1⟩ := h (j / 2) hj
  have h3 : j % 2 = 0 ∨ j % 2 = 1 := by omega
  rcases h3 with e | e
  · rw [e] at hu'
    simp only [slotEnc, List.getElem?_cons_zero, Option.some.injEq] at hu'
    rw [← hu', show off + j = off + j / 2 * 2 by omega]
    exact h0
  · rw [e] at hu'
    simp only [slotEnc, List.getElem?_cons_succ, List.getElem?_cons_zero, Option.some.injEq] at hu'
    rw [← hu', show off + j = off + j / 2 * 2 + 1 by omega]
    exact h1

/-- a wheel without slots yet -/
def wheel0 (n h t : Nat) : List Value := slotCells (List.replicate 8 slot0) ++ [.int .i64 n, .int .i64 h, .int .i64 t]
theorem wheel0_fill {l : List SlotD} (h8 : l.length ≤ 8) (h t : Nat) : slotCells l ++ (wheel0 l.length h t).drop (slotCells l).length = wheelC l h t := by
  rw [wheel0, wheelC, slotCells_length, List.drop_append_of_le_length (by rw [slotCells_length]; simp; omega), ← List.append_assoc]
  congr 1
  have e : List.replicate 8 slot0 = List.replicate l.length slot0 ++ List.replicate (8 - l.length) slot0 := by rw [List.replicate_append_replicate]; congr 1; omega
  have e2 : slotCells (List.replicate 8 slot0) = slotCells (List.replicate l.length slot0) ++ slotCells (List.replicate (8 - l.length) slot0) := by rw [e, slotCells, List.flatMap_append]; rfl
  rw [e2, List.drop_append, List.drop_of_length_le (by rw [slotCells_length]; simp), slotCells_length, List.length_replicate, Nat.sub_self, List.drop_zero, List.nil_append, padS, slotCells, slotCells, slotCells, List.flatMap_append]

theorem wheel0_one (n h t : Nat) : ∀ v ∈ wheel0 n h t, v.oneCell' = true := by
  intro v hv
  rcases List.mem_append.1 hv with hv | hv
  · exact slotCells_one _ v hv
  · simp at hv
    rcases hv with rfl | rfl | rfl <;> rfl
set_option maxRecDepth 1000000 in
theorem slot_size : (Try.prog.info? 52).map (·.size) = some 2 := by kernel_rfl
set_option maxRecDepth 1000000 in
theorem wheel_size : (Try.prog.info? 55).map (·.size) = some 19 := by kernel_rfl

/-- the slots of a ring go over into a wheel's array -/
theorem copy_wheel {W : World} {b : Nat} {ao : Option Addr} {l : List SlotD} {cap h t : Nat} (hp : (1 ≤ l.length ∧ l.length ≤ 8) ∧ h < l.length ∧ t < l.length) (hb : BlockIs W b 55 (wheel0 l.length h t)) (ha : SlotsAt W ao l) :
    ∃ W2, (Builtin.copy_ #[24, 24] 3 #[.slice (some ⟨b, 0, none⟩) 8 8, .slice ao l.length cap]).run Try.prog W = .ok (goInt l.length) W2 ∧ WheelIs W2 b l h t ∧ W2.heap.size = W.heap.size ∧ ∀ B w0, Below B w0 W → B ≤ b → Below B w0 W2 := by
  obtain ⟨⟨p1, p2⟩, p3, p4⟩ := hp
  obtain ⟨x, off, rfl, hc⟩ := ha (by intro e; rw [e] at p1; simp at p1)
  have hm : Nat.min l.length 8 = l.length := Nat.min_eq_left p2
  have hr := run_copy_part W 24 24 3 52 b 8 8 ⟨x, off, none⟩ l.length cap 2 _ 55 (slotCells l) Try.underlying24 slot_size hb (by rw [slotCells_length, hm]) (slots_cells hc) (by rw [slotCells_length]; show _ ≤ 19; omega) (slotCells_one l)
  rw [hm] at hr
  refine ⟨_, hr, ⟨?_, ⟨p1, p2⟩, p3, p4⟩, by simp [World.setRow], fun B w0 hB hl => below_setRow hB hl _⟩
  rw [show (wheel0 l.length h t).toArray.toList = wheel0 l.length h t from rfl, wheel0_fill p2]
  exact setRow_heap W b _ _ _ _ hb

/-- a wheel is read whole -/
theorem load_wheel {W : World} {b : Nat} {l : List SlotD} {h t : Nat} (hw : WheelIs W b l h t) : (Instr.loadAt 55 (.pointer (some ⟨b, 0, none⟩))).run Try.prog W = .ok (.agg (wheelC l h t).toArray) W := by
  refine run_loadAt_mid W b 0 55 (wheelC l h t) _ (fun j v hv => ?_) Try.underlying55 rfl (by rw [wheel_size, wheelC_length hw.2.1.2])
  rw [Nat.zero_add]
  exact hw.1.cell hv
/-- a wheel is written whole -/
theorem store_wheel {W : World} {b : Nat} {cs : List Value} (hb : BlockIs W b 55 cs) (hn : cs.length = 19) {A : Array Value} (hA : A.size = 19) (h1 : A.all (·.oneCell') = true) : (Instr.storeAt 55 (.pointer (some ⟨b, 0, none⟩)) (.agg A)).run Try.prog W = .ok () (W.setRow b A) := by
  simp only [Instr.storeAt, Instr.sureAddr, Sem.run_bind, Sem.run_pure, Result.andThen_ok, run_storeVar_row W b 55 55 cs.toArray A hb (by rw [wheel_size, hA]) (by simp [hn, hA]) h1]
theorem store_block {W : World} {b : Nat} {cs : List Value} {t : TypeId} (hb : BlockIs W b t cs) (A : Array Value) : BlockIs (W.setRow b A) b t A.toList := setRow_heap W b _ _ _ _ hb
theorem block_setRow {W : World} {b g : Nat} {cs : List Value} {t : TypeId} (hb : BlockIs W g t cs) (hg : b ≠ g) (A : Array Value) : BlockIs (W.setRow b A) g t cs := by
  unfold BlockIs
  rw [setRow_other W b g A (by omega)]
  exact hb
/-- a wheel is written whole, as the walk meets it -/
theorem wpList_store_wheel {ops : Array Oper} {rest : List Oper} {op : Oper} {a : Act} {w : World} {Q : Exit → Act → World → Prop} (hgd : op.guard = none) (x y : Operand) (ho : op.op = .store 55 x y)
    (b : Nat) (A : Array Value) (hx : a.eval x = .pointer (some ⟨b, 0, none⟩)) (hy : a.eval y = .agg A) (cs : List Value) (hb : BlockIs w b 55 cs) (hn : cs.length = 19) (hA : A.size = 19) (h1 : A.all (·.oneCell') = true)
    (h : wpList Try.prog ops Q rest (a.put op.dst undef) (w.setRow b A)) : wpList Try.prog ops Q (op :: rest) a w :=
  wpList_plain hgd fun _ hK => by
    unfold Oper.wp execOp
    simp only [ho, hx, hy, store_wheel hb hn hA h1, Sem.run_bind, Sem.run_pure, Result.andThen_ok]
    exact hK _ _ h
set_option maxRecDepth 1000000 in
theorem wheel_built (n h t : Nat) : Try.prog.built 55 [(1, .int .i64 n), (2, .int .i64 h), (3, .int .i64 t)] = some (wheel0 n h t).toArray := by kernel_rfl
/-- a wheel is built, as the walk meets it -/
theorem wpList_build_wheel {ops : Array Oper} {rest : List Oper} {o : Oper} {a : Act} {w : World} {Q : Exit → Act → World → Prop} (hg : o.guard = none) (x y z : Operand) (ho : o.op = .build 55 #[(1, x), (2, y), (3, z)])
    (n h t : Nat) (hx : a.eval x = .int .i64 n) (hy : a.eval y = .int .i64 h) (hz : a.eval z = .int .i64 t)
    (hh : wpList Try.prog ops Q rest (a.put o.dst (.agg (wheel0 n h t).toArray)) w) : wpList Try.prog ops Q (o :: rest) a w :=
  wpList_plain hg fun _ hK => by
    unfold Oper.wp execOp
    simp only [ho, hx, hy, hz, List.map_toArray, List.map_cons, List.map_nil, run_build w 55 #[(1, .int .i64 n), (2, .int .i64 h), (3, .int .i64 t)] (wheel0 n h t).toArray (wheel_built n h t), Sem.run_bind, Sem.run_pure, Result.andThen_ok]
    exact hK _ _ hh
set_option maxRecDepth 1000000 in
theorem wheel_built0 : Try.prog.built 55 [] = some (wheel0 0 0 0).toArray := by kernel_rfl
theorem wpList_build_wheel0 {ops : Array Oper} {rest : List Oper} {o : Oper} {a : Act} {w : World} {Q : Exit → Act → World → Prop} (hg : o.guard = none) (ho : o.op = .build 55 #[])
    (hh : wpList Try.prog ops Q rest (a.put o.dst (.agg (wheel0 0 0 0).toArray)) w) : wpList Try.prog ops Q (o :: rest) a w :=
  wpList_plain hg fun _ hK => by
    unfold Oper.wp execOp
    simp only [ho, List.map_toArray, List.map_nil, run_build w 55 #[] (wheel0 0 0 0).toArray wheel_built0, Sem.run_bind, Sem.run_pure, Result.andThen_ok]
    exact hK _ _ hh
theorem wheel_over (w : World) (c c' : Array Value) (t : TypeId) : (w.alloc (.cells c t)).setRow w.heap.size c' = w.alloc (.cells c' t) := by
  simp only [World.setRow, World.alloc]
  congr 1
  apply Array.ext_getElem?
  intro i
  rw [Array.getElem?_modify]
  by_cases h : w.heap.size = i
  · subst h
    simp
  · have h' : ¬ i = w.heap.size := fun e => h e.symm
    simp [h, h', Array.getElem?_push]
end Go.Proofs.Ytjcphahbplmmdaa

namespace Go.Proofs.Ytjcphahbplmmdaa
open Go.RowKit

/-- a number within bounds -/
def within (x a b : Int) : Bool := decide (a ≤ x) && decide (x ≤ b)
theorem within_yes {x a b : Int} (h1 : a ≤ x) (h2 : x ≤ b) : within x a b = true := by simp [within, h1, h2]
theorem within_no {x a b : Int} (h : x < a ∨ b < x) : within x a b = false := by
  simp only [within, Bool.and_eq_false_imp, decide_eq_true_eq, decide_eq_false_iff_not]
  omega
theorem within_iff {x a b : Int} : within x a b = true ↔ a ≤ x ∧ x ≤ b := by simp [within]
end Go.Proofs.Ytjcphahbplmmdaa

namespace Go.Proofs.Ytjcphahbplmmdaa
open Go.RowKit

theorem slotCells_set (L : List SlotD) (p : Nat) (hp : p < L.length) (d : SlotD) : ((slotCells L).set (p * 2) (.int .i64 d.own)).set (p * 2 + 1) (.string d.text) = slotCells (L.set p d) := by
  have e1 : slotCells L = slotCells (L.take p) ++ .int .i64 L[p].own :: .string L[p].text :: slotCells (L.drop (p + 1)) := by
    have h0 : L = L.take p ++ (L[p] :: L.drop (p + 1)) := by rw [← List.drop_eq_getElem_cons hp, List.take_append_drop]
    have h1 : slotCells L = slotCells (L.take p ++ (L[p] :: L.drop (p + 1))) := by rw [← h0]
    rw [h1, slotCells, List.flatMap_append]
    rfl
  have e2 : slotCells (L.set p d) = slotCells (L.take p) ++ .int .i64 d.own :: .string d.text :: slotCells (L.drop (p + 1)) := by
    rw [List.set_eq_take_append_cons_drop, if_pos hp, slotCells, List.flatMap_append]
    rfl
  have e3 := slot_sets (slotCells (L.take p)) (.int .i64 d.own) (.string d.text) (.int .i64 L[p].own) (.string L[p].text) (slotCells (L.drop (p + 1)))
  rw [slotCells_length, List.length_take, Nat.min_eq_left (by omega)] at e3
  rw [e1, e3, e2]
theorem wheelC_set {l : List SlotD} {h t p : Nat} (h8 : l.length ≤ 8) (hp : p < l.length) (d : SlotD) : ((wheelC l h t).set (p * 2) (.int .i64 d.own)).set (p * 2 + 1) (.string d.text) = wheelC (l.set p d) h t := by
  unfold wheelC
  have h16 := slotCells8 h8
  rw [List.set_append_left _ _ (by rw [h16]; omega), List.set_append_left _ _ (by rw [List.length_set, h16]; omega), slotCells_set (padS l) p (by rw [padS_length h8]; omega) d, padS_set d hp, List.length_set]
theorem wheelC_head {l : List SlotD} {h t h' : Nat} (h8 : l.length ≤ 8) : (wheelC l h t).set 17 (.int .i64 h') = wheelC l h' t := by
  unfold wheelC
  rw [List.set_append_right _ _ (by rw [slotCells8 h8]; omega), slotCells8 h8]
  rfl
theorem wheelC_tail {l : List SlotD} {h t t' : Nat} (h8 : l.length ≤ 8) : (wheelC l h t).set 18 (.int .i64 t') = wheelC l h t' := by
  unfold wheelC
  rw [List.set_append_right _ _ (by rw [slotCells8 h8]; omega), slotCells8 h8]
  rfl
theorem WheelIs.put {w : World} {b : Nat} {l : List SlotD} {h t p : Nat} (hw : WheelIs w b l h t) (hp : p < l.length) (d : SlotD) : WheelIs ((w.setCell ⟨b, p * 2, none⟩ (.int .i64 d.own)).setCell ⟨b, p * 2 + 1, none⟩ (.string d.text)) b (l.set p d) h t := by
  have h1 := (hw.1.set (p * 2) (.int .i64 d.own)).set (p * 2 + 1) (.string d.text)
  rw [wheelC_set hw.2.1.2 hp] at h1
  exact ⟨h1, by rw [List.length_set]; exact hw.2⟩
theorem WheelIs.setHead {w : World} {b : Nat} {l : List SlotD} {h t h' : Nat} (hw : WheelIs w b l h t) (hh : h' < l.length) : WheelIs (w.setCell ⟨b, 17, none⟩ (.int .i64 h')) b l h' t := by
  have h1 := hw.1.set 17 (.int .i64 h')
  rw [wheelC_head hw.2.1.2] at h1
  exact ⟨h1, hw.2.1, hh, hw.2.2.2⟩
theorem WheelIs.setTail {w : World} {b : Nat} {l : List SlotD} {h t t' : Nat} (hw : WheelIs w b l h t) (hh : t' < l.length) : WheelIs (w.setCell ⟨b, 18, none⟩ (.int .i64 t')) b l h t' := by
  have h1 := hw.1.set 18 (.int .i64 t')
  rw [wheelC_tail hw.2.1.2] at h1
  exact ⟨h1, hw.2.1, hw.2.2.1, hh⟩
theorem WheelIs.slots {w : World} {b : Nat} {l : List SlotD} {h t : Nat} (hw : WheelIs w b l h t) : SlotsAt w (some ⟨b, 0, none⟩) l := by
  intro _
  refine ⟨b, 0, rfl, fun j hj => ?_⟩
  have h8 : j < 8 := by have := hw.2.1.2; omega
  have h1 := hw.own h8
  have h2 := hw.text h8
  rw [slotAt_eq hj] at h1 h2
  rw [Nat.zero_add]
  exact ⟨h1, h2⟩
set_option maxRecDepth 1000000 in
theorem arr_size : (Try.prog.info? (Try.prog.elem 53)).map (·.size) = some 2 := by kernel_rfl
set_option maxRecDepth 1000000 in
theorem arr_len : Try.prog.arrayLen 53 = 8 := by kernel_rfl
set_option maxRecDepth 1000000 in
theorem arr_under : Try.prog.underlying 53 = some (.array (Try.prog.arrayLen 53) (Try.prog.elem 53)) := by kernel_rfl
/-- the first n slots of a wheel, as a slice -/
theorem slice_wheel (W : World) (b n : Nat) (hn : n ≤ 8) : (Instr.sliceAt 53 (.pointer (some ⟨b, 0, none⟩)) none (some (.int .i64 n)) none).run Try.prog W = .ok (.slice (some ⟨b, 0, none⟩) n 8) W := by
  rw [run_sliceAt_array_h W 53 ⟨b, 0, none⟩ arr_under .i64 n (by omega) (by rw [arr_len]; omega)]
  have hs := arr_size
  cases hq : Try.prog.info? (Try.prog.elem 53) with
  | none => rw [hq] at hs; cases hs
  | some i =>
    rw [arr_len]
    simp [sizeOf, typeInfo, hq, slicedAt, Addr.add]
end Go.Proofs.Ytjcphahbplmmdaa

namespace Go.Proofs.Ytjcphahbplmmdaa
open Go.RowKit

def PostRDid (l : List SlotD) (s t : Int) (x : ByteArray) (w : World) (e : Ending) (w' : World) : Prop :=
  ∃ va vc, e = .returned (.tuple #[.agg #[.slice va (postL l s t x).length vc, .int .i64 (postH l s t x), .int .i64 t], .bool (postOk l s t x)]) ∧ (postL l s t x).length ≤ vc ∧ OwnAt w' 52 (slotCells (postL l s t x)) (postL l s t x).length va w.heap.size w'.heap.size ∧ Below w.heap.size w w'
theorem post_no {l : List SlotD} {s t : Int} {x : ByteArray} {w w' : World} {va : Option Addr} {vc : Nat} (h : postOk l s t x = false) (hc : l.length ≤ vc) (ho : OwnAt w' 52 (slotCells l) l.length va w.heap.size w'.heap.size) (hb : Below w.heap.size w w') :
    PostRDid l s t x w (.returned (.tuple #[.agg #[.slice va l.length vc, .int .i64 s, .int .i64 t], .bool false])) w' := by
  unfold PostRDid postL postH
  rw [h]
  exact ⟨va, vc, rfl, hc, ho, hb⟩
theorem post_yes {l : List SlotD} {h u N g vc : Nat} {x : ByteArray} {w w' : World} {r : List Value} (hok : postOk l h u x = true) (hN : (h + 1) % l.length = N) (hc : l.length ≤ vc) (hg : w.heap.size ≤ g) (hk : BlockIs w' g 52 (slotCells (l.set h ⟨1, x⟩) ++ r)) (hb : Below w.heap.size w w') :
    PostRDid l h u x w (.returned (.tuple #[.agg #[.slice (some ⟨g, 0, none⟩) l.length vc, .int .i64 N, .int .i64 u], .bool true])) w' := by
  unfold PostRDid postL postH
  rw [hok, if_pos rfl, if_pos rfl, Int.toNat_natCast, List.length_set, hN]
  exact ⟨_, _, rfl, hc, Or.inr ⟨g, r, rfl, hg, hk.lt, hk⟩, hb⟩
def TakeRDid (l : List SlotD) (s t : Int) (w : World) (e : Ending) (w' : World) : Prop :=
  ∃ va vc, e = .returned (.tuple #[.agg #[.slice va (takeL l s t).length vc, .int .i64 s, .int .i64 (takeT l s t)], .string (takeS l s t), .bool (takeOk l s t)]) ∧ (takeL l s t).length ≤ vc ∧ OwnAt w' 52 (slotCells (takeL l s t)) (takeL l s t).length va w.heap.size w'.heap.size ∧ Below w.heap.size w w'
theorem take_no {l : List SlotD} {s t : Int} {w w' : World} {va : Option Addr} {vc : Nat} (h : takeOk l s t = false) (hc : l.length ≤ vc) (ho : OwnAt w' 52 (slotCells l) l.length va w.heap.size w'.heap.size) (hb : Below w.heap.size w w') :
    TakeRDid l s t w (.returned (.tuple #[.agg #[.slice va l.length vc, .int .i64 s, .int .i64 t], .string ByteArray.empty, .bool false])) w' := by
  unfold TakeRDid takeL takeT takeS
  rw [h]
  exact ⟨va, vc, rfl, hc, ho, hb⟩
theorem take_yes {l : List SlotD} {h u N g vc : Nat} {w w' : World} {r : List Value} (hu : u < l.length) (hok : takeOk l h u = true) (hN : (u + 1) % l.length = N) (hc : l.length ≤ vc) (hg : w.heap.size ≤ g) (hk : BlockIs w' g 52 (slotCells (l.set u slot0) ++ r)) (hb : Below w.heap.size w w') :
    TakeRDid l h u w (.returned (.tuple #[.agg #[.slice (some ⟨g, 0, none⟩) l.length vc, .int .i64 h, .int .i64 N], .string l[u].text, .bool true])) w' := by
  unfold TakeRDid takeL takeT takeS
  rw [hok, if_pos rfl, if_pos rfl, if_pos rfl, Int.toNat_natCast, List.length_set, hN, slotAt_eq hu]
  exact ⟨_, _, rfl, hc, Or.inr ⟨g, r, rfl, hg, hk.lt, hk⟩, hb⟩
end Go.Proofs.Ytjcphahbplmmdaa
