/-
  Plain facts on the bytes of a number in sevens and on rows of bytes in memory; nothing of the program stands here.
  A block of memory of the call's own: its cells as a list; rows of elements of so many cells each.
  Late as data; rows of them in memory, one behind the other.
  Seg as data; rows of them in memory, one behind the other.
  A number within bounds; nothing of the program stands here.
  Numbers that go round at 65536; nothing of the program stands here.
  A stream as data: what is right, written, shut, pushed and heard; nothing of the program stands here.
  Late that came in, read as data: one of them, and a row.
  A row of Late that came in, read as data.
  A stream that came in, read as data.
  An element of a row of Late, written; a row that was just made.
  Rows of the call's own that grow: what stands behind an append.
  Rows of the call's own between two sizes of memory; blocks laid one behind the other.
  A stream in memory: read and written whole.
  Plain facts on rows that a call owns; nothing of the program stands here.
  Plain facts on figures; nothing of the program stands here.
  Plain facts on the values of figures; nothing of the program stands here.
  Plain facts on decimal figures; nothing of the program stands here.
  Lates in a row of the call's own.
  Seg that came in, read as data: one of them, and a row.
  Rows of Late of the call's own: they grow.
  Rows of the call's own beside blocks of another kind; a stream whose early texts are the call's own.
  An element of a row of Seg, written; a row that was just made.
  Rows of Seg of the call's own: they grow.
  What a stream sends; nothing of the program stands here.
  Dgram as data; rows of them in memory, one behind the other.
  Plain facts on sums of sixteen bits, whose carry comes in at the low end; nothing of the program stands here.
  Plain facts on datagrams: which are right, their text, what a text tells; nothing of the program stands here.
  Plain facts on segments: which are right, their text, what a text tells; nothing of the program stands here.
  What a stream hears; nothing of the program stands here.
  A stream behind a pointer.
  A stream behind a pointer that is turned by what it hears: other blocks stand.
  Plain facts on what a stream takes of early texts; nothing of the program stands here.
  Plain facts on what a stream has heard: how long its early texts and what came are; nothing of the program stands here.
  An endpoint in memory: a stream, the time and what goes out.
  An endpoint that is turned by what it hears: blocks of other kinds stand.
-/
import Derived.WalkKit
import Derived.RowKit
import Derived.WalkSmall
import Derived.BigQuiet
import Derived.Deep.LoopGhost
import Derived.Test.YtngcldjkpcmidaaRows
import Derived.Deep.Strs
import Derived.ChangeSame
import Derived.OpenShut
import Derived.OwnWalk
import Derived.Laws.AppendOwn
import Derived.Laws.CopyOwn
import Derived.Laws.Tables
import Derived.Deep.MidRow
import Derived.Maps.AppendAt
namespace Go.Proofs.Ytngcldjkpcmidaa
open Go.RowKit

/-- the bytes of n, seven bits a byte, the least first (with so many steps at the most) -/
def vbF : Nat → Nat → List UInt8
  | 0, n => [UInt8.ofNat n]
  | f + 1, n => if n ≤ 127 then [UInt8.ofNat n] else UInt8.ofNat (n % 128 + 128) :: vbF f (n / 128)
/-- the bytes of n, seven bits a byte, the least first -/
def vb (n : Nat) : List UInt8 := vbF n n

theorem vbF_eq : ∀ (f g n : Nat), n ≤ f → n ≤ g → vbF f n = vbF g n
  | 0, 0, _, _, _ => rfl
  | 0, g + 1, n, h, _ => by
    obtain rfl : n = 0 := by omega
    rw [vbF, vbF, if_pos (by omega)]
  | f + 1, 0, n, _, h => by
    obtain rfl : n = 0 := by omega
    rw [vbF, vbF, if_pos (by omega)]
  | f + 1, g + 1, n, h1, h2 => by
    rw [vbF, vbF]
    by_cases h : n ≤ 127
    · rw [if_pos h, if_pos h]
    · rw [if_neg h, if_neg h, vbF_eq f g (n / 128) (by omega) (by omega)]
theorem vb_small {n : Nat} (h : n ≤ 127) : vb n = [UInt8.ofNat n] := by
  rw [vb, vbF_eq n (n + 1) n (Nat.le_refl _) (by omega), vbF, if_pos h]
theorem vb_big {n : Nat} (h : 127 < n) : vb n = UInt8.ofNat (n % 128 + 128) :: vb (n / 128) := by
  rw [vb, vbF_eq n (n + 1) n (Nat.le_refl _) (by omega), vbF, if_neg (by omega), vb, vbF_eq n (n / 128) (n / 128) (by omega) (Nat.le_refl _)]

theorem vb_pos (n : Nat) : 0 < (vb n).length := by
  by_cases h : n ≤ 127
  · rw [vb_small h]; simp
  · rw [vb_big (by omega)]; simp

theorem vb_le (n : Nat) : (vb n).length ≤ n + 1 := by
  induction n using Nat.strongRecOn with
  | _ n ih =>
    by_cases h : n ≤ 127
    · rw [vb_small h]; simp
    · rw [vb_big (by omega)]
      have := ih (n / 128) (by omega)
      simp only [List.length_cons]
      omega

/-- bytes as the cells of a row -/
def cs (l : List UInt8) : List Value := l.map fun b => Value.int .u8 (b.toNat : Int)

theorem cs_append (l r : List UInt8) : cs (l ++ r) = cs l ++ cs r := by simp [cs]
theorem cs_length (l : List UInt8) : (cs l).length = l.length := by simp [cs]
theorem cs_one {x : Int} (h0 : 0 ≤ x) (h1 : x ≤ 255) : [Value.int .u8 x] = cs [UInt8.ofNat x.toNat] := by
  simp [cs]
  omega

/-- a row that the call owns, turned into a text -/
theorem text_of_row {P : Program} {w : World} {base : Nat} {v : Value} {l : List UInt8} {src dst e : TypeId} (hs : P.underlying src = some (.slice e)) (he : P.underlying e = some (.int .u8)) (hd : P.underlying dst = some .string)
    (h : w.ownsRow base e 1 v l.length (cs l)) : (convert src dst v).run P w = .ok (.string ⟨l.toArray⟩) w := by
  obtain ⟨h1, h2⟩ := h
  rcases h2 with ⟨hv, hn⟩ | ⟨g, cap, cur, hv, hg, hh, hle, hm, hsz, hx⟩
  · have hl : l = [] := by cases l with | nil => rfl | cons a r => simp at hn
    subst hl hv
    exact run_convert_bytes_nil w src e hs he 0 0 dst hd
  · subst hv
    refine run_convert_bytes_back w src dst e ⟨g, 0, none⟩ cap l hs he hd fun j hj => ?_
    have hu : (cs l)[j]? = some (.int .u8 (l[j].toNat : Int)) := by simp [cs, hj]
    exact World.ownsRow.cells (w := w) (base := base) (e := e) (size := 1) ⟨h1, Or.inr ⟨g, cap, cur, rfl, hg, hh, hle, hm, hsz, hx⟩⟩ rfl j _ hu

/-- a piece of a text, its bounds as whole numbers -/
theorem slice_nat {P : Program} {t : TypeId} (h : P.underlying t = some .string) (s : ByteArray) (a b : Nat) (x y : Int) (hx : x = a) (hy : y = b) (hab : a ≤ b) (hb : b ≤ s.size) (w : World) :
    (Instr.slice t (.string s) (some (.int .i64 x)) (some (.int .i64 y)) none).run P w = .ok (.string (s.extract a b)) w := by
  subst hx hy
  rw [run_slice_string w t s .i64 .i64 a b h (by omega) (by omega) (by omega)]
  simp

theorem extract_eq (s : ByteArray) (a b : Nat) : (s.extract a b).data.toList = (s.data.toList.drop a).take (b - a) := by
  simp [ByteArray.extract, ByteArray.copySlice]

theorem var_step {n m : Nat} {acc : List UInt8} {w wr w1 : World} {v v' : Value} (hm : 127 < m) (hacc : acc ++ vb m = vb n) (hown : wr.ownsRow w.heap.size 5 1 v acc.length (cs acc))
    (hown' : w1.ownsRow w.heap.size 5 1 v' (acc.length + 1) (cs acc ++ [.int .u8 ((m : Int) % 128 + 128)])) (hgrow : (wr.alloc (.cells #[.int .u8 ((m : Int) % 128 + 128)] 5)).grownBy w1 v.ownBlock) (hb : Below w.heap.size w wr) :
    (acc ++ [UInt8.ofNat (m % 128 + 128)]) ++ vb (m / 128) = vb n ∧ w1.ownsRow w.heap.size 5 1 v' (acc ++ [UInt8.ofNat (m % 128 + 128)]).length (cs (acc ++ [UInt8.ofNat (m % 128 + 128)])) ∧ Below w.heap.size w w1 := by
  refine ⟨by rw [← hacc, vb_big hm]; simp, ?_, (hb.alloc hb.size _).grown hgrow (by have := hb.size; simp; omega) (fun k hk => (hown.lt k hk).1)⟩
  have e : [Value.int .u8 ((m : Int) % 128 + 128)] = cs [UInt8.ofNat (m % 128 + 128)] := by
    rw [cs_one (by omega) (by omega)]
    have : ((m : Int) % 128 + 128).toNat = m % 128 + 128 := by omega
    rw [this]
  rw [e, ← cs_append] at hown'
  simpa using hown'

theorem var_end {n m : Nat} {acc : List UInt8} {w wr w1 : World} {v v' : Value} (hm : m ≤ 127) (hacc : acc ++ vb m = vb n) (hown : wr.ownsRow w.heap.size 5 1 v acc.length (cs acc))
    (hown' : w1.ownsRow w.heap.size 5 1 v' (acc.length + 1) (cs acc ++ [.int .u8 (m : Int)])) (hgrow : (wr.alloc (.cells #[.int .u8 (m : Int)] 5)).grownBy w1 v.ownBlock) (hb : Below w.heap.size w wr) :
    w1.ownsRow w.heap.size 5 1 v' (vb n).length (cs (vb n)) ∧ Below w.heap.size w w1 := by
  refine ⟨?_, (hb.alloc hb.size _).grown hgrow (by have := hb.size; simp; omega) (fun k hk => (hown.lt k hk).1)⟩
  have e : [Value.int .u8 (m : Int)] = cs [UInt8.ofNat m] := by
    rw [cs_one (by omega) (by omega)]
    simp
  rw [e, ← cs_append, ← vb_small hm, hacc] at hown'
  have hl : acc.length + 1 = (vb n).length := by rw [← hacc, vb_small hm]; simp
  rw [hl] at hown'
  exact hown'

end Go.Proofs.Ytngcldjkpcmidaa

namespace Go.Proofs.Ytngcldjkpcmidaa
open Go.RowKit

/-- hidden from the walk -/
theorem hid {p : Prop} (h : p) : Hid p := h
theorem below_more {w w' : World} (h : Below w.heap.size w w') (o : Obj) : Below w.heap.size w (w'.alloc o) := h.alloc h.size o
theorem below_via {w w1 w2 : World} (h : Below w.heap.size w w1) (h2 : Below w1.heap.size w1 w2) : Below w.heap.size w w2 := h.trans (h2.mono h.size)

/-- block g holds just these cells, of elements of type t -/
def BlockIs (w : World) (g : Nat) (t : TypeId) (cs : List Value) : Prop := w.heap[g]? = some (.cells cs.toArray t (0, 0))

theorem BlockIs.lt {w : World} {g : Nat} {t : TypeId} {cs : List Value} (h : BlockIs w g t cs) : g < w.heap.size := by
  rcases Nat.lt_or_ge g w.heap.size with q | q
  · exact q
  · rw [BlockIs, Array.getElem?_eq_none q] at h; cases h
theorem BlockIs.cell {w : World} {g : Nat} {t : TypeId} {cs : List Value} (h : BlockIs w g t cs) {j : Nat} {v : Value} (hj : cs[j]? = some v) : w.cell? ⟨g, j, none⟩ = some v := by
  unfold BlockIs at h
  simp [World.cell?, h, hj]
theorem BlockIs.thaw {w : World} {g : Nat} {t : TypeId} {cs : List Value} (h : BlockIs w g t cs) (j : Nat) : w.frozen? ⟨g, j, none⟩ = false := by
  unfold BlockIs at h
  simp [World.frozen?, h]
theorem BlockIs.set {w : World} {g : Nat} {t : TypeId} {cs : List Value} (h : BlockIs w g t cs) (j : Nat) (v : Value) : BlockIs (w.setCell ⟨g, j, none⟩ v) g t (cs.set j v) := by
  unfold BlockIs at h ⊢
  simp only [World.setCell]
  rw [Array.getElem?_modify, if_pos rfl, h]
  simp [Array.setIfInBounds]
  exact fun hj => (List.set_eq_of_length_le hj).symm
theorem BlockIs.far {w : World} {g : Nat} {t : TypeId} {cs : List Value} (h : BlockIs w g t cs) {b j : Nat} (hb : b ≠ g) (v : Value) : BlockIs (w.setCell ⟨b, j, none⟩ v) g t cs := by
  unfold BlockIs at h ⊢
  simp only [World.setCell]
  rw [Array.getElem?_modify, if_neg hb]
  exact h
theorem BlockIs.on {w w' : World} {g : Nat} {t : TypeId} {cs : List Value} (h : BlockIs w g t cs) {B : Nat} (hb : Below B w w') (hg : g < B) : BlockIs w' g t cs := by
  unfold BlockIs
  rw [hb.block g hg]
  exact h
theorem BlockIs.made {w' : World} {g base : Nat} {t : TypeId} {n size : Nat} {xs : List Value} (h : w'.ownsRow base t size (.slice (some ⟨g, 0, none⟩) n n) n xs) : BlockIs w' g t xs := by
  obtain ⟨hx, (⟨h1, _⟩ | ⟨g', cap, cur, h1, _, hg, _, _, hs, ht⟩)⟩ := h
  · cases h1
  · cases h1
    unfold BlockIs
    rw [hg]
    have : cur.toList = xs := by rw [← ht, List.take_of_length_le (by simp [hs])]
    rw [← this]

/-- a cell of a row of elements of m cells each -/
theorem row_at {α : Type} (enc : α → List Value) (m : Nat) (hm : ∀ a, (enc a).length = m) (l : List α) (r : List Value) (j c : Nat) (hj : j < l.length) (hc : c < m) : (l.flatMap enc ++ r)[j * m + c]? = (enc l[j])[c]? := by
  induction l generalizing j with
  | nil => simp at hj
  | cons a l ih =>
    cases j with
    | zero =>
      simp only [List.flatMap_cons, Nat.zero_mul, Nat.zero_add, List.getElem_cons_zero, List.append_assoc]
      rw [List.getElem?_append_left (by rw [hm]; exact hc)]
    | succ j =>
      simp only [List.flatMap_cons, List.getElem_cons_succ, List.append_assoc]
      rw [List.getElem?_append_right (by rw [hm, Nat.succ_mul]; omega), hm, show (j + 1) * m + c - m = j * m + c by rw [Nat.succ_mul]; omega]
      exact ih j (by simpa using hj)
theorem row_length {α : Type} (enc : α → List Value) (m : Nat) (hm : ∀ a, (enc a).length = m) (l : List α) : (l.flatMap enc).length = l.length * m := by
  induction l with
  | nil => simp
  | cons a l ih => simp only [List.flatMap_cons, List.length_append, hm, ih, List.length_cons, Nat.succ_mul]; omega
/-- three cells of a list, written -/
theorem set_three (p : List Value) (a b c x y z : Value) (r : List Value) : (((p ++ x :: y :: z :: r).set p.length a).set (p.length + 1) b).set (p.length + 2) c = p ++ a :: b :: c :: r := by
  rw [List.set_append_right _ _ (Nat.le_refl _), List.set_append_right _ _ (by omega), List.set_append_right _ _ (by omega)]
  simp
end Go.Proofs.Ytngcldjkpcmidaa

namespace Go.Proofs.Ytngcldjkpcmidaa
open Go.RowKit

structure LateD where
  num : Int
  text : ByteArray
/-- numbers that are numbers, texts that are texts -/
def LateD.Fits (e : LateD) : Prop := (-9223372036854775808 ≤ e.num ∧ e.num ≤ 9223372036854775807) ∧ e.text.size ≤ maxLen
def lateEnc (e : LateD) : List Value := [.int .i64 e.num, .string e.text]
/-- the cells of a row -/
def lateCells (l : List LateD) : List Value := l.flatMap lateEnc
theorem lateCells_length (l : List LateD) : (lateCells l).length = l.length * 2 := row_length lateEnc 2 (fun _ => rfl) l
theorem lateCells_take (l : List LateD) (k : Nat) (h : k < l.length) : lateCells (l.take (k + 1)) = lateCells (l.take k) ++ lateEnc l[k] := by
  rw [List.take_succ_eq_append_getElem h, lateCells, lateCells, List.flatMap_append]
  simp
/-- how many letters -/
def lateOne (e : LateD) : Int := (e.text.size : Int)
theorem lateOne_nonneg (e : LateD) : 0 ≤ lateOne e := by unfold lateOne; omega
def lateBulk : List LateD → Int
  | [] => 0
  | f :: l => lateOne f + lateBulk l
theorem lateBulk_nonneg (l : List LateD) : 0 ≤ lateBulk l := by
  induction l with
  | nil => exact Int.le_refl 0
  | cons f l ih => have := lateOne_nonneg f; simp only [lateBulk]; omega
theorem lateBulk_take (l : List LateD) (k : Nat) (h : k < l.length) : lateBulk (l.take (k + 1)) = lateBulk (l.take k) + lateOne l[k] := by
  induction l generalizing k with
  | nil => simp at h
  | cons f l ih =>
    cases k with
    | zero => simp [lateBulk]
    | succ k =>
      have := ih k (by simpa using h)
      simp only [List.take_succ_cons, lateBulk, List.getElem_cons_succ] at this ⊢
      omega
theorem lateBulk_le (l : List LateD) (k : Nat) : lateBulk (l.take k) ≤ lateBulk l := by
  induction l generalizing k with
  | nil => simp [lateBulk]
  | cons f l ih =>
    cases k with
    | zero => have := lateBulk_nonneg (f :: l); simpa [lateBulk] using this
    | succ k => have := ih k; simp only [List.take_succ_cons, lateBulk]; omega
theorem late_le_bulk {l : List LateD} {f : LateD} (h : f ∈ l) : lateOne f ≤ lateBulk l := by
  induction l with
  | nil => cases h
  | cons g l ih =>
    simp only [lateBulk]
    have := lateBulk_nonneg l
    have := lateOne_nonneg g
    rcases List.mem_cons.1 h with e | e
    · subst e; omega
    · have := ih e; omega
/-- few and short -/
def LatesSmall (l : List LateD) : Prop := l.length ≤ 1048576 ∧ ∀ f ∈ l, lateOne f ≤ 1048576
theorem latesSmall {l : List LateD} (h : 0 ≤ (1048576 : Int) - l.length - lateBulk l) : LatesSmall l := by
  have := lateBulk_nonneg l
  exact ⟨by omega, fun f hf => by have := late_le_bulk hf; omega⟩
/-- they lie at an address, one behind the other -/
def LatesAt (w : World) (ao : Option Addr) (l : List LateD) : Prop :=
  l ≠ [] → ∃ b off, ao = some ⟨b, off, none⟩ ∧ ∀ j (hj : j < l.length), w.cell? ⟨b, off + j * 2, none⟩ = some (.int .i64 l[j].num) ∧ w.cell? ⟨b, off + j * 2 + 1, none⟩ = some (.string l[j].text)
theorem latesAt_of {w : World} {g : Nat} {t : TypeId} {l : List LateD} {r : List Value} (h : BlockIs w g t (lateCells l ++ r)) : LatesAt w (some ⟨g, 0, none⟩) l := by
  intro _
  refine ⟨g, 0, rfl, fun j hj => ?_⟩
  rw [Nat.zero_add]
  exact ⟨h.cell (row_at lateEnc 2 (fun _ => rfl) l r j 0 hj (by omega)), h.cell (row_at lateEnc 2 (fun _ => rfl) l r j 1 hj (by omega))⟩
def LatesFit (l : List LateD) : Prop := ∀ j (hj : j < l.length), l[j].Fits
theorem LatesAt.on {w w' : World} {ao : Option Addr} {l : List LateD} (h : LatesAt w ao l) (hb : Below w.heap.size w w') : LatesAt w' ao l := by
  intro h0
  obtain ⟨b, off, e1, e2⟩ := h h0
  refine ⟨b, off, e1, fun j hj => ?_⟩
  obtain ⟨x0, x1⟩ := e2 j hj
  exact ⟨(hb.cell (p := ⟨b, off + j * 2, none⟩) (World.block_lt_of_cell? w _ x0)).trans x0, (hb.cell (p := ⟨b, off + j * 2 + 1, none⟩) (World.block_lt_of_cell? w _ x1)).trans x1⟩
/-- cells of a list, written -/
theorem late_sets (p : List Value) (a0 a1 o0 o1 : Value) (r : List Value) : ((p ++ o0 :: o1 :: r).set (p.length) a0).set (p.length + 1) a1 = p ++ a0 :: a1 :: r := by
  rw [List.set_append_right _ _ (Nat.le_refl _), List.set_append_right _ _ (by omega)]
  simp
theorem late_set_other {cs : List Value} {i j : Nat} {v u : Value} (h : cs[j]? = some u) (hij : i ≠ j) : (cs.set i v)[j]? = some u := by
  rw [List.getElem?_set_ne hij]; exact h
end Go.Proofs.Ytngcldjkpcmidaa

namespace Go.Proofs.Ytngcldjkpcmidaa
open Go.RowKit

structure SegD where
  num : Int
  ack : Int
  flags : Int
  body : ByteArray
/-- numbers that are numbers, texts that are texts -/
def SegD.Fits (e : SegD) : Prop := (-9223372036854775808 ≤ e.num ∧ e.num ≤ 9223372036854775807) ∧ (-9223372036854775808 ≤ e.ack ∧ e.ack ≤ 9223372036854775807) ∧ (-9223372036854775808 ≤ e.flags ∧ e.flags ≤ 9223372036854775807) ∧ e.body.size ≤ maxLen
def segEnc (e : SegD) : List Value := [.int .i64 e.num, .int .i64 e.ack, .int .i64 e.flags, .string e.body]
/-- the cells of a row -/
def segCells (l : List SegD) : List Value := l.flatMap segEnc
theorem segCells_length (l : List SegD) : (segCells l).length = l.length * 4 := row_length segEnc 4 (fun _ => rfl) l
theorem segCells_take (l : List SegD) (k : Nat) (h : k < l.length) : segCells (l.take (k + 1)) = segCells (l.take k) ++ segEnc l[k] := by
  rw [List.take_succ_eq_append_getElem h, segCells, segCells, List.flatMap_append]
  simp
/-- how many letters -/
def segOne (e : SegD) : Int := (e.body.size : Int)
theorem segOne_nonneg (e : SegD) : 0 ≤ segOne e := by unfold segOne; omega
def segBulk : List SegD → Int
  | [] => 0
  | f :: l => segOne f + segBulk l
theorem segBulk_nonneg (l : List SegD) : 0 ≤ segBulk l := by
  induction l with
  | nil => exact Int.le_refl 0
  | cons f l ih => have := segOne_nonneg f; simp only [segBulk]; omega
theorem segBulk_take (l : List SegD) (k : Nat) (h : k < l.length) : segBulk (l.take (k + 1)) = segBulk (l.take k) + segOne l[k] := by
  induction l generalizing k with
  | nil => simp at h
  | cons f l ih =>
    cases k with
    | zero => simp [segBulk]
    | succ k =>
      have := ih k (by simpa using h)
      simp only [List.take_succ_cons, segBulk, List.getElem_cons_succ] at this ⊢
      omega
theorem segBulk_le (l : List SegD) (k : Nat) : segBulk (l.take k) ≤ segBulk l := by
  induction l generalizing k with
  | nil => simp [segBulk]
  | cons f l ih =>
    cases k with
    | zero => have := segBulk_nonneg (f :: l); simpa [segBulk] using this
    | succ k => have := ih k; simp only [List.take_succ_cons, segBulk]; omega
theorem seg_le_bulk {l : List SegD} {f : SegD} (h : f ∈ l) : segOne f ≤ segBulk l := by
  induction l with
  | nil => cases h
  | cons g l ih =>
    simp only [segBulk]
    have := segBulk_nonneg l
    have := segOne_nonneg g
    rcases List.mem_cons.1 h with e | e
    · subst e; omega
    · have := ih e; omega
/-- few and short -/
def SegsSmall (l : List SegD) : Prop := l.length ≤ 1048576 ∧ ∀ f ∈ l, segOne f ≤ 1048576
theorem segsSmall {l : List SegD} (h : 0 ≤ (1048576 : Int) - l.length - segBulk l) : SegsSmall l := by
  have := segBulk_nonneg l
  exact ⟨by omega, fun f hf => by have := seg_le_bulk hf; omega⟩
/-- they lie at an address, one behind the other -/
def SegsAt (w : World) (ao : Option Addr) (l : List SegD) : Prop :=
  l ≠ [] → ∃ b off, ao = some ⟨b, off, none⟩ ∧ ∀ j (hj : j < l.length), w.cell? ⟨b, off + j * 4, none⟩ = some (.int .i64 l[j].num) ∧ w.cell? ⟨b, off + j * 4 + 1, none⟩ = some (.int .i64 l[j].ack) ∧ w.cell? ⟨b, off + j * 4 + 2, none⟩ = some (.int .i64 l[j].flags) ∧ w.cell? ⟨b, off + j * 4 + 3, none⟩ = some (.string l[j].body)
theorem segsAt_of {w : World} {g : Nat} {t : TypeId} {l : List SegD} {r : List Value} (h : BlockIs w g t (segCells l ++ r)) : SegsAt w (some ⟨g, 0, none⟩) l := by
  intro _
  refine ⟨g, 0, rfl, fun j hj => ?_⟩
  rw [Nat.zero_add]
  exact ⟨h.cell (row_at segEnc 4 (fun _ => rfl) l r j 0 hj (by omega)), h.cell (row_at segEnc 4 (fun _ => rfl) l r j 1 hj (by omega)), h.cell (row_at segEnc 4 (fun _ => rfl) l r j 2 hj (by omega)), h.cell (row_at segEnc 4 (fun _ => rfl) l r j 3 hj (by omega))⟩
def SegsFit (l : List SegD) : Prop := ∀ j (hj : j < l.length), l[j].Fits
theorem SegsAt.on {w w' : World} {ao : Option Addr} {l : List SegD} (h : SegsAt w ao l) (hb : Below w.heap.size w w') : SegsAt w' ao l := by
  intro h0
  obtain ⟨b, off, e1, e2⟩ := h h0
  refine ⟨b, off, e1, fun j hj => ?_⟩
  obtain ⟨x0, x1, x2, x3⟩ := e2 j hj
  exact ⟨(hb.cell (p := ⟨b, off + j * 4, none⟩) (World.block_lt_of_cell? w _ x0)).trans x0, (hb.cell (p := ⟨b, off + j * 4 + 1, none⟩) (World.block_lt_of_cell? w _ x1)).trans x1, (hb.cell (p := ⟨b, off + j * 4 + 2, none⟩) (World.block_lt_of_cell? w _ x2)).trans x2, (hb.cell (p := ⟨b, off + j * 4 + 3, none⟩) (World.block_lt_of_cell? w _ x3)).trans x3⟩
/-- cells of a list, written -/
theorem seg_sets (p : List Value) (a0 a1 a2 a3 o0 o1 o2 o3 : Value) (r : List Value) : ((((p ++ o0 :: o1 :: o2 :: o3 :: r).set (p.length) a0).set (p.length + 1) a1).set (p.length + 2) a2).set (p.length + 3) a3 = p ++ a0 :: a1 :: a2 :: a3 :: r := by
  rw [List.set_append_right _ _ (Nat.le_refl _), List.set_append_right _ _ (by omega), List.set_append_right _ _ (by omega), List.set_append_right _ _ (by omega)]
  simp
theorem seg_set_other {cs : List Value} {i j : Nat} {v u : Value} (h : cs[j]? = some u) (hij : i ≠ j) : (cs.set i v)[j]? = some u := by
  rw [List.getElem?_set_ne hij]; exact h
end Go.Proofs.Ytngcldjkpcmidaa

namespace Go.Proofs.Ytngcldjkpcmidaa
open Go.RowKit

/-- a number within bounds -/
def within (x a b : Int) : Bool := decide (a ≤ x) && decide (x ≤ b)
theorem within_yes {x a b : Int} (h1 : a ≤ x) (h2 : x ≤ b) : within x a b = true := by simp [within, h1, h2]
theorem within_no {x a b : Int} (h : x < a ∨ b < x) : within x a b = false := by
  simp only [within, Bool.and_eq_false_imp, decide_eq_true_eq, decide_eq_false_iff_not]
  omega
theorem within_iff {x a b : Int} : within x a b = true ↔ a ≤ x ∧ x ≤ b := by simp [within]
end Go.Proofs.Ytngcldjkpcmidaa

namespace Go.Proofs.Ytngcldjkpcmidaa
open Go.RowKit

def addNum (a n : Int) : Int := (a + n) % 65536
def gapNum (a b : Int) : Int := (b - a) % 65536
theorem addNum_bd (a n : Int) : 0 ≤ addNum a n ∧ addNum a n ≤ 65535 := by unfold addNum; omega
theorem gapNum_bd (a n : Int) : 0 ≤ gapNum a n ∧ gapNum a n ≤ 65535 := by unfold gapNum; omega
theorem gap_back {a b : Int} (h : 0 ≤ b) (h2 : b ≤ 65535) : addNum a (gapNum a b) = b := by unfold addNum gapNum; omega
theorem gap_self (a : Int) : gapNum a a = 0 := by unfold gapNum; omega
theorem gap_both {a b : Int} (h : 0 ≤ a) (h2 : a ≤ 65535) (h3 : 0 ≤ b) (h4 : b ≤ 65535) (h5 : a ≠ b) : gapNum a b + gapNum b a = 65536 := by unfold gapNum; omega
theorem add_off {a n : Int} (h : 0 ≤ a) (h2 : a ≤ 65535) : addNum (addNum a n) (-n) = a := by unfold addNum; omega
end Go.Proofs.Ytngcldjkpcmidaa

namespace Go.Proofs.Ytngcldjkpcmidaa
open Go.RowKit

structure StrD where
  st : Int
  iss : Int
  una : Int
  rcv : Int
  wait : ByteArray
  sent : Int
  fin : Int
  pf : Bool
  inn : ByteArray
  late : List LateD
  owe : Bool
  due : Int
  times : Int
def I64 (x : Int) : Prop := -9223372036854775808 ≤ x ∧ x ≤ 9223372036854775807
/-- numbers that are numbers, texts that are texts -/
structure StrD.Fits (d : StrD) : Prop where
  st : I64 d.st
  iss : I64 d.iss
  una : I64 d.una
  rcv : I64 d.rcv
  wait : d.wait.size ≤ maxLen
  sent : I64 d.sent
  fin : I64 d.fin
  inn : d.inn.size ≤ maxLen
  due : I64 d.due
  times : I64 d.times
/-- short texts -/
structure StrD.Small (d : StrD) : Prop where
  wait : d.wait.size ≤ 1048576
  inn : d.inn.size ≤ 1048576
  late : d.late.length ≤ 1048576
  each : ∀ f ∈ d.late, f.text.size ≤ 1048576
/-- the cells of a stream -/
def strCells (d : StrD) (ao : Option Addr) (cap : Nat) : List Value := [.int .i64 d.st, .int .i64 d.iss, .int .i64 d.una, .int .i64 d.rcv, .string d.wait, .int .i64 d.sent, .int .i64 d.fin, .bool d.pf, .string d.inn, .slice ao d.late.length cap, .bool d.owe, .int .i64 d.due, .int .i64 d.times]
/-- an early text is right -/
def lateOk (e : LateD) : Bool := within e.num 0 65535 && within e.text.size 1 8
def latesOk (l : List LateD) : Bool := l.all lateOk
/-- numbers of what is sent -/
def sendOk (d : StrD) : Bool :=
  decide (d.wait.size ≤ 200) && within d.sent 0 (min d.wait.size 24 : Nat) && within d.fin 0 3 && (!decide (d.fin = 2) || decide (d.sent = d.wait.size)) && (!decide (d.fin = 3) || decide (d.wait.size = 0))
def strOk (d : StrD) : Bool :=
  within d.st 0 4 && within d.iss 0 65535 && within d.una 0 65535 && within d.rcv 0 65535 && sendOk d && decide (d.inn.size ≤ 1000) && decide (d.late.length ≤ 8) && within d.due 0 1000000000 && within d.times 0 12 && latesOk d.late
structure StrR (d : StrD) : Prop where
  st : 0 ≤ d.st ∧ d.st ≤ 4
  iss : 0 ≤ d.iss ∧ d.iss ≤ 65535
  una : 0 ≤ d.una ∧ d.una ≤ 65535
  rcv : 0 ≤ d.rcv ∧ d.rcv ≤ 65535
  wait : d.wait.size ≤ 200
  sent : 0 ≤ d.sent ∧ d.sent ≤ (min d.wait.size 24 : Nat)
  fin : 0 ≤ d.fin ∧ d.fin ≤ 3
  fin2 : d.fin = 2 → d.sent = d.wait.size
  fin3 : d.fin = 3 → d.wait.size = 0
  inn : d.inn.size ≤ 1000
  few : d.late.length ≤ 8
  due : 0 ≤ d.due ∧ d.due ≤ 1000000000
  times : 0 ≤ d.times ∧ d.times ≤ 12
  late : latesOk d.late = true
theorem strOk_iff {d : StrD} : strOk d = true ↔ StrR d := by
  constructor
  · intro h
    simp only [strOk, sendOk, Bool.and_eq_true, Bool.or_eq_true, Bool.not_eq_true', decide_eq_true_eq, decide_eq_false_iff_not, within_iff] at h
    obtain ⟨⟨⟨⟨⟨⟨⟨⟨⟨h1, h2⟩, h3⟩, h4⟩, ⟨⟨⟨⟨h5, h6⟩, h7⟩, h8⟩, h9⟩⟩, h10⟩, h11⟩, h12⟩, h13⟩, h14⟩ := h
    exact ⟨h1, h2, h3, h4, h5, h6, h7, fun e => h8.resolve_left (fun h => h e), fun e => h9.resolve_left (fun h => h e), h10, h11, h12, h13, h14⟩
  · intro h
    obtain ⟨h1, h2, h3, h4, h5, h6, h7, h8, h9, h10, h11, h12, h13, h14⟩ := h
    simp only [strOk, sendOk, Bool.and_eq_true, Bool.or_eq_true, Bool.not_eq_true', decide_eq_true_eq, decide_eq_false_iff_not, within_iff]
    refine ⟨⟨⟨⟨⟨⟨⟨⟨⟨h1, h2⟩, h3⟩, h4⟩, ⟨⟨⟨⟨h5, h6⟩, h7⟩, ?_⟩, ?_⟩⟩, h10⟩, h11⟩, h12⟩, h13⟩, h14⟩
    · exact (Classical.em (d.fin = 2)).elim (fun e => Or.inr (h8 e)) Or.inl
    · exact (Classical.em (d.fin = 3)).elim (fun e => Or.inr (h9 e)) Or.inl
theorem strOk_no {d : StrD} (h : ¬ StrR d) : strOk d = false := by
  cases e : strOk d with
  | false => rfl
  | true => exact absurd (strOk_iff.1 e) h
theorem latesOk_iff {l : List LateD} : latesOk l = true ↔ ∀ e ∈ l, (0 ≤ e.num ∧ e.num ≤ 65535) ∧ 1 ≤ (e.text.size : Int) ∧ (e.text.size : Int) ≤ 8 := by
  simp [latesOk, lateOk, List.all_eq_true, within_iff]

/-- a new one -/
def newD (iss : Int) (ask : Bool) : StrD :=
  if within iss 0 65535 = true then ⟨if ask = true then 2 else 1, iss, iss, 0, ByteArray.empty, 0, 0, false, ByteArray.empty, [], false, 0, 0⟩
  else ⟨0, 0, 0, 0, ByteArray.empty, 0, 0, false, ByteArray.empty, [], false, 0, 0⟩
/-- what may be written -/
def mayWrite (d : StrD) (s : ByteArray) : Bool := strOk d && decide (d.fin = 0) && decide (s.size + d.wait.size ≤ 200)
def writeD (d : StrD) (s : ByteArray) : StrD := if mayWrite d s = true then { d with wait := d.wait ++ s } else d
def mayShut (d : StrD) : Bool := strOk d && decide (d.fin = 0)
def shutD (d : StrD) : StrD := if mayShut d = true then { d with fin := 1 } else d
def endedD (d : StrD) : Bool := decide (d.fin = 3) && d.pf
end Go.Proofs.Ytngcldjkpcmidaa

namespace Go.Proofs.Ytngcldjkpcmidaa
open Go.ChangeShapes Go.WideShapes Go.RowKit Go.Deep

set_option maxRecDepth 1000000 in
theorem late_cellsE : Try.prog.cellsOf 59 = 2 := by kernel_rfl
set_option maxRecDepth 1000000 in
theorem late_cells9 : Try.prog.cellsOf 9 = 1 := by kernel_rfl
set_option maxRecDepth 1000000 in
theorem late_cells3 : Try.prog.cellsOf 3 = 1 := by kernel_rfl
set_option maxRecDepth 1000000 in
theorem late_fields {H : Type} {enc : TypeId × Value → H} {P : Program} {W : World} {base : Nat} {sp : Nat → Bool} {held : Bool} {fuel : Nat} {t : TypeId} {f0 f1 : Field} {cs : List Value} {x : DataW H × List MemPlace} (ht : P.underlying t = some (.struct #[f0, f1])) (h : DataW.trod enc P W base sp held fuel t cs = some x) :
    ∃ y0 y1 n, cs.length = P.cellsOf t ∧ DataW.trod enc P W base sp held n f0.type ((cs.drop f0.offset).take (P.cellsOf f0.type)) = some y0 ∧ DataW.trod enc P W base sp held n f1.type ((cs.drop f1.offset).take (P.cellsOf f1.type)) = some y1 := by
  obtain ⟨xs, n, _, _, hl, hlen, hf⟩ := DataW.trod_struct ht h
  match xs, hlen with
  | [y0, y1], _ => exact ⟨y0, y1, n, hl, by simpa using hf 0 f0 rfl, by simpa using hf 1 f1 rfl⟩

set_option maxRecDepth 1000000 in
theorem open_lateCells {H : Type} {enc : TypeId × Value → H} {W : World} {base : Nat} {sp : Nat → Bool} {held : Bool} {fuel : Nat} {cs : List Value} {x : DataW H × List MemPlace} (h : DataW.trod enc Try.prog W base sp held fuel 59 cs = some x) :
    ∃ e : LateD, cs = lateEnc e ∧ e.Fits := by
  obtain ⟨y0, y1, n, hl, h0, h1⟩ := late_fields Try.underlying59 h
  rw [late_cellsE] at hl
  match cs, hl with
  | [c0, c1], _ =>
    simp only [late_cells3, late_cells9] at h0 h1
    obtain ⟨k0, e0, _, s0⟩ := DataW.trod_int Try.underlying3 h0
    obtain ⟨k1, e1, _, s1⟩ := DataW.trod_string Try.underlying9 h1
    simp at e0 e1
    subst e0 e1
    exact ⟨⟨k0, k1⟩, rfl, bounds_i64 s0, s1⟩

set_option maxRecDepth 1000000 in
/-- one of them as a parameter -/
theorem open_late {H : Type} {enc : TypeId × Value → H} {W : World} {r : Reach} {b0 base : Nat} {sp : Nat → Bool} {held : Bool} {v : Value} {d : DataW H} {ps : List MemPlace} (hval : Value.okWide Try.prog W r b0 59 v) (hd : DataW.Trod enc Try.prog W base sp held 59 v d ps) :
    ∃ e : LateD, v = .agg #[.int .i64 e.num, .string e.text] ∧ e.Fits := by
  obtain ⟨cs, rfl, _⟩ := okWide_struct Try.underlying59 hval
  obtain ⟨fuel, hf⟩ := hd
  obtain ⟨a, e, r⟩ := open_lateCells hf
  refine ⟨a, ?_, r⟩
  obtain ⟨c⟩ := cs
  have e' : c = lateEnc a := by simpa [Value.cells] using e
  rw [e']
  rfl
end Go.Proofs.Ytngcldjkpcmidaa

namespace Go.Proofs.Ytngcldjkpcmidaa
open Go.ChangeShapes Go.WideShapes Go.RowKit Go.Deep

set_option maxRecDepth 1000000 in
theorem late_cellsS : Try.prog.cellsOf 22 = 1 := by kernel_rfl
set_option maxRecDepth 1000000 in
theorem open_lateRow {H : Type} {enc : TypeId × Value → H} {W : World} {base : Nat} {sp : Nat → Bool} {held : Bool} {fuel : Nat} {cs : List Value} {x : DataW H × List MemPlace} (h : DataW.trod enc Try.prog W base sp held fuel 22 cs = some x) :
    ∃ ao l cap, cs = [.slice ao l.length cap] ∧ l.length ≤ cap ∧ cap ≤ maxLen ∧ LatesAt W ao l ∧ LatesFit l := by
  rcases open_slice Try.underlying22 h with ⟨rfl, _⟩ | ⟨a, len, cap, m, n, D, Pl, rfl, hb, hl, hm, hmm, _, hx⟩
  · exact ⟨none, [], 0, rfl, Nat.le_refl _, by unfold maxLen; omega, fun h => absurd rfl h, fun j hj => by simp at hj⟩
  · have hlm : len ≤ m := by rw [hmm]; split <;> omega
    have each : ∀ i, i < len → ∃ f : LateD, (W.cells? base (a.add (i * 2)) 2 = some (lateEnc f)) ∧ f.Fits := fun i hi => by
      obtain ⟨cs', e1, e2⟩ := hx i (by omega)
      rw [late_cellsE] at e1
      obtain ⟨f, rfl, r⟩ := open_lateCells e2
      exact ⟨f, e1, r⟩
    have hin : Inhabited LateD := ⟨⟨0, ByteArray.empty⟩⟩
    obtain ⟨F, hF⟩ := choose_lt each
    have hll : ((List.range len).map F).length = len := by simp
    refine ⟨some a, (List.range len).map F, cap, by rw [hll], by rw [hll]; exact hl, hm, ?_, ?_⟩
    · intro hne
      have hp : 0 < len := by
        rcases Nat.eq_zero_or_pos len with e | e
        · subst e; exact absurd rfl hne
        · exact e
      obtain ⟨b, off, spot⟩ := a
      have hc : ∀ i c, i < len → c < 2 → W.cell? ((Addr.add ⟨b, off, spot⟩ (i * 2)).add c) = (lateEnc (F i))[c]? := fun i c hi hc => (World.cells?_some (hF i hi).1).2.2 c hc
      have hspot : spot = none := by
        have := hc 0 0 hp (by omega)
        simpa [Addr.add] using World.cell?_spot this
      subst hspot
      refine ⟨b, off, rfl, fun j hj => ?_⟩
      simp only [List.getElem_map, List.getElem_range]
      have hj' : j < len := by omega
      have h0 := hc j 0 hj' (by omega)
      have h1 := hc j 1 hj' (by omega)
      rw [add_plain, add_plain] at h0 h1
      exact ⟨h0, h1⟩
    · intro j hj
      simp only [List.getElem_map, List.getElem_range]
      exact (hF j (by omega)).2

set_option maxRecDepth 1000000 in
/-- a row as a parameter -/
theorem open_lateS {H : Type} {enc : TypeId × Value → H} {W : World} {r : Reach} {b0 base : Nat} {sp : Nat → Bool} {held : Bool} {v : Value} {d : DataW H} {ps : List MemPlace} (hval : Value.okWide Try.prog W r b0 22 v) (hd : DataW.Trod enc Try.prog W base sp held 22 v d ps) :
    ∃ ao l cap, v = .slice ao l.length cap ∧ l.length ≤ cap ∧ cap ≤ maxLen ∧ LatesAt W ao l ∧ LatesFit l := by
  obtain ⟨a, l, c, rfl⟩ := okWide_slice Try.underlying22 hval
  obtain ⟨fuel, hf⟩ := hd
  obtain ⟨ao, l, cap, e, r⟩ := open_lateRow hf
  simp [Value.cells] at e
  obtain ⟨rfl, rfl, rfl⟩ := e
  exact ⟨_, _, _, rfl, r⟩
end Go.Proofs.Ytngcldjkpcmidaa

namespace Go.Proofs.Ytngcldjkpcmidaa
open Go.ChangeShapes Go.WideShapes Go.RowKit Go.Deep

set_option maxRecDepth 1000000 in
theorem str_cells1 : Try.prog.cellsOf 24 = 13 := by kernel_rfl
set_option maxRecDepth 1000000 in
theorem str_cells4 : Try.prog.cellsOf 4 = 1 := by kernel_rfl
set_option maxRecDepth 1000000 in
theorem str_fields {H : Type} {enc : TypeId × Value → H} {P : Program} {W : World} {base : Nat} {sp : Nat → Bool} {held : Bool} {fuel : Nat} {t : TypeId} {f0 f1 f2 f3 f4 f5 f6 f7 f8 f9 f10 f11 f12 : Field} {cs : List Value} {x : DataW H × List MemPlace} (ht : P.underlying t = some (.struct #[f0, f1, f2, f3, f4, f5, f6, f7, f8, f9, f10, f11, f12])) (h : DataW.trod enc P W base sp held fuel t cs = some x) :
    ∃ y0 y1 y2 y3 y4 y5 y6 y7 y8 y9 y10 y11 y12 n, cs.length = P.cellsOf t ∧ DataW.trod enc P W base sp held n f0.type ((cs.drop f0.offset).take (P.cellsOf f0.type)) = some y0 ∧ DataW.trod enc P W base sp held n f1.type ((cs.drop f1.offset).take (P.cellsOf f1.type)) = some y1 ∧ DataW.trod enc P W base sp held n f2.type ((cs.drop f2.offset).take (P.cellsOf f2.type)) = some y2 ∧ DataW.trod enc P W base sp held n f3.type ((cs.drop f3.offset).take (P.cellsOf f3.type)) = some y3 ∧ DataW.trod enc P W base sp held n f4.type ((cs.drop f4.offset).take (P.cellsOf f4.type)) = some y4 ∧ DataW.trod enc P W base sp held n f5.type ((cs.drop f5.offset).take (P.cellsOf f5.type)) = some y5 ∧ DataW.trod enc P W base sp held n f6.type ((cs.drop f6.offset).take (P.cellsOf f6.type)) = some y6 ∧ DataW.trod enc P W base sp held n f7.type ((cs.drop f7.offset).take (P.cellsOf f7.type)) = some y7 ∧ DataW.trod enc P W base sp held n f8.type ((cs.drop f8.offset).take (P.cellsOf f8.type)) = some y8 ∧ DataW.trod enc P W base sp held n f9.type ((cs.drop f9.offset).take (P.cellsOf f9.type)) = some y9 ∧ DataW.trod enc P W base sp held n f10.type ((cs.drop f10.offset).take (P.cellsOf f10.type)) = some y10 ∧ DataW.trod enc P W base sp held n f11.type ((cs.drop f11.offset).take (P.cellsOf f11.type)) = some y11 ∧ DataW.trod enc P W base sp held n f12.type ((cs.drop f12.offset).take (P.cellsOf f12.type)) = some y12 := by
  obtain ⟨xs, n, _, _, hl, hlen, hf⟩ := DataW.trod_struct ht h
  match xs, hlen with
  | [y0, y1, y2, y3, y4, y5, y6, y7, y8, y9, y10, y11, y12], _ => exact ⟨y0, y1, y2, y3, y4, y5, y6, y7, y8, y9, y10, y11, y12, n, hl, by simpa using hf 0 f0 rfl, by simpa using hf 1 f1 rfl, by simpa using hf 2 f2 rfl, by simpa using hf 3 f3 rfl, by simpa using hf 4 f4 rfl, by simpa using hf 5 f5 rfl, by simpa using hf 6 f6 rfl, by simpa using hf 7 f7 rfl, by simpa using hf 8 f8 rfl, by simpa using hf 9 f9 rfl, by simpa using hf 10 f10 rfl, by simpa using hf 11 f11 rfl, by simpa using hf 12 f12 rfl⟩

set_option maxRecDepth 1000000 in
/-- a stream as a parameter -/
theorem open_str {H : Type} {enc : TypeId × Value → H} {W : World} {r : Reach} {b0 base : Nat} {sp : Nat → Bool} {held : Bool} {v : Value} {dw : DataW H} {ps : List MemPlace} (hval : Value.okWide Try.prog W r b0 24 v) (hd : DataW.Trod enc Try.prog W base sp held 24 v dw ps) :
    ∃ (d : StrD) (ao : Option Addr) (cap : Nat), v = .agg #[.int .i64 d.st, .int .i64 d.iss, .int .i64 d.una, .int .i64 d.rcv, .string d.wait, .int .i64 d.sent, .int .i64 d.fin, .bool d.pf, .string d.inn, .slice ao d.late.length cap, .bool d.owe, .int .i64 d.due, .int .i64 d.times] ∧ d.Fits ∧ d.late.length ≤ cap ∧ cap ≤ maxLen ∧ LatesAt W ao d.late ∧ LatesFit d.late := by
  obtain ⟨cs, rfl, _⟩ := okWide_struct Try.underlying24 hval
  obtain ⟨fuel, hf⟩ := hd
  obtain ⟨y0, y1, y2, y3, y4, y5, y6, y7, y8, y9, y10, y11, y12, n, hl, h0, h1, h2, h3, h4, h5, h6, h7, h8, h9, h10, h11, h12⟩ := str_fields Try.underlying24 hf
  rw [str_cells1] at hl
  obtain ⟨c⟩ := cs
  have hl' : c.length = 13 := by simpa [Value.cells] using hl
  match c, hl' with
  | [x0, x1, x2, x3, x4, x5, x6, x7, x8, x9, x10, x11, x12], _ =>
    simp only [Value.cells, late_cells3, late_cells9, str_cells4, late_cellsS] at h0 h1 h2 h3 h4 h5 h6 h7 h8 h9 h10 h11 h12
    obtain ⟨k0, e0, _, s0⟩ := DataW.trod_int Try.underlying3 h0
    obtain ⟨k1, e1, _, s1⟩ := DataW.trod_int Try.underlying3 h1
    obtain ⟨k2, e2, _, s2⟩ := DataW.trod_int Try.underlying3 h2
    obtain ⟨k3, e3, _, s3⟩ := DataW.trod_int Try.underlying3 h3
    obtain ⟨k4, e4, _, s4⟩ := DataW.trod_string Try.underlying9 h4
    obtain ⟨k5, e5, _, s5⟩ := DataW.trod_int Try.underlying3 h5
    obtain ⟨k6, e6, _, s6⟩ := DataW.trod_int Try.underlying3 h6
    obtain ⟨k7, e7, _⟩ := DataW.trod_bool Try.underlying4 h7
    obtain ⟨k8, e8, _, s8⟩ := DataW.trod_string Try.underlying9 h8
    obtain ⟨ao, l, cap, e9, r⟩ := open_lateRow h9
    obtain ⟨k10, e10, _⟩ := DataW.trod_bool Try.underlying4 h10
    obtain ⟨k11, e11, _, s11⟩ := DataW.trod_int Try.underlying3 h11
    obtain ⟨k12, e12, _, s12⟩ := DataW.trod_int Try.underlying3 h12
    simp at e0 e1 e2 e3 e4 e5 e6 e7 e8 e9 e10 e11 e12
    subst e0 e1 e2 e3 e4 e5 e6 e7 e8 e9 e10 e11 e12
    exact ⟨⟨k0, k1, k2, k3, k4, k5, k6, k7, k8, l, k10, k11, k12⟩, ao, cap, rfl, ⟨bounds_i64 s0, bounds_i64 s1, bounds_i64 s2, bounds_i64 s3, s4, bounds_i64 s5, bounds_i64 s6, s8, bounds_i64 s11, bounds_i64 s12⟩, r⟩
end Go.Proofs.Ytngcldjkpcmidaa

namespace Go.Proofs.Ytngcldjkpcmidaa
open Go.RowKit

theorem toLate_info : (Try.prog.info? 61).map (fun i => (i.zero, i.size, i.bytes)) = some (some (.agg #[.int .i64 0, .string ByteArray.empty]), 2, 24) := by kernel_rfl
/-- an element's cells are written -/
theorem put_late {w w2 : World} {g k : Nat} {t : TypeId} {l : List LateD} {r : List Value} (hk : k < l.length) (h : BlockIs w g t (lateCells (l.take k) ++ r)) (hr : r.length = (l.length - k) * 2) {B : Nat} (hb : Below B w w2) (hg : g < B) :
    (∃ o0 o1, w2.cell? ⟨g, k * 2, none⟩ = some o0 ∧ w2.cell? ⟨g, k * 2 + 1, none⟩ = some o1) ∧ (∀ j, w2.frozen? ⟨g, j, none⟩ = false) ∧
    ∃ r', r'.length = (l.length - (k + 1)) * 2 ∧ BlockIs ((w2.setCell ⟨g, k * 2, none⟩ (.int .i64 l[k].num)).setCell ⟨g, k * 2 + 1, none⟩ (.string l[k].text)) g t (lateCells (l.take (k + 1)) ++ r') := by
  have h2 := h.on hb hg
  have hlen : (lateCells (l.take k)).length = k * 2 := by rw [lateCells_length, List.length_take]; omega
  match r, hr with
  | z0 :: z1 :: r', hr =>
    have hs := (h2.set (k * 2) (.int .i64 l[k].num)).set (k * 2 + 1) (.string l[k].text)
    have e3 := late_sets (lateCells (l.take k)) (.int .i64 l[k].num) (.string l[k].text) z0 z1 r'
    rw [hlen] at e3
    rw [e3] at hs
    refine ⟨⟨z0, z1, h2.cell ?_, h2.cell ?_⟩, fun j => h2.thaw j, r', ?_, ?_⟩
    · rw [List.getElem?_append_right (by omega), hlen, Nat.sub_self]; rfl
    · rw [List.getElem?_append_right (by omega), hlen, show k * 2 + 1 - k * 2 = 1 by omega]; rfl
    · simp at hr; omega
    · rw [lateCells_take l k hk, List.append_assoc]
      exact hs
  | [], hr => simp at hr; omega
  | [_], hr => simp at hr; omega

theorem made_late (n : Nat) : (madeCells (Value.agg #[.int .i64 0, .string ByteArray.empty]).cells (n * 2)).toList.length = n * 2 := by
  simp [madeCells]
end Go.Proofs.Ytngcldjkpcmidaa

namespace Go.Proofs.Ytngcldjkpcmidaa
open Go.RowKit

theorem row_shape {w : World} {base size n : Nat} {t : TypeId} {v : Value} {xs : List Value} (h : w.ownsRow base t size v n xs) : ∃ a c, v = .slice a n c := by
  obtain ⟨_, (⟨rfl, rfl⟩ | ⟨g, cap, _, rfl, _⟩)⟩ := h
  · exact ⟨_, _, rfl⟩
  · exact ⟨_, _, rfl⟩
theorem row_down {w : World} {base base' size n : Nat} {t : TypeId} {v : Value} {xs : List Value} (h : w.ownsRow base t size v n xs) (hb : base' ≤ base) : w.ownsRow base' t size v n xs :=
  ⟨h.1, h.2.imp id fun ⟨g, cap, cur, a, b, r⟩ => ⟨g, cap, cur, a, Nat.le_trans hb b, r⟩⟩
/-- behind an append to a row of the call's own: all that was there ahead of the row stands -/
theorem behind_append {w wr w1 : World} {v : Value} {base n : Nat} {t : TypeId} {size : Nat} {xs : List Value} {o : Obj} (hB : w.heap.size ≤ base) (BR : Below w.heap.size w wr) (OR : wr.ownsRow base t size v n xs) (hz : base ≤ wr.heap.size) (hg : (wr.alloc o).drew.grownBy w1 v.ownBlock) :
    Below w.heap.size w w1 ∧ base ≤ w1.heap.size ∧ ∀ j tj cs, j < base → BlockIs wr j tj cs → BlockIs w1 j tj cs := by
  have hown : ∀ j, v.ownBlock = some j → base ≤ j := fun j hj => (OR.lt j hj).1
  have hd : Below wr.heap.size wr (wr.alloc o).drew := below_drewN (below_more (Below.refl _ wr) o) 1
  have h1 : Below base wr w1 := ((hd.mono hz).grown hg (Nat.le_trans hz hd.size) hown)
  refine ⟨BR.trans (h1.mono hB), Nat.le_trans hz h1.size, fun j tj cs hj hb => hb.on h1 hj⟩
end Go.Proofs.Ytngcldjkpcmidaa

namespace Go.Proofs.Ytngcldjkpcmidaa
open Go.RowKit

/-- four blocks laid one behind the other -/
theorem four_log (w : World) (o p q : Obj) : Below w.heap.size w (((w.alloc o).alloc p).alloc q) ∧ (((w.alloc o).alloc p).alloc q).heap[w.heap.size]? = some o ∧ (((w.alloc o).alloc p).alloc q).heap[w.heap.size + 1]? = some p ∧ (((w.alloc o).alloc p).alloc q).heap[w.heap.size + 1 + 1]? = some q := by
  refine ⟨below_more (below_more (below_more (Below.refl _ w) _) _) _, ?_, ?_, ?_⟩
  · show (((w.heap.push o).push p).push q)[w.heap.size]? = some o
    rw [Array.getElem?_push, if_neg (by simp; omega), Array.getElem?_push, if_neg (by simp), Array.getElem?_push, if_pos rfl]
  · show (((w.heap.push o).push p).push q)[w.heap.size + 1]? = some p
    rw [Array.getElem?_push, if_neg (by simp), Array.getElem?_push, if_pos (by simp)]
  · show (((w.heap.push o).push p).push q)[w.heap.size + 1 + 1]? = some q
    rw [Array.getElem?_push, if_pos (by simp)]

/-- a row of the call's own, made between two sizes of memory -/
def OwnAt (w : World) (t : TypeId) (cs : List Value) (n : Nat) (va : Option Addr) (lo hi : Nat) : Prop :=
  n = 0 ∨ ∃ g r, va = some ⟨g, 0, none⟩ ∧ lo ≤ g ∧ g < hi ∧ BlockIs w g t (cs ++ r)
theorem OwnAt.on {w w' : World} {t : TypeId} {cs : List Value} {n : Nat} {va : Option Addr} {lo hi : Nat} (h : OwnAt w t cs n va lo hi) (hb : Below w.heap.size w w') : OwnAt w' t cs n va lo hi :=
  h.imp id fun ⟨g, r, a, b, c, d⟩ => ⟨g, r, a, b, c, d.on hb d.lt⟩
theorem OwnAt.down {w : World} {t : TypeId} {cs : List Value} {n : Nat} {va : Option Addr} {lo hi lo' hi' : Nat} (h : OwnAt w t cs n va lo hi) (h1 : lo' ≤ lo) (h2 : hi ≤ hi') : OwnAt w t cs n va lo' hi' :=
  h.imp id fun ⟨g, r, a, b, c, d⟩ => ⟨g, r, a, Nat.le_trans h1 b, Nat.lt_of_lt_of_le c h2, d⟩
/-- a cell below is written -/
theorem OwnAt.far {w : World} {t : TypeId} {cs : List Value} {n : Nat} {va : Option Addr} {lo b j : Nat} (h : OwnAt w t cs n va lo w.heap.size) (hb : b < lo) (v : Value) : OwnAt (w.setCell ⟨b, j, none⟩ v) t cs n va lo (w.setCell ⟨b, j, none⟩ v).heap.size := by
  rw [World.size_setCell]
  exact h.imp id fun ⟨g, r, a, c, d, e⟩ => ⟨g, r, a, c, d, e.far (by omega) v⟩
/-- nothing but blocks between two sizes has turned -/
def KeptBut (lo hi : Nat) (w w' : World) : Prop := ∀ j t cs, ¬ (lo ≤ j ∧ j < hi) → BlockIs w j t cs → BlockIs w' j t cs
theorem OwnAt.kept {w w' : World} {t : TypeId} {cs : List Value} {n : Nat} {va : Option Addr} {lo hi lo2 hi2 : Nat} (h : OwnAt w t cs n va lo hi) (hk : KeptBut lo2 hi2 w w') (ho : hi ≤ lo2 ∨ hi2 ≤ lo) : OwnAt w' t cs n va lo hi :=
  h.imp id fun ⟨g, r, a, b, c, d⟩ => ⟨g, r, a, b, c, hk _ _ _ (by omega) d⟩
theorem BlockIs.kept {w w' : World} {g lo hi : Nat} {t : TypeId} {cs : List Value} (h : BlockIs w g t cs) (hk : KeptBut lo hi w w') (ho : g < lo ∨ hi ≤ g) : BlockIs w' g t cs := hk _ _ _ (by omega) h
theorem row_ext {x y : World} {base size n : Nat} {t : TypeId} {v : Value} {xs : List Value} (h : x.ownsRow base t size v n xs) (hb : ∀ g cs, BlockIs x g t cs → BlockIs y g t cs) : y.ownsRow base t size v n xs := by
  refine ⟨h.1, h.2.imp id ?_⟩
  rintro ⟨g, cap, cur, a, b, c, r⟩
  have := hb g cur.toList (by unfold BlockIs; rw [c])
  unfold BlockIs at this
  exact ⟨g, cap, cur, a, b, by rw [this], r⟩
theorem OwnAt.ext {x y : World} {t : TypeId} {cs : List Value} {n : Nat} {va : Option Addr} {lo : Nat} (h : OwnAt x t cs n va lo x.heap.size) (hs : x.heap.size ≤ y.heap.size) (hb : ∀ g r, BlockIs x g t (cs ++ r) → BlockIs y g t (cs ++ r)) : OwnAt y t cs n va lo y.heap.size :=
  h.imp id fun ⟨g, r, a, b, c, d⟩ => ⟨g, r, a, b, Nat.lt_of_lt_of_le c hs, hb g r d⟩
theorem row_block {w : World} {base size n : Nat} {t : TypeId} {v : Value} {xs : List Value} (h : w.ownsRow base t size v n xs) {g : Nat} (hg : v.ownBlock = some g) : ∃ cs, BlockIs w g t cs ∧ base ≤ g := by
  obtain ⟨_, (⟨rfl, _⟩ | ⟨g', cap, cur, rfl, hb, hc, _⟩)⟩ := h
  · cases hg
  · cases hg
    exact ⟨cur.toList, by unfold BlockIs; rw [hc], hb⟩
theorem block_one {w : World} {g : Nat} {t t' : TypeId} {cs cs' : List Value} (h : BlockIs w g t cs) (h' : BlockIs w g t' cs') : t = t' ∧ cs = cs' := by
  unfold BlockIs at h h'
  rw [h] at h'
  simp only [Option.some.injEq, Obj.cells.injEq] at h'
  exact ⟨h'.2.1, by simpa using h'.1⟩
end Go.Proofs.Ytngcldjkpcmidaa

namespace Go.Proofs.Ytngcldjkpcmidaa
open Go.RowKit

set_option maxRecDepth 1000000 in
theorem str_size : (Try.prog.info? 31).map (·.size) = some 13 := by kernel_rfl
/-- a stream is read whole -/
theorem load_str {W : World} {b : Nat} {t : TypeId} {cs : List Value} {r : List Value} (hb : BlockIs W b t (cs ++ r)) (hn : cs.length = 13) : (Instr.loadAt 31 (.pointer (some ⟨b, 0, none⟩))).run Try.prog W = .ok (.agg cs.toArray) W := by
  refine run_loadAt_mid W b 0 31 cs _ (fun j v hv => ?_) Try.underlying31 rfl (by rw [str_size, hn])
  rw [Nat.zero_add]
  exact hb.cell (by rw [List.getElem?_append_left (List.getElem?_eq_some_iff.1 hv).1]; exact hv)
theorem wpList_load_str {ops : Array Oper} {rest : List Oper} {op : Oper} {a : Act} {w : World} {Q : Exit → Act → World → Prop} {b : Nat} {t : TypeId} {cs : List Value} (hb : BlockIs w b t cs) (hn : cs.length = 13) (hgd : op.guard = none) (x : Operand) (ho : op.op = .load 31 x)
    (hx : a.eval x = .pointer (some ⟨b, 0, none⟩)) (h : wpList Try.prog ops Q rest (a.put op.dst (.agg cs.toArray)) w) : wpList Try.prog ops Q (op :: rest) a w :=
  wpList_plain hgd fun _ hK => by
    unfold Oper.wp execOp
    simp only [ho, hx, load_str (r := []) (by rw [List.append_nil]; exact hb) hn, Sem.run_bind, Sem.run_pure, Result.andThen_ok]
    exact hK _ _ h
/-- a stream is written whole -/
theorem store_str {W : World} {b : Nat} {cs : List Value} (hb : BlockIs W b 31 cs) (hn : cs.length = 13) {A : Array Value} (hA : A.size = 13) (h1 : A.all (·.oneCell') = true) : (Instr.storeAt 31 (.pointer (some ⟨b, 0, none⟩)) (.agg A)).run Try.prog W = .ok () (W.setRow b A) := by
  simp only [Instr.storeAt, Instr.sureAddr, Sem.run_bind, Sem.run_pure, Result.andThen_ok, run_storeVar_row W b 31 31 cs.toArray A hb (by rw [str_size, hA]) (by simp [hn, hA]) h1]
theorem store_block {W : World} {b : Nat} {cs : List Value} {t : TypeId} (hb : BlockIs W b t cs) (A : Array Value) : BlockIs (W.setRow b A) b t A.toList := setRow_heap W b _ _ _ _ hb
theorem block_setRow {W : World} {b g : Nat} {cs : List Value} {t : TypeId} (hb : BlockIs W g t cs) (hg : b ≠ g) (A : Array Value) : BlockIs (W.setRow b A) g t cs := by
  unfold BlockIs
  rw [setRow_other W b g A (by omega)]
  exact hb
theorem wpList_store_str {ops : Array Oper} {rest : List Oper} {op : Oper} {a : Act} {w : World} {Q : Exit → Act → World → Prop} {b : Nat} {cs : List Value} (hb : BlockIs w b 31 cs) (hn : cs.length = 13) (hgd : op.guard = none) (x y : Operand) (ho : op.op = .store 31 x y)
    (A : Array Value) (hx : a.eval x = .pointer (some ⟨b, 0, none⟩)) (hy : a.eval y = .agg A) (hA : A.size = 13) (h1 : A.all (·.oneCell') = true)
    (h : wpList Try.prog ops Q rest (a.put op.dst undef) (w.setRow b A)) : wpList Try.prog ops Q (op :: rest) a w :=
  wpList_plain hgd fun _ hK => by
    unfold Oper.wp execOp
    simp only [ho, hx, hy, store_str hb hn hA h1, Sem.run_bind, Sem.run_pure, Result.andThen_ok]
    exact hK _ _ h
/-- a box that is written whole is as if it had been laid so -/
theorem str_over (w : World) (c c' : Array Value) (t : TypeId) : (w.alloc (.cells c t)).setRow w.heap.size c' = w.alloc (.cells c' t) := by
  simp only [World.setRow, World.alloc]
  congr 1
  apply Array.ext_getElem?
  intro i
  rw [Array.getElem?_modify]
  by_cases h : w.heap.size = i
  · subst h
    simp
  · have h' : ¬ i = w.heap.size := fun e => h e.symm
    simp [h, h', Array.getElem?_push]
theorem strCells_all (d : StrD) (ao : Option Addr) (cap : Nat) : (strCells d ao cap).toArray.all (·.oneCell') = true := by simp [strCells, Value.oneCell']
/-- the cells of no stream yet -/
def strZero : List Value := [.int .i64 0, .int .i64 0, .int .i64 0, .int .i64 0, .string ⟨#[]⟩, .int .i64 0, .int .i64 0, .bool false, .string ⟨#[]⟩, .slice none 0 0, .bool false, .int .i64 0, .int .i64 0]
end Go.Proofs.Ytngcldjkpcmidaa

namespace Go.Proofs.Ytngcldjkpcmidaa
open Go.RowKit

theorem grown_of_below {w w' : World} (h : Below w.heap.size w w') (row : Option Nat) : w.grownBy w' row := ⟨h.os, h.tape, h.output, h.size, fun k hk _ => h.block k hk⟩

theorem add_at (g j : Nat) : (⟨g, 0, none⟩ : Addr).add j = ⟨g, j, none⟩ := by
  simp only [Addr.add]
  split
  · simp_all
  · simp

/-- where an owned row lies -/
theorem row_lie {w : World} {base : Nat} {e : TypeId} {v : Value} {n : Nat} {xs : List Value} (h : w.ownsRow base e 1 v n xs) :
    xs.length = n ∧ ∃ ao cap, v = .slice ao n cap ∧ (0 < n → ∃ g, ao = some ⟨g, 0, none⟩ ∧ base ≤ g ∧ g < w.heap.size ∧ n ≤ cap ∧ v.ownBlock = some g ∧ (∀ (j : Nat) u, xs[j]? = some u → w.cell? ⟨g, j, none⟩ = some u) ∧ ∀ j, w.frozen? ⟨g, j, none⟩ = false) := by
  have h' := h
  obtain ⟨h1, h2⟩ := h
  refine ⟨by omega, ?_⟩
  rcases h2 with ⟨hv, hn⟩ | ⟨g, cap, cur, hv, hgb, hh, hle, hmx, hsz, hx⟩
  · exact ⟨none, 0, by rw [hv, hn], fun h0 => by omega⟩
  · refine ⟨_, cap, hv, fun _ => ⟨g, rfl, hgb, (h'.lt g (by rw [hv]; rfl)).2, hle, by rw [hv]; rfl, fun j u hu => ?_, fun j => ?_⟩⟩
    · have := h'.cells (g := g) (by rw [hv]; rfl) j _ hu
      rw [add_at] at this
      exact this
    · simp [World.frozen?, hh]

/-- an owned row, one of its cells written -/
theorem ownsRow_set {w : World} {base : Nat} {e : TypeId} {v : Value} {n : Nat} {xs : List Value} (h : w.ownsRow base e 1 v n xs) {g : Nat} (hg : v.ownBlock = some g) (k : Nat) (u : Value) :
    (w.setCell ⟨g, k, none⟩ u).ownsRow base e 1 v n (xs.set k u) := by
  obtain ⟨h1, h2⟩ := h
  rcases h2 with ⟨hv, hn⟩ | ⟨g', cap, cur, hv, hgb, hh, hle, hmx, hsz, hx⟩
  · rw [hv] at hg; cases hg
  · rw [hv] at hg
    simp only [Value.ownBlock, Option.some.injEq] at hg
    subst hg
    refine ⟨by simpa using h1, Or.inr ⟨g', cap, cur.setIfInBounds k u, hv, hgb, ?_, hle, hmx, by simpa using hsz, ?_⟩⟩
    · simp only [World.setCell]
      rw [Array.getElem?_modify, if_pos rfl, hh]
      rfl
    · rw [Array.toList_setIfInBounds, ← hx, List.take_set]

/-- a place of an owned row may be written -/
theorem at_row {w : World} {base : Nat} {e : TypeId} {g n c : Nat} {xs : List Value} (h : w.ownsRow base e 1 (.slice (some ⟨g, 0, none⟩) n c) n xs) (k : Nat) (hk : k < n) : ∃ u, w.cell? ⟨g, k, none⟩ = some u ∧ w.frozen? ⟨g, k, none⟩ = false := by
  obtain ⟨hl, ao, cap, hv, hf⟩ := row_lie h
  obtain ⟨g', e1, _, _, _, _, hc, hz⟩ := hf (by omega)
  simp only [Value.slice.injEq] at hv
  obtain ⟨rfl, _, _⟩ := hv
  simp only [Option.some.injEq, Addr.mk.injEq, and_true] at e1
  subst e1
  have hk' : k < xs.length := by omega
  exact ⟨xs[k], hc k _ (List.getElem?_eq_getElem hk'), hz k⟩

theorem grownBy_set (w : World) (g k : Nat) (u : Value) : w.grownBy (w.setCell ⟨g, k, none⟩ u) (some g) :=
  ⟨rfl, rfl, rfl, by simp [World.setCell], fun j _ hj => Below.heap_setCell _ _ _ _ (fun e => hj (by simp [e]))⟩

/-- the one cell of a new block -/
theorem one_new (w : World) (x : Value) (t : TypeId) : ∀ (j : Nat) u, [x][j]? = some u → (w.alloc (.cells #[x] t)).cell? ((⟨w.heap.size, 0, none⟩ : Addr).add j) = some u := by
  intro j u hj
  match j, hj with
  | 0, hj => simp at hj; subst hj; simp [Addr.add]

/-- texts as the cells of a row -/
def st (l : List ByteArray) : List Value := l.map Value.string
theorem st_append (l r : List ByteArray) : st (l ++ r) = st l ++ st r := by simp [st]
theorem st_length (l : List ByteArray) : (st l).length = l.length := by simp [st]
theorem st_at (l : List ByteArray) (k : Nat) (h : k < l.length) : (st l)[k]? = some (.string l[k]) := by simp [st, h]
end Go.Proofs.Ytngcldjkpcmidaa

namespace Go.Proofs.Ytngcldjkpcmidaa
open Go.RowKit

/-- the figure of x, as a byte -/
def fig (x : Int) : Int := if x < 10 then 48 + x else 87 + x

theorem fig_bd {x : Int} (h0 : 0 ≤ x) (h1 : x ≤ 15) : 48 ≤ fig x ∧ fig x ≤ 102 := by unfold fig; split <;> omega

def hexOf : List UInt8 → List UInt8
  | [] => []
  | b :: r => UInt8.ofNat (fig (b.toNat / 16)).toNat :: UInt8.ofNat (fig (b.toNat % 16)).toNat :: hexOf r

theorem hexOf_append (l r : List UInt8) : hexOf (l ++ r) = hexOf l ++ hexOf r := by
  induction l with
  | nil => rfl
  | cons b l ih => simp [hexOf, ih]

theorem hexOf_length (l : List UInt8) : (hexOf l).length = 2 * l.length := by
  induction l with
  | nil => rfl
  | cons b l ih => simp [hexOf, ih]; omega

theorem take_snoc (s : ByteArray) (k : Nat) (h : k < s.size) : s.data.toList.take (k + 1) = s.data.toList.take k ++ [s[k]] := by
  rw [List.take_succ_eq_append_getElem (by simpa using h)]; rfl

theorem take_len (s : ByteArray) (k : Nat) (h : k ≤ s.size) : (s.data.toList.take k).length = k := by
  have : s.data.toList.length = s.size := by simp
  rw [List.length_take]; omega

theorem two_cs (b : UInt8) : [Value.int .u8 (fig ((b.toNat : Int) / 16)), .int .u8 (fig ((b.toNat : Int) % 16))] = cs (hexOf [b]) := by
  have hb := b.toNat_lt
  have h1 := fig_bd (x := (b.toNat : Int) / 16) (by omega) (by omega)
  have h2 := fig_bd (x := (b.toNat : Int) % 16) (by omega) (by omega)
  simp only [hexOf, cs, List.map_cons, List.map_nil, UInt8.toNat_ofNat', List.cons.injEq, and_true, Value.int.injEq, true_and]
  omega

theorem hex_step {s : ByteArray} {k : Nat} {w wr w1 : World} {v : Value} {g cap : Nat} {B : Obj} (hk : k < s.size) (hown : wr.ownsRow w.heap.size 5 1 v (2 * k) (cs (hexOf (s.data.toList.take k))))
    (hown' : w1.ownsRow w.heap.size 5 1 (.slice (some ⟨g, 0, none⟩) (2 * k + 2) cap) (2 * k + 2) (cs (hexOf (s.data.toList.take k)) ++ [.int .u8 (fig ((s[k].toNat : Int) / 16)), .int .u8 (fig ((s[k].toNat : Int) % 16))]))
    (hgrow : (wr.alloc B).drew.grownBy w1 v.ownBlock) (hb : Below w.heap.size w wr) :
    w1.ownsRow w.heap.size 5 1 (.slice (some ⟨g, 0, none⟩) (2 * k + 2) cap) (2 * (k + 1)) (cs (hexOf (s.data.toList.take (k + 1)))) ∧ Below w.heap.size w w1 := by
  refine ⟨?_, ((hb.alloc hb.size _).drew).grown hgrow (by have := hb.size; simp; omega) (fun j hj => (hown.lt j hj).1)⟩
  rw [two_cs, ← cs_append, ← hexOf_append, ← take_snoc s k hk] at hown'
  exact hown'

theorem i64_id {x : Int} (h0 : -9223372036854775808 ≤ x) (h1 : x ≤ 9223372036854775807) : IntKind.i64.wrap x = x := by
  simp [IntKind.wrap, IntKind.signed, IntKind.bits]; omega
theorem u8_id {x : Int} (h0 : 0 ≤ x) (h1 : x ≤ 255) : IntKind.u8.wrap x = x := by
  simp [IntKind.wrap, IntKind.signed, IntKind.bits]; omega

theorem wrap_quo (b : UInt8) : IntKind.i64.wrap ((IntKind.i64.wrap (b.toNat : Int)).tdiv 16) = (b.toNat : Int) / 16 := by
  have hb := b.toNat_lt
  have e : IntKind.i64.wrap (b.toNat : Int) = (b.toNat : Int) := by simp [IntKind.wrap, IntKind.signed, IntKind.bits]; omega
  rw [e, Int.tdiv_eq_ediv_of_nonneg (by omega)]
  simp [IntKind.wrap, IntKind.signed, IntKind.bits]; omega
theorem wrap_rem (b : UInt8) : (IntKind.i64.wrap (b.toNat : Int)).tmod 16 = (b.toNat : Int) % 16 := by
  have hb := b.toNat_lt
  have e : IntKind.i64.wrap (b.toNat : Int) = (b.toNat : Int) := by simp [IntKind.wrap, IntKind.signed, IntKind.bits]; omega
  rw [e, Int.tmod_eq_emod_of_nonneg (by omega)]
end Go.Proofs.Ytngcldjkpcmidaa

namespace Go.Proofs.Ytngcldjkpcmidaa
open Go.RowKit

/-- what the byte c counts as a figure; -1 where it is none -/
def lv (c : Int) : Int := if 48 ≤ c ∧ c ≤ 57 then c - 48 else if 97 ≤ c ∧ c ≤ 102 then c - 87 else -1

theorem lv_bd (c : Int) : -1 ≤ lv c ∧ lv c ≤ 15 := by unfold lv; split <;> (try split) <;> omega

theorem fig_lv {c j : Int} (h0 : 0 ≤ j) (h1 : j ≤ 15) : c = fig j ↔ lv c = j := by
  unfold lv fig
  split <;> split <;> (try split) <;> omega

/-- the values of a text's figures -/
def lvs (l : List UInt8) : List Int := l.map fun c => lv (c.toNat : Int)

def Figs (b : Nat) (l : List UInt8) : Prop := ∀ c ∈ l, 0 ≤ lv (c.toNat : Int) ∧ lv (c.toNat : Int) < b

theorem Figs.snoc {b : Nat} {l : List UInt8} {c : UInt8} (h : Figs b l) (hc : 0 ≤ lv (c.toNat : Int) ∧ lv (c.toNat : Int) < b) : Figs b (l ++ [c]) := by
  intro x hx
  rcases List.mem_append.1 hx with hx | hx
  · exact h x hx
  · simp at hx; subst hx; exact hc

/-- ints as the cells of a row -/
def ns (l : List Int) : List Value := l.map (Value.int .i64)

theorem mem_at (s : ByteArray) (k : Nat) (h : k < s.size) : s[k] ∈ s.data.toList := by
  have h1 : k < s.data.toList.length := by simpa using h
  have h2 := List.getElem_mem h1
  have h3 : s.data.toList[k] = s[k] := by rw [Array.getElem_toList]; rfl
  rw [h3] at h2
  exact h2

theorem lvs_append (l r : List UInt8) : lvs (l ++ r) = lvs l ++ lvs r := by simp [lvs]
theorem lvs_length (l : List UInt8) : (lvs l).length = l.length := by simp [lvs]
theorem ns_append (l r : List Int) : ns (l ++ r) = ns l ++ ns r := by simp [ns]

theorem fv_step {s : ByteArray} {k : Nat} {w wr w1 : World} {v v' : Value} {B : Obj} {j : Int} (hk : k < s.size) (hj : lv (s[k].toNat : Int) = j) (hown : wr.ownsRow w.heap.size 3 1 v k (ns (lvs (s.data.toList.take k))))
    (hown' : w1.ownsRow w.heap.size 3 1 v' (k + 1) (ns (lvs (s.data.toList.take k)) ++ [.int .i64 j])) (hgrow : (wr.alloc B).grownBy w1 v.ownBlock) (hb : Below w.heap.size w wr) :
    w1.ownsRow w.heap.size 3 1 v' (k + 1) (ns (lvs (s.data.toList.take (k + 1)))) ∧ Below w.heap.size w w1 := by
  refine ⟨?_, (hb.alloc hb.size _).grown hgrow (by have := hb.size; simp; omega) (fun j hj => (hown.lt j hj).1)⟩
  have e : [Value.int .i64 j] = ns (lvs [s[k]]) := by simp [ns, lvs, hj]
  rw [e, ← ns_append, ← lvs_append, ← take_snoc s k hk] at hown'
  exact hown'

/-- where the values lie -/
theorem values_lie {w w1 : World} {s : ByteArray} {v : Value} (h : w1.ownsRow w.heap.size 3 1 v s.size (ns (lvs s.data.toList))) :
    ∃ ao cap, v = .slice ao s.size cap ∧ (0 < s.size → ∃ g, ao = some ⟨g, 0, none⟩ ∧ g < w1.heap.size ∧ s.size ≤ cap ∧ ∀ j (hj : j < s.size), w1.cell? ⟨g, j, none⟩ = some (.int .i64 (lv (s[j].toNat : Int)))) := by
  have h' := h
  obtain ⟨h1, h2⟩ := h
  rcases h2 with ⟨hv, hn⟩ | ⟨g, cap, cur, hv, hgb, hh, hle, hmx, hsz, hx⟩
  · exact ⟨none, 0, by rw [hv, hn], fun h0 => by omega⟩
  · refine ⟨_, cap, hv, fun _ => ⟨g, rfl, (h'.lt g (by rw [hv]; rfl)).2, hle, fun j hj => ?_⟩⟩
    have hu : (ns (lvs s.data.toList))[j]? = some (.int .i64 (lv (s[j].toNat : Int))) := by
      have hj' : j < s.data.toList.length := by simpa using hj
      have e : s.data.toList[j] = s[j] := by rw [Array.getElem_toList]; rfl
      simp only [ns, lvs, List.getElem?_map, List.getElem?_eq_getElem hj', Option.map_some, e]
    have := h'.cells (g := g) (by rw [hv]; rfl) j _ hu
    have ea : (⟨g, 0, none⟩ : Addr).add j = ⟨g, j, none⟩ := by
      simp only [Addr.add]
      split
      · simp_all
      · simp
    rw [ea] at this
    exact this
end Go.Proofs.Ytngcldjkpcmidaa

namespace Go.Proofs.Ytngcldjkpcmidaa
open Go.RowKit

/-- the decimal figures of n, none for 0 (with so many steps at the most) -/
def ddF : Nat → Nat → List UInt8
  | 0, _ => []
  | f + 1, n => if n = 0 then [] else ddF f (n / 10) ++ [UInt8.ofNat (48 + n % 10)]
/-- the decimal figures of n, none for 0 -/
def dd (n : Nat) : List UInt8 := ddF n n

theorem ddF_eq : ∀ (f g n : Nat), n ≤ f → n ≤ g → ddF f n = ddF g n
  | 0, 0, _, _, _ => rfl
  | 0, g + 1, n, h, _ => by
    obtain rfl : n = 0 := by omega
    rw [ddF, ddF, if_pos rfl]
  | f + 1, 0, n, _, h => by
    obtain rfl : n = 0 := by omega
    rw [ddF, ddF, if_pos rfl]
  | f + 1, g + 1, n, h1, h2 => by
    rw [ddF, ddF]
    by_cases h : n = 0
    · rw [if_pos h, if_pos h]
    · rw [if_neg h, if_neg h, ddF_eq f g (n / 10) (by omega) (by omega)]
theorem dd_zero : dd 0 = [] := rfl
theorem dd_pos {n : Nat} (h : 0 < n) : dd n = dd (n / 10) ++ [UInt8.ofNat (48 + n % 10)] := by
  rw [dd, ddF_eq n (n + 1) n (Nat.le_refl _) (by omega), ddF, if_neg (by omega), dd, ddF_eq n (n / 10) (n / 10) (by omega) (Nat.le_refl _)]

theorem dd_len (k : Nat) : ∀ n, n < 10 ^ k → (dd n).length ≤ k := by
  induction k with
  | zero => intro n h; have : n = 0 := by simp at h; omega
            subst this; rw [dd_zero]; simp
  | succ k ih =>
    intro n h
    by_cases h0 : n = 0
    · subst h0; rw [dd_zero]; simp
    · rw [dd_pos (by omega), List.length_append]
      have := ih (n / 10) (by rw [Nat.pow_succ] at h; omega)
      simp only [List.length_cons, List.length_nil]
      omega

/-- n in decimal -/
def dec (n : Int) : List UInt8 := if n = 0 then [48] else if n < 0 then 45 :: dd n.natAbs else dd n.natAbs

/-- what figures make -/
def num (l : List UInt8) : Nat := l.foldl (fun n c => 10 * n + (c.toNat - 48)) 0

theorem num_nil : num [] = 0 := rfl
theorem num_snoc (l : List UInt8) (c : UInt8) : num (l ++ [c]) = 10 * num l + (c.toNat - 48) := by simp [num, List.foldl_append]

def Digits (l : List UInt8) : Prop := ∀ c ∈ l, 48 ≤ c.toNat ∧ c.toNat ≤ 57

theorem Digits.init {l : List UInt8} {c : UInt8} (h : Digits (l ++ [c])) : Digits l ∧ 48 ≤ c.toNat ∧ c.toNat ≤ 57 :=
  ⟨fun x hx => h x (List.mem_append.2 (Or.inl hx)), h c (by simp)⟩
theorem Digits.snoc {l : List UInt8} {c : UInt8} (h : Digits l) (hc : 48 ≤ c.toNat ∧ c.toNat ≤ 57) : Digits (l ++ [c]) := by
  intro x hx
  rcases List.mem_append.1 hx with hx | hx
  · exact h x hx
  · simp at hx; subst hx; exact hc

theorem snoc_cases (l : List UInt8) : l = [] ∨ ∃ r c, l = r ++ [c] := by
  rcases h : l.reverse with _ | ⟨c, r⟩
  · exact Or.inl (by simpa using h)
  · exact Or.inr ⟨r.reverse, c, by have := congrArg List.reverse h; simpa using this⟩

theorem num_lt : ∀ (k : Nat) (l : List UInt8), l.length = k → Digits l → num l < 10 ^ k
  | 0, l, h, _ => by
    have : l = [] := List.eq_nil_of_length_eq_zero h
    subst this; simp [num]
  | k + 1, l, h, hd => by
    rcases snoc_cases l with rfl | ⟨r, c, rfl⟩
    · simp at h
    · have h1 := hd.init
      have := num_lt k r (by simpa using h) h1.1
      rw [num_snoc, Nat.pow_succ]
      omega

theorem num_lead (c : UInt8) (hc : c ≠ 48) (hc1 : 48 ≤ c.toNat ∧ c.toNat ≤ 57) : ∀ (k : Nat) (r : List UInt8), r.length = k → Digits r → 0 < num (c :: r) ∧ dd (num (c :: r)) = c :: r
  | 0, r, h, _ => by
    have : r = [] := List.eq_nil_of_length_eq_zero h
    subst this
    have h48 : c.toNat ≠ 48 := fun e => hc (UInt8.toNat_inj.1 (by simpa using e))
    have e : num [c] = c.toNat - 48 := by simp [num]
    rw [e]
    refine ⟨by omega, ?_⟩
    rw [dd_pos (by omega), show (c.toNat - 48) / 10 = 0 by omega, dd_zero, show 48 + (c.toNat - 48) % 10 = c.toNat by omega]
    simp
  | k + 1, r, h, hd => by
    rcases snoc_cases r with rfl | ⟨r', x, rfl⟩
    · simp at h
    · have h1 := hd.init
      obtain ⟨i1, i2⟩ := num_lead c hc hc1 k r' (by simpa using h) h1.1
      have e : num (c :: (r' ++ [x])) = 10 * num (c :: r') + (x.toNat - 48) := num_snoc (c :: r') x
      rw [e]
      refine ⟨by omega, ?_⟩
      rw [dd_pos (by omega), show (10 * num (c :: r') + (x.toNat - 48)) / 10 = num (c :: r') by omega, show 48 + (10 * num (c :: r') + (x.toNat - 48)) % 10 = x.toNat by omega, i2]
      simp

/-- figures of a number do not begin with a nought -/
theorem dd_head : ∀ (n : Nat), 0 < n → ∃ c r, dd n = c :: r ∧ c ≠ 48 := by
  intro n
  induction n using Nat.strongRecOn with
  | _ n ih =>
    intro h
    rw [dd_pos h]
    by_cases h1 : n / 10 = 0
    · rw [h1, dd_zero]
      refine ⟨_, [], rfl, ?_⟩
      intro e
      have := congrArg UInt8.toNat e
      simp only [UInt8.toNat_ofNat', UInt8.toNat_ofNat] at this
      omega
    · obtain ⟨c, r, e, hc⟩ := ih (n / 10) (by omega) (by omega)
      exact ⟨c, r ++ [UInt8.ofNat (48 + n % 10)], by rw [e]; rfl, hc⟩

/-- a text of figures is how its number is written, just when it has some and no needless nought ahead -/
theorem dec_num (l : List UInt8) (hd : Digits l) : dec (num l : Int) = l ↔ l ≠ [] ∧ ¬ (l.head? = some 48 ∧ 1 < l.length) := by
  match l, hd with
  | [], _ => simp [num, dec]
  | c :: r, hd =>
    have hc := hd c (by simp)
    have hr : Digits r := fun x hx => hd x (by simp [hx])
    by_cases h48 : c = 48
    · subst h48
      match r, hr with
      | [], _ => simp [num, dec]
      | x :: r', hr =>
        simp only [List.head?_cons, List.length_cons, ne_eq, reduceCtorEq, not_false_eq_true, true_and]
        constructor
        · intro e
          unfold dec at e
          split at e
          · simp at e
          · rename_i hz
            rw [if_neg (by omega), Int.natAbs_natCast] at e
            obtain ⟨y, q, e1, e2⟩ := dd_head (num (48 :: x :: r')) (by omega)
            rw [e1] at e
            simp only [List.cons.injEq] at e
            exact absurd e.1 e2
        · intro h
          exact absurd (by omega) h
    · obtain ⟨i1, i2⟩ := num_lead c h48 hc r.length r rfl hr
      unfold dec
      rw [if_neg (by omega), if_neg (by omega), Int.natAbs_natCast, i2]
      simp [h48]

theorem digits_figs (l : List UInt8) : Digits l ↔ Figs 10 l := by
  constructor
  · intro h c hc
    have := h c hc
    unfold lv
    rw [if_pos (by omega)]
    omega
  · intro h c hc
    have := h c hc
    unfold lv at this
    split at this
    · omega
    · split at this <;> omega
theorem lv_digit {c : UInt8} (h : 48 ≤ c.toNat ∧ c.toNat ≤ 57) : lv (c.toNat : Int) = ((c.toNat - 48 : Nat) : Int) := by
  unfold lv; rw [if_pos (by omega)]; omega

/-- a text that ReadDecimal takes -/
def DecOk (l : List UInt8) : Prop := Digits l ∧ num l ≤ 1000000000 ∧ l ≠ [] ∧ ¬ (l.head? = some 48 ∧ 1 < l.length)

theorem digits_at {s : ByteArray} {k : Nat} (hk : k < s.size) (h : ¬ (48 ≤ s[k].toNat ∧ s[k].toNat ≤ 57)) : ¬ DecOk s.data.toList := fun hd => h (hd.1 s[k] (mem_at s k hk))

theorem num_step {s : ByteArray} {k : Nat} (hk : k < s.size) (h : 48 ≤ (s[k].toNat : Int)) : ((num (s.data.toList.take (k + 1)) : Nat) : Int) = 10 * (num (s.data.toList.take k) : Int) + (s[k].toNat : Int) - 48 := by
  rw [take_snoc s k hk, num_snoc]
  omega

theorem ret_num {a b : Nat} (h : a = b) : Ending.returned (.tuple #[.int .i64 a, .bool true]) = .returned (.tuple #[.int .i64 b, .bool true]) := by rw [h]

theorem same_dec {s : ByteArray} {l : List UInt8} : (!l == s.toList) = false ↔ l = s.data.toList := by
  rw [ByteArray.toList_eq]; simp
end Go.Proofs.Ytngcldjkpcmidaa

namespace Go.Proofs.Ytngcldjkpcmidaa
open Go.RowKit

theorem OwnAt.lates {w : World} {l : List LateD} {va : Option Addr} {lo hi : Nat} (h : OwnAt w 61 (lateCells l) l.length va lo hi) : LatesAt w va l := by
  rcases h with h | ⟨g, r, rfl, _, _, h⟩
  · intro h0
    exact absurd (List.length_eq_zero_iff.1 h) h0
  · exact latesAt_of h
theorem own_of_lates {w : World} {base g : Nat} {l : List LateD} (hb : base ≤ g) (hk : BlockIs w g 61 (lateCells l)) : OwnAt w 61 (lateCells l) l.length (some ⟨g, 0, none⟩) base w.heap.size :=
  Or.inr ⟨g, [], rfl, hb, hk.lt, by rw [List.append_nil]; exact hk⟩
end Go.Proofs.Ytngcldjkpcmidaa

namespace Go.Proofs.Ytngcldjkpcmidaa
open Go.ChangeShapes Go.WideShapes Go.RowKit Go.Deep

set_option maxRecDepth 1000000 in
theorem seg_cellsE : Try.prog.cellsOf 26 = 4 := by kernel_rfl
set_option maxRecDepth 1000000 in
theorem seg_cells9 : Try.prog.cellsOf 9 = 1 := by kernel_rfl
set_option maxRecDepth 1000000 in
theorem seg_cells3 : Try.prog.cellsOf 3 = 1 := by kernel_rfl
set_option maxRecDepth 1000000 in
theorem seg_fields {H : Type} {enc : TypeId × Value → H} {P : Program} {W : World} {base : Nat} {sp : Nat → Bool} {held : Bool} {fuel : Nat} {t : TypeId} {f0 f1 f2 f3 : Field} {cs : List Value} {x : DataW H × List MemPlace} (ht : P.underlying t = some (.struct #[f0, f1, f2, f3])) (h : DataW.trod enc P W base sp held fuel t cs = some x) :
    ∃ y0 y1 y2 y3 n, cs.length = P.cellsOf t ∧ DataW.trod enc P W base sp held n f0.type ((cs.drop f0.offset).take (P.cellsOf f0.type)) = some y0 ∧ DataW.trod enc P W base sp held n f1.type ((cs.drop f1.offset).take (P.cellsOf f1.type)) = some y1 ∧ DataW.trod enc P W base sp held n f2.type ((cs.drop f2.offset).take (P.cellsOf f2.type)) = some y2 ∧ DataW.trod enc P W base sp held n f3.type ((cs.drop f3.offset).take (P.cellsOf f3.type)) = some y3 := by
  obtain ⟨xs, n, _, _, hl, hlen, hf⟩ := DataW.trod_struct ht h
  match xs, hlen with
  | [y0, y1, y2, y3], _ => exact ⟨y0, y1, y2, y3, n, hl, by simpa using hf 0 f0 rfl, by simpa using hf 1 f1 rfl, by simpa using hf 2 f2 rfl, by simpa using hf 3 f3 rfl⟩

set_option maxRecDepth 1000000 in
theorem open_segCells {H : Type} {enc : TypeId × Value → H} {W : World} {base : Nat} {sp : Nat → Bool} {held : Bool} {fuel : Nat} {cs : List Value} {x : DataW H × List MemPlace} (h : DataW.trod enc Try.prog W base sp held fuel 26 cs = some x) :
    ∃ e : SegD, cs = segEnc e ∧ e.Fits := by
  obtain ⟨y0, y1, y2, y3, n, hl, h0, h1, h2, h3⟩ := seg_fields Try.underlying26 h
  rw [seg_cellsE] at hl
  match cs, hl with
  | [c0, c1, c2, c3], _ =>
    simp only [seg_cells3, seg_cells9] at h0 h1 h2 h3
    obtain ⟨k0, e0, _, s0⟩ := DataW.trod_int Try.underlying3 h0
    obtain ⟨k1, e1, _, s1⟩ := DataW.trod_int Try.underlying3 h1
    obtain ⟨k2, e2, _, s2⟩ := DataW.trod_int Try.underlying3 h2
    obtain ⟨k3, e3, _, s3⟩ := DataW.trod_string Try.underlying9 h3
    simp at e0 e1 e2 e3
    subst e0 e1 e2 e3
    exact ⟨⟨k0, k1, k2, k3⟩, rfl, bounds_i64 s0, bounds_i64 s1, bounds_i64 s2, s3⟩

set_option maxRecDepth 1000000 in
/-- one of them as a parameter -/
theorem open_seg {H : Type} {enc : TypeId × Value → H} {W : World} {r : Reach} {b0 base : Nat} {sp : Nat → Bool} {held : Bool} {v : Value} {d : DataW H} {ps : List MemPlace} (hval : Value.okWide Try.prog W r b0 26 v) (hd : DataW.Trod enc Try.prog W base sp held 26 v d ps) :
    ∃ e : SegD, v = .agg #[.int .i64 e.num, .int .i64 e.ack, .int .i64 e.flags, .string e.body] ∧ e.Fits := by
  obtain ⟨cs, rfl, _⟩ := okWide_struct Try.underlying26 hval
  obtain ⟨fuel, hf⟩ := hd
  obtain ⟨a, e, r⟩ := open_segCells hf
  refine ⟨a, ?_, r⟩
  obtain ⟨c⟩ := cs
  have e' : c = segEnc a := by simpa [Value.cells] using e
  rw [e']
  rfl
end Go.Proofs.Ytngcldjkpcmidaa

namespace Go.Proofs.Ytngcldjkpcmidaa
open Go.RowKit

theorem lateR_one (a : LateD) : ∀ u ∈ lateEnc a, u.oneCell' = true := by
  intro u hu
  simp only [lateEnc, List.mem_cons, List.not_mem_nil, or_false] at hu
  rcases hu with rfl | rfl <;> rfl
theorem lateR_all (l : List LateD) : ∀ u ∈ lateCells l, u.oneCell' = true := by
  intro u hu
  obtain ⟨a, _, h⟩ := List.mem_flatMap.1 hu
  exact lateR_one a u h
theorem lateR_snoc (l : List LateD) (a : LateD) : lateCells (l ++ [a]) = lateCells l ++ lateEnc a := by simp [lateCells]
theorem lateR_append (l m : List LateD) : lateCells (l ++ m) = lateCells l ++ lateCells m := by simp [lateCells]
/-- the cells of a list that lies at an address -/
theorem lates_cells {w : World} {b off : Nat} {l : List LateD} (h : ∀ j (hj : j < l.length), w.cell? ⟨b, off + j * 2, none⟩ = some (.int .i64 l[j].num) ∧ w.cell? ⟨b, off + j * 2 + 1, none⟩ = some (.string l[j].text)) :
    ∀ j u, (lateCells l)[j]? = some u → w.cell? ((⟨b, off, none⟩ : Addr).add j) = some u := by
  intro j u hu
  have hlt : j < (lateCells l).length := (List.getElem?_eq_some_iff.1 hu).1
  rw [lateCells_length] at hlt
  have hj : j / 2 < l.length := by omega
  have hr := row_at lateEnc 2 (fun _ => rfl) l [] (j / 2) (j % 2) hj (Nat.mod_lt _ (by omega))
  rw [List.append_nil, show j / 2 * 2 + j % 2 = j by omega] at hr
  have hu' : (lateEnc l[j / 2])[j % 2]? = some u := by rw [← hr]; exact hu
  have hadd : (⟨b, off, none⟩ : Addr).add j = ⟨b, off + j, none⟩ := Addr.add_lit _ _ _
  rw [hadd]
  obtain ⟨h0, h1⟩ := h (j / 2) hj
  have h3 : j % 2 = 0 ∨ j % 2 = 1 := by omega
  rcases h3 with e | e
  · rw [e] at hu'
    rw [show off + j = off + j / 2 * 2 by omega, h0]
    exact hu'
  · rw [e] at hu'
    rw [show off + j = off + j / 2 * 2 + 1 by omega, h1]
    exact hu'
theorem lateR_below {w w2 : World} {base n : Nat} {v : Value} {xs : List Value} (h : w.ownsRow base 61 2 v n xs) (hb : Below w.heap.size w w2) : w2.ownsRow base 61 2 v n xs := by
  refine h.kept (grown_of_below hb none) ?_
  cases v.ownBlock with
  | none => exact Or.inl rfl
  | some g => exact Or.inr (by simp)
theorem lateR_block {w : World} {base n j : Nat} {v : Value} {xs : List Value} (h : w.ownsRow base 61 2 v n xs) (hv : v.ownBlock = some j) : base ≤ j ∧ ∃ cs, BlockIs w j 61 cs := by
  rcases h.2 with ⟨rfl, _⟩ | ⟨g, cap, cur, rfl, hb, hh, _⟩
  · simp [Value.ownBlock] at hv
  · have : g = j := by simpa [Value.ownBlock] using hv
    subst this
    exact ⟨hb, cur.toList, by unfold BlockIs; rw [hh]⟩
/-- a block of another type stands where a row grows -/
theorem lateR_other {w w1 : World} {base n g : Nat} {t : TypeId} {v : Value} {xs cs : List Value} (h : BlockIs w g t cs) (hr : w.ownsRow base 61 2 v n xs) (hg : w.grownBy w1 v.ownBlock) (ht : t ≠ 61) : BlockIs w1 g t cs := by
  have hlt := h.lt
  unfold BlockIs at h ⊢
  rw [hg.block g hlt ?_]
  · exact h
  · intro e
    obtain ⟨_, cs2, h2⟩ := lateR_block hr e.symm
    unfold BlockIs at h2
    rw [h] at h2
    simp only [Option.some.injEq, Obj.cells.injEq] at h2
    exact ht h2.2.1
theorem lateR_down {w w1 w2 : World} {m base n : Nat} {v : Value} {xs : List Value} (h : Below m w w1) (hr : w1.ownsRow base 61 2 v n xs) (hg : w1.grownBy w2 v.ownBlock) (hb : m ≤ base) (hm : m ≤ w1.heap.size) : Below m w w2 :=
  h.grown hg hm (fun k e => by have := (lateR_block hr e).1; omega)
theorem lateR_nil (w : World) (m : Nat) (hm : m ≤ w.heap.size) : World.ownsRow (w.alloc (.cells #[] 61)) m 61 2 (.slice (some ⟨w.heap.size, 0, none⟩) 0 0) 0 (lateCells []) :=
  row_down (World.ownsRow_made w (size := 2) (e := 61) #[] 0 (Nat.le_refl _) (Nat.zero_le _) rfl) hm
/-- one that is laid by itself -/
theorem lateR_new (w : World) (a : LateD) : ∀ j u, (lateEnc a)[j]? = some u → (w.alloc (.cells #[.int .i64 a.num, .string a.text] 61)).cell? ((⟨w.heap.size, 0, none⟩ : Addr).add j) = some u := by
  intro j u hu
  rw [Addr.add_lit, Nat.zero_add]
  exact (show BlockIs _ _ 61 (lateEnc a) from heap_alloc_new w _).cell hu
/-- a list behind a row of the call's own -/
theorem append_lates {W : World} {v : Value} {base c : Nat} {L M : List LateD} {ao : Option Addr} (hn : L.length + M.length ≤ 2097153) (hbase : base ≤ W.heap.size) (hr : W.ownsRow base 61 2 v L.length (lateCells L)) (hM : LatesAt W ao M) :
    ∃ v' W', (Builtin.append_ #[29, 29] 29 #[v, .slice ao M.length c]).run Try.prog W = .ok v' W' ∧ W'.ownsRow base 61 2 v' (L ++ M).length (lateCells (L ++ M)) ∧ W.grownBy W' v.ownBlock := by
  obtain ⟨i0, hi, hz0, hz1, hz2⟩ := info_parts toLate_info
  rw [List.length_append, lateR_append]
  cases ao with
  | none =>
    have hM0 : M = [] := by
      by_cases hne : M = []
      · exact hne
      · obtain ⟨b, off, e, _⟩ := hM hne
        cases e
    subst hM0
    refine ⟨v, W, ?_, by simpa [lateCells] using hr, World.grownBy.refl _ _⟩
    obtain ⟨va, vc, rfl⟩ := row_shape hr
    have hlc : L.length ≤ vc := by
      rcases hr.2 with ⟨hq, hz⟩ | ⟨_, cp, _, hq, _, _, hle, _⟩
      · omega
      · simp only [Value.slice.injEq] at hq
        omega
    cases va <;> simp [Builtin.append_, run_underlying Try.underlying29, sizeOf, typeInfo, hi, Builtin.lenOf, Builtin.firstCells, storeCells, hlc]
  | some ad =>
    have hnews : ∀ j u, (lateCells M)[j]? = some u → W.cell? (ad.add j) = some u := by
      by_cases hne : M = []
      · subst hne
        intro j u hu
        simp [lateCells] at hu
      · obtain ⟨b, off, e, hc⟩ := hM hne
        cases e
        exact lates_cells hc
    obtain ⟨v', W', h1, h2, h3, _⟩ := run_append_own (P := Try.prog) W base 29 29 61 i0 _ 2 24 Try.underlying29 hi hz0 hz1 hz2 rfl (by decide) v L.length _ hr ad M.length c (lateCells M) (lateCells_length M) hnews (lateR_all M) (by unfold maxLen; omega) (by omega) hbase
    exact ⟨v', W', h1, h2, h3⟩
theorem wpList_append_lates {w : World} {ops : Array Oper} {rest : List Oper} {o : Oper} {a : Act} {Q : Exit → Act → World → Prop} (hgd : o.guard = none) (s x : Operand)
    (ho : o.op = .call { callee := .builtin .append, args := #[s, x], argTypes := #[29, 29] }) (hty : o.type = 29) {v : Value} {base c m N : Nat} {L M : List LateD} {ao : Option Addr} (hs : a.eval s = v) (hx : a.eval x = .slice ao m c)
    (hm : M.length = m) (hN : (L ++ M).length = N) (hn : N ≤ 2097153) (hbase : base ≤ w.heap.size) (hr : w.ownsRow base 61 2 v L.length (lateCells L)) (hM : LatesAt w ao M)
    (h : ∀ va vc w1, w1.ownsRow base 61 2 (.slice va N vc) N (lateCells (L ++ M)) → w.grownBy w1 v.ownBlock → wpList Try.prog ops Q rest (a.put o.dst (.slice va N vc)) w1) : wpList Try.prog ops Q (o :: rest) a w := by
  subst hm hN
  obtain ⟨v', W', hrun, h2, h3⟩ := append_lates (c := c) (by rw [← List.length_append]; exact hn) hbase hr hM
  obtain ⟨va, vc, rfl⟩ := row_shape h2
  refine wpList_plain hgd fun K hK => ?_
  unfold Oper.wp
  simp [execOp, ho, hty, resolve, invoke, builtin, hs, hx, hrun, Result.andThen]
  have h4 := h va vc W' h2 h3
  rw [List.length_append] at h4
  exact hK _ _ h4
/-- they lie there -/
theorem lateR_at {w : World} {base : Nat} {va : Option Addr} {vc : Nat} {l : List LateD} (h : w.ownsRow base 61 2 (.slice va l.length vc) l.length (lateCells l)) : LatesAt w va l := by
  rcases h.2 with ⟨hv, h0⟩ | ⟨g, cp, cur, hv, _, hh, _, _, _, ht⟩
  · exact fun hne => absurd (List.length_eq_zero_iff.1 h0) hne
  · simp only [Value.slice.injEq] at hv
    obtain ⟨rfl, _, rfl⟩ := hv
    have hcur : cur.toList = lateCells l ++ cur.toList.drop (l.length * 2) := by rw [← ht, List.take_append_drop]
    exact latesAt_of (r := cur.toList.drop (l.length * 2)) (by unfold BlockIs; rw [hh, ← hcur])
end Go.Proofs.Ytngcldjkpcmidaa

namespace Go.Proofs.Ytngcldjkpcmidaa
open Go.RowKit

theorem row_setCell {w : World} {g base size n : Nat} {t t' : TypeId} {v : Value} {xs cs : List Value} (hb : BlockIs w g t' cs) (hr : w.ownsRow base t size v n xs) (ht : t' ≠ t) (j : Nat) (u : Value) : (w.setCell ⟨g, j, none⟩ u).ownsRow base t size v n xs :=
  row_ext hr (fun _ _ h => h.far (fun e => by subst e; exact ht (block_one hb h).1) u)
theorem row_setRow {w : World} {g base size n : Nat} {t t' : TypeId} {v : Value} {xs cs : List Value} (hb : BlockIs w g t' cs) (hr : w.ownsRow base t size v n xs) (ht : t' ≠ t) (A : Array Value) : (w.setRow g A).ownsRow base t size v n xs :=
  row_ext hr (fun _ _ h => block_setRow h (fun e => by subst e; exact ht (block_one hb h).1) A)
/-- early texts of the call's own -/
def OwnsL (w : World) (lo : Nat) (l : List LateD) (va : Option Addr) (vc : Nat) : Prop := w.ownsRow lo 61 2 (.slice va l.length vc) l.length (lateCells l)
theorem OwnsL.at {w : World} {lo : Nat} {l : List LateD} {va : Option Addr} {vc : Nat} (h : OwnsL w lo l va vc) : LatesAt w va l := lateR_at h
theorem OwnsL.on {w w' : World} {lo : Nat} {l : List LateD} {va : Option Addr} {vc : Nat} (h : OwnsL w lo l va vc) (hb : Below w.heap.size w w') : OwnsL w' lo l va vc := lateR_below h hb
theorem OwnsL.down {w : World} {lo lo' : Nat} {l : List LateD} {va : Option Addr} {vc : Nat} (h : OwnsL w lo l va vc) (hl : lo' ≤ lo) : OwnsL w lo' l va vc := row_down h hl
theorem OwnsL.setCell {w : World} {g lo : Nat} {t' : TypeId} {cs : List Value} {l : List LateD} {va : Option Addr} {vc : Nat} (h : OwnsL w lo l va vc) (hb : BlockIs w g t' cs) (ht : t' ≠ 61) (j : Nat) (u : Value) : OwnsL (w.setCell ⟨g, j, none⟩ u) lo l va vc := row_setCell hb h ht j u
theorem OwnsL.setRow {w : World} {g lo : Nat} {t' : TypeId} {cs : List Value} {l : List LateD} {va : Option Addr} {vc : Nat} (h : OwnsL w lo l va vc) (hb : BlockIs w g t' cs) (ht : t' ≠ 61) (A : Array Value) : OwnsL (w.setRow g A) lo l va vc := row_setRow hb h ht A
theorem OwnsL.own {w : World} {lo : Nat} {l : List LateD} {va : Option Addr} {vc : Nat} (h : OwnsL w lo l va vc) : OwnAt w 61 (lateCells l) l.length va lo w.heap.size ∧ l.length ≤ vc := by
  rcases h.2 with ⟨hv, h0⟩ | ⟨g, cp, cur, hv, hb, hh, hle, _, _, ht⟩
  · exact ⟨Or.inl h0, by omega⟩
  · simp only [Value.slice.injEq] at hv
    obtain ⟨rfl, _, rfl⟩ := hv
    have hcur : cur.toList = lateCells l ++ cur.toList.drop (l.length * 2) := by rw [← ht, List.take_append_drop]
    have hk : BlockIs w g 61 (lateCells l ++ cur.toList.drop (l.length * 2)) := by unfold BlockIs; rw [hh, ← hcur]
    exact ⟨Or.inr ⟨g, _, rfl, hb, hk.lt, hk⟩, hle⟩
theorem owns_made {w : World} {lo g : Nat} {l : List LateD} (hg : lo ≤ g) (hl : l.length ≤ 1048576) (h : BlockIs w g 61 (lateCells l)) : OwnsL w lo l (some ⟨g, 0, none⟩) l.length := by
  unfold BlockIs at h
  refine ⟨lateCells_length l, Or.inr ⟨g, l.length, (lateCells l).toArray, rfl, hg, h, Nat.le_refl _, by unfold maxLen; omega, by simp [lateCells_length], ?_⟩⟩
  rw [List.take_of_length_le (by rw [lateCells_length]; exact Nat.le_refl _)]
/-- what a copy is -/
def CopyDid (w : World) (d : StrD) (e : Ending) (w' : World) : Prop := ∃ va vc, e = .returned (.agg #[.int .i64 d.st, .int .i64 d.iss, .int .i64 d.una, .int .i64 d.rcv, .string d.wait, .int .i64 d.sent, .int .i64 d.fin, .bool d.pf, .string d.inn, .slice va d.late.length vc, .bool d.owe, .int .i64 d.due, .int .i64 d.times]) ∧ OwnsL w' w.heap.size d.late va vc ∧ Below w.heap.size w w'
/-- a stream, and whether -/
def StrDid2 (w : World) (d : StrD) (ok : Bool) (e : Ending) (w' : World) : Prop := ∃ va vc, e = .returned (.tuple #[.agg #[.int .i64 d.st, .int .i64 d.iss, .int .i64 d.una, .int .i64 d.rcv, .string d.wait, .int .i64 d.sent, .int .i64 d.fin, .bool d.pf, .string d.inn, .slice va d.late.length vc, .bool d.owe, .int .i64 d.due, .int .i64 d.times], .bool ok]) ∧ d.late.length ≤ vc ∧ OwnAt w' 61 (lateCells d.late) d.late.length va w.heap.size w'.heap.size ∧ Below w.heap.size w w'
/-- a stream alone -/
def StrDid1 (w : World) (d : StrD) (e : Ending) (w' : World) : Prop := ∃ va vc, e = .returned (.agg #[.int .i64 d.st, .int .i64 d.iss, .int .i64 d.una, .int .i64 d.rcv, .string d.wait, .int .i64 d.sent, .int .i64 d.fin, .bool d.pf, .string d.inn, .slice va d.late.length vc, .bool d.owe, .int .i64 d.due, .int .i64 d.times]) ∧ d.late.length ≤ vc ∧ OwnAt w' 61 (lateCells d.late) d.late.length va w.heap.size w'.heap.size ∧ Below w.heap.size w w'
end Go.Proofs.Ytngcldjkpcmidaa

namespace Go.Proofs.Ytngcldjkpcmidaa
open Go.RowKit

theorem toSeg_info : (Try.prog.info? 34).map (fun i => (i.zero, i.size, i.bytes)) = some (some (.agg #[.int .i64 0, .int .i64 0, .int .i64 0, .string ByteArray.empty]), 4, 40) := by kernel_rfl
/-- an element's cells are written -/
theorem put_seg {w w2 : World} {g k : Nat} {t : TypeId} {l : List SegD} {r : List Value} (hk : k < l.length) (h : BlockIs w g t (segCells (l.take k) ++ r)) (hr : r.length = (l.length - k) * 4) {B : Nat} (hb : Below B w w2) (hg : g < B) :
    (∃ o0 o1 o2 o3, w2.cell? ⟨g, k * 4, none⟩ = some o0 ∧ w2.cell? ⟨g, k * 4 + 1, none⟩ = some o1 ∧ w2.cell? ⟨g, k * 4 + 2, none⟩ = some o2 ∧ w2.cell? ⟨g, k * 4 + 3, none⟩ = some o3) ∧ (∀ j, w2.frozen? ⟨g, j, none⟩ = false) ∧
    ∃ r', r'.length = (l.length - (k + 1)) * 4 ∧ BlockIs ((((w2.setCell ⟨g, k * 4, none⟩ (.int .i64 l[k].num)).setCell ⟨g, k * 4 + 1, none⟩ (.int .i64 l[k].ack)).setCell ⟨g, k * 4 + 2, none⟩ (.int .i64 l[k].flags)).setCell ⟨g, k * 4 + 3, none⟩ (.string l[k].body)) g t (segCells (l.take (k + 1)) ++ r') := by
  have h2 := h.on hb hg
  have hlen : (segCells (l.take k)).length = k * 4 := by rw [segCells_length, List.length_take]; omega
  match r, hr with
  | z0 :: z1 :: z2 :: z3 :: r', hr =>
    have hs := (((h2.set (k * 4) (.int .i64 l[k].num)).set (k * 4 + 1) (.int .i64 l[k].ack)).set (k * 4 + 2) (.int .i64 l[k].flags)).set (k * 4 + 3) (.string l[k].body)
    have e3 := seg_sets (segCells (l.take k)) (.int .i64 l[k].num) (.int .i64 l[k].ack) (.int .i64 l[k].flags) (.string l[k].body) z0 z1 z2 z3 r'
    rw [hlen] at e3
    rw [e3] at hs
    refine ⟨⟨z0, z1, z2, z3, h2.cell ?_, h2.cell ?_, h2.cell ?_, h2.cell ?_⟩, fun j => h2.thaw j, r', ?_, ?_⟩
    · rw [List.getElem?_append_right (by omega), hlen, Nat.sub_self]; rfl
    · rw [List.getElem?_append_right (by omega), hlen, show k * 4 + 1 - k * 4 = 1 by omega]; rfl
    · rw [List.getElem?_append_right (by omega), hlen, show k * 4 + 2 - k * 4 = 2 by omega]; rfl
    · rw [List.getElem?_append_right (by omega), hlen, show k * 4 + 3 - k * 4 = 3 by omega]; rfl
    · simp at hr; omega
    · rw [segCells_take l k hk, List.append_assoc]
      exact hs
  | [], hr => simp at hr; omega
  | [_], hr => simp at hr; omega
  | [_, _], hr => simp at hr; omega
  | [_, _, _], hr => simp at hr; omega

theorem made_seg (n : Nat) : (madeCells (Value.agg #[.int .i64 0, .int .i64 0, .int .i64 0, .string ByteArray.empty]).cells (n * 4)).toList.length = n * 4 := by
  simp [madeCells]
end Go.Proofs.Ytngcldjkpcmidaa

namespace Go.Proofs.Ytngcldjkpcmidaa
open Go.RowKit

theorem segR_one (a : SegD) : ∀ u ∈ segEnc a, u.oneCell' = true := by
  intro u hu
  simp only [segEnc, List.mem_cons, List.not_mem_nil, or_false] at hu
  rcases hu with rfl | rfl | rfl | rfl <;> rfl
theorem segR_all (l : List SegD) : ∀ u ∈ segCells l, u.oneCell' = true := by
  intro u hu
  obtain ⟨a, _, h⟩ := List.mem_flatMap.1 hu
  exact segR_one a u h
theorem segR_snoc (l : List SegD) (a : SegD) : segCells (l ++ [a]) = segCells l ++ segEnc a := by simp [segCells]
theorem segR_append (l m : List SegD) : segCells (l ++ m) = segCells l ++ segCells m := by simp [segCells]
/-- the cells of a list that lies at an address -/
theorem segs_cells {w : World} {b off : Nat} {l : List SegD} (h : ∀ j (hj : j < l.length), w.cell? ⟨b, off + j * 4, none⟩ = some (.int .i64 l[j].num) ∧ w.cell? ⟨b, off + j * 4 + 1, none⟩ = some (.int .i64 l[j].ack) ∧ w.cell? ⟨b, off + j * 4 + 2, none⟩ = some (.int .i64 l[j].flags) ∧ w.cell? ⟨b, off + j * 4 + 3, none⟩ = some (.string l[j].body)) :
    ∀ j u, (segCells l)[j]? = some u → w.cell? ((⟨b, off, none⟩ : Addr).add j) = some u := by
  intro j u hu
  have hlt : j < (segCells l).length := (List.getElem?_eq_some_iff.1 hu).1
  rw [segCells_length] at hlt
  have hj : j / 4 < l.length := by omega
  have hr := row_at segEnc 4 (fun _ => rfl) l [] (j / 4) (j % 4) hj (Nat.mod_lt _ (by omega))
  rw [List.append_nil, show j / 4 * 4 + j % 4 = j by omega] at hr
  have hu' : (segEnc l[j / 4])[j % 4]? = some u := by rw [← hr]; exact hu
  have hadd : (⟨b, off, none⟩ : Addr).add j = ⟨b, off + j, none⟩ := Addr.add_lit _ _ _
  rw [hadd]
  obtain ⟨h0, h1, h2, h3⟩ := h (j / 4) hj
  have h3 : j % 4 = 0 ∨ j % 4 = 1 ∨ j % 4 = 2 ∨ j % 4 = 3 := by omega
  rcases h3 with e | e | e | e
  · rw [e] at hu'
    rw [show off + j = off + j / 4 * 4 by omega, h0]
    exact hu'
  · rw [e] at hu'
    rw [show off + j = off + j / 4 * 4 + 1 by omega, h1]
    exact hu'
  · rw [e] at hu'
    rw [show off + j = off + j / 4 * 4 + 2 by omega, h2]
    exact hu'
  · rw [e] at hu'
    rw [show off + j = off + j / 4 * 4 + 3 by omega, h3]
    exact hu'
theorem segR_below {w w2 : World} {base n : Nat} {v : Value} {xs : List Value} (h : w.ownsRow base 34 4 v n xs) (hb : Below w.heap.size w w2) : w2.ownsRow base 34 4 v n xs := by
  refine h.kept (grown_of_below hb none) ?_
  cases v.ownBlock with
  | none => exact Or.inl rfl
  | some g => exact Or.inr (by simp)
theorem segR_block {w : World} {base n j : Nat} {v : Value} {xs : List Value} (h : w.ownsRow base 34 4 v n xs) (hv : v.ownBlock = some j) : base ≤ j ∧ ∃ cs, BlockIs w j 34 cs := by
  rcases h.2 with ⟨rfl, _⟩ | ⟨g, cap, cur, rfl, hb, hh, _⟩
  · simp [Value.ownBlock] at hv
  · have : g = j := by simpa [Value.ownBlock] using hv
    subst this
    exact ⟨hb, cur.toList, by unfold BlockIs; rw [hh]⟩
/-- a block of another type stands where a row grows -/
theorem segR_other {w w1 : World} {base n g : Nat} {t : TypeId} {v : Value} {xs cs : List Value} (h : BlockIs w g t cs) (hr : w.ownsRow base 34 4 v n xs) (hg : w.grownBy w1 v.ownBlock) (ht : t ≠ 34) : BlockIs w1 g t cs := by
  have hlt := h.lt
  unfold BlockIs at h ⊢
  rw [hg.block g hlt ?_]
  · exact h
  · intro e
    obtain ⟨_, cs2, h2⟩ := segR_block hr e.symm
    unfold BlockIs at h2
    rw [h] at h2
    simp only [Option.some.injEq, Obj.cells.injEq] at h2
    exact ht h2.2.1
theorem segR_down {w w1 w2 : World} {m base n : Nat} {v : Value} {xs : List Value} (h : Below m w w1) (hr : w1.ownsRow base 34 4 v n xs) (hg : w1.grownBy w2 v.ownBlock) (hb : m ≤ base) (hm : m ≤ w1.heap.size) : Below m w w2 :=
  h.grown hg hm (fun k e => by have := (segR_block hr e).1; omega)
theorem segR_nil (w : World) (m : Nat) (hm : m ≤ w.heap.size) : World.ownsRow (w.alloc (.cells #[] 34)) m 34 4 (.slice (some ⟨w.heap.size, 0, none⟩) 0 0) 0 (segCells []) :=
  row_down (World.ownsRow_made w (size := 4) (e := 34) #[] 0 (Nat.le_refl _) (Nat.zero_le _) rfl) hm
/-- one that is laid by itself -/
theorem segR_new (w : World) (a : SegD) : ∀ j u, (segEnc a)[j]? = some u → (w.alloc (.cells #[.int .i64 a.num, .int .i64 a.ack, .int .i64 a.flags, .string a.body] 34)).cell? ((⟨w.heap.size, 0, none⟩ : Addr).add j) = some u := by
  intro j u hu
  rw [Addr.add_lit, Nat.zero_add]
  exact (show BlockIs _ _ 34 (segEnc a) from heap_alloc_new w _).cell hu
/-- a list behind a row of the call's own -/
theorem append_segs {W : World} {v : Value} {base c : Nat} {L M : List SegD} {ao : Option Addr} (hn : L.length + M.length ≤ 2097153) (hbase : base ≤ W.heap.size) (hr : W.ownsRow base 34 4 v L.length (segCells L)) (hM : SegsAt W ao M) :
    ∃ v' W', (Builtin.append_ #[52, 52] 52 #[v, .slice ao M.length c]).run Try.prog W = .ok v' W' ∧ W'.ownsRow base 34 4 v' (L ++ M).length (segCells (L ++ M)) ∧ W.grownBy W' v.ownBlock := by
  obtain ⟨i0, hi, hz0, hz1, hz2⟩ := info_parts toSeg_info
  rw [List.length_append, segR_append]
  cases ao with
  | none =>
    have hM0 : M = [] := by
      by_cases hne : M = []
      · exact hne
      · obtain ⟨b, off, e, _⟩ := hM hne
        cases e
    subst hM0
    refine ⟨v, W, ?_, by simpa [segCells] using hr, World.grownBy.refl _ _⟩
    obtain ⟨va, vc, rfl⟩ := row_shape hr
    have hlc : L.length ≤ vc := by
      rcases hr.2 with ⟨hq, hz⟩ | ⟨_, cp, _, hq, _, _, hle, _⟩
      · omega
      · simp only [Value.slice.injEq] at hq
        omega
    cases va <;> simp [Builtin.append_, run_underlying Try.underlying52, sizeOf, typeInfo, hi, Builtin.lenOf, Builtin.firstCells, storeCells, hlc]
  | some ad =>
    have hnews : ∀ j u, (segCells M)[j]? = some u → W.cell? (ad.add j) = some u := by
      by_cases hne : M = []
      · subst hne
        intro j u hu
        simp [segCells] at hu
      · obtain ⟨b, off, e, hc⟩ := hM hne
        cases e
        exact segs_cells hc
    obtain ⟨v', W', h1, h2, h3, _⟩ := run_append_own (P := Try.prog) W base 52 52 34 i0 _ 4 40 Try.underlying52 hi hz0 hz1 hz2 rfl (by decide) v L.length _ hr ad M.length c (segCells M) (segCells_length M) hnews (segR_all M) (by unfold maxLen; omega) (by omega) hbase
    exact ⟨v', W', h1, h2, h3⟩
theorem wpList_append_segs {w : World} {ops : Array Oper} {rest : List Oper} {o : Oper} {a : Act} {Q : Exit → Act → World → Prop} (hgd : o.guard = none) (s x : Operand)
    (ho : o.op = .call { callee := .builtin .append, args := #[s, x], argTypes := #[52, 52] }) (hty : o.type = 52) {v : Value} {base c m N : Nat} {L M : List SegD} {ao : Option Addr} (hs : a.eval s = v) (hx : a.eval x = .slice ao m c)
    (hm : M.length = m) (hN : (L ++ M).length = N) (hn : N ≤ 2097153) (hbase : base ≤ w.heap.size) (hr : w.ownsRow base 34 4 v L.length (segCells L)) (hM : SegsAt w ao M)
    (h : ∀ va vc w1, w1.ownsRow base 34 4 (.slice va N vc) N (segCells (L ++ M)) → w.grownBy w1 v.ownBlock → wpList Try.prog ops Q rest (a.put o.dst (.slice va N vc)) w1) : wpList Try.prog ops Q (o :: rest) a w := by
  subst hm hN
  obtain ⟨v', W', hrun, h2, h3⟩ := append_segs (c := c) (by rw [← List.length_append]; exact hn) hbase hr hM
  obtain ⟨va, vc, rfl⟩ := row_shape h2
  refine wpList_plain hgd fun K hK => ?_
  unfold Oper.wp
  simp [execOp, ho, hty, resolve, invoke, builtin, hs, hx, hrun, Result.andThen]
  have h4 := h va vc W' h2 h3
  rw [List.length_append] at h4
  exact hK _ _ h4
/-- they lie there -/
theorem segR_at {w : World} {base : Nat} {va : Option Addr} {vc : Nat} {l : List SegD} (h : w.ownsRow base 34 4 (.slice va l.length vc) l.length (segCells l)) : SegsAt w va l := by
  rcases h.2 with ⟨hv, h0⟩ | ⟨g, cp, cur, hv, _, hh, _, _, _, ht⟩
  · exact fun hne => absurd (List.length_eq_zero_iff.1 h0) hne
  · simp only [Value.slice.injEq] at hv
    obtain ⟨rfl, _, rfl⟩ := hv
    have hcur : cur.toList = segCells l ++ cur.toList.drop (l.length * 4) := by rw [← ht, List.take_append_drop]
    exact segsAt_of (r := cur.toList.drop (l.length * 4)) (by unfold BlockIs; rw [hh, ← hcur])
end Go.Proofs.Ytngcldjkpcmidaa

namespace Go.Proofs.Ytngcldjkpcmidaa
open Go.RowKit

/-- 2 to a number, at most 64 -/
def pow64 (n : Int) : Int := min (2 ^ n.toNat) 64
/-- how many numbers were sent -/
def flightD (d : StrD) : Int := if d.fin = 2 then d.sent + 1 else d.sent
/-- one more than the times, at most 12 -/
def moreT (t : Int) : Int := min (t + 1) 12
def pauseD (now : Int) (d : StrD) : StrD := { d with times := moreT d.times, due := now + pow64 (moreT d.times) }
/-- sent again -/
def againB (now : Int) (d : StrD) : Bool := decide (d.due ≤ now) && decide (0 < flightD d) && decide (d.times < 12)
def backD (d : StrD) : StrD := { d with sent := 0, fin := if d.fin = 2 then 1 else d.fin }
def roomD (d : StrD) : Nat := min d.wait.size 24
/-- what waits, piece by piece -/
def segsW (una rcv : Int) (wait : ByteArray) (room : Nat) : Nat → Nat → List SegD
  | 0, _ => []
  | f + 1, s => if s < room then ⟨addNum una s, rcv, 2, wait.extract s (min (s + 8) room)⟩ :: segsW una rcv wait room f (min (s + 8) room) else []
def waitSegs (d : StrD) : List SegD := segsW d.una d.rcv d.wait (roomD d) 25 d.sent.toNat
def waitD (d : StrD) : StrD := { d with sent := roomD d }
def finB (d : StrD) : Bool := decide (d.fin = 1) && decide (d.sent = d.wait.size)
def finSegs (d : StrD) : List SegD := if finB d = true then [⟨addNum d.una d.sent, d.rcv, 6, ByteArray.empty⟩] else []
def finD (d : StrD) : StrD := if finB d = true then { d with fin := 2 } else d
def oweSeg (d : StrD) : SegD := ⟨addNum d.una (flightD d), d.rcv, 2, ByteArray.empty⟩
/-- behind what waits and the end -/
def sentD (now : Int) (d : StrD) : StrD := finD (waitD (if againB now d = true then backD d else d))
def sentSegs (now : Int) (d : StrD) : List SegD := waitSegs (if againB now d = true then backD d else d) ++ finSegs (waitD (if againB now d = true then backD d else d))
def openD (now : Int) (d : StrD) : StrD := if (sentSegs now d).length = 0 then { sentD now d with owe := false } else { pauseD now (sentD now d) with owe := false }
def openSegs (now : Int) (d : StrD) : List SegD := if (sentSegs now d).length = 0 then (if d.owe = true then [oweSeg (sentD now d)] else []) else sentSegs now d
def tryB (now : Int) (d : StrD) : Bool := decide (d.due ≤ now) && decide (d.times < 12)
def greetD (now : Int) (d : StrD) : StrD := if tryB now d = true then pauseD now d else d
def greetSegs (now : Int) (d : StrD) (s : SegD) : List SegD := if tryB now d = true then [s] else []
/-- right, and a time -/
def mayPush (d : StrD) (now : Int) : Bool := strOk d && within now 0 999999900
def pushD (now : Int) (d : StrD) : StrD :=
  if mayPush d now = true then (if d.st = 4 then openD now d else if d.st = 2 ∨ d.st = 3 then greetD now d else d) else d
def pushSegs (now : Int) (d : StrD) : List SegD :=
  if mayPush d now = true then (if d.st = 4 then openSegs now d else if d.st = 2 then greetSegs now d ⟨d.iss, 0, 1, ByteArray.empty⟩ else if d.st = 3 then greetSegs now d ⟨d.iss, d.rcv, 3, ByteArray.empty⟩ else []) else []
theorem pow64_bd (n : Int) : 1 ≤ pow64 n ∧ pow64 n ≤ 64 := by
  unfold pow64
  have : (1 : Int) ≤ 2 ^ n.toNat := by
    have h : (1 : Nat) ≤ 2 ^ n.toNat := Nat.one_le_two_pow
    exact_mod_cast h
  omega
theorem moreT_bd {t : Int} (h : 0 ≤ t) : 1 ≤ moreT t ∧ moreT t ≤ 12 := by unfold moreT; omega
theorem segsW_done (una rcv : Int) (wait : ByteArray) (room f s : Nat) (h : room ≤ s) : segsW una rcv wait room f s = [] := by
  cases f with
  | zero => rfl
  | succ f => rw [segsW, if_neg (by omega)]
theorem segsW_step (una rcv : Int) (wait : ByteArray) (room f s : Nat) (h : s < room) : segsW una rcv wait room (f + 1) s = ⟨addNum una s, rcv, 2, wait.extract s (min (s + 8) room)⟩ :: segsW una rcv wait room f (min (s + 8) room) := by
  rw [segsW, if_pos h]
theorem segsW_length (una rcv : Int) (wait : ByteArray) (room f s : Nat) : (segsW una rcv wait room f s).length ≤ f := by
  induction f generalizing s with
  | zero => simp [segsW]
  | succ f ih =>
    rw [segsW]
    split
    · have := ih (min (s + 8) room)
      simp only [List.length_cons]
      omega
    · simp
theorem waitSegs_length (d : StrD) : (waitSegs d).length ≤ 25 := segsW_length _ _ _ _ _ _
theorem finSegs_length (d : StrD) : (finSegs d).length ≤ 1 := by unfold finSegs; split <;> simp
theorem pushSegs_length (now : Int) (d : StrD) : (pushSegs now d).length ≤ 26 := by
  have h1 := waitSegs_length (if againB now d = true then backD d else d)
  have h2 := finSegs_length (waitD (if againB now d = true then backD d else d))
  unfold pushSegs openSegs greetSegs
  split
  · split
    · split
      · split <;> simp
      · unfold sentSegs; rw [List.length_append]; omega
    · split
      · split <;> simp
      · split
        · split <;> simp
        · simp
  · simp
end Go.Proofs.Ytngcldjkpcmidaa

namespace Go.Proofs.Ytngcldjkpcmidaa
open Go.RowKit

structure DgramD where
  src : Int
  dst : Int
  ident : Int
  place : Int
  more : Bool
  body : ByteArray
/-- numbers that are numbers, texts that are texts -/
def DgramD.Fits (e : DgramD) : Prop := (-9223372036854775808 ≤ e.src ∧ e.src ≤ 9223372036854775807) ∧ (-9223372036854775808 ≤ e.dst ∧ e.dst ≤ 9223372036854775807) ∧ (-9223372036854775808 ≤ e.ident ∧ e.ident ≤ 9223372036854775807) ∧ (-9223372036854775808 ≤ e.place ∧ e.place ≤ 9223372036854775807) ∧ True ∧ e.body.size ≤ maxLen
def dgramEnc (e : DgramD) : List Value := [.int .i64 e.src, .int .i64 e.dst, .int .i64 e.ident, .int .i64 e.place, .bool e.more, .string e.body]
/-- the cells of a row -/
def dgramCells (l : List DgramD) : List Value := l.flatMap dgramEnc
theorem dgramCells_length (l : List DgramD) : (dgramCells l).length = l.length * 6 := row_length dgramEnc 6 (fun _ => rfl) l
theorem dgramCells_take (l : List DgramD) (k : Nat) (h : k < l.length) : dgramCells (l.take (k + 1)) = dgramCells (l.take k) ++ dgramEnc l[k] := by
  rw [List.take_succ_eq_append_getElem h, dgramCells, dgramCells, List.flatMap_append]
  simp
/-- how many letters -/
def dgramOne (e : DgramD) : Int := (e.body.size : Int)
theorem dgramOne_nonneg (e : DgramD) : 0 ≤ dgramOne e := by unfold dgramOne; omega
def dgramBulk : List DgramD → Int
  | [] => 0
  | f :: l => dgramOne f + dgramBulk l
theorem dgramBulk_nonneg (l : List DgramD) : 0 ≤ dgramBulk l := by
  induction l with
  | nil => exact Int.le_refl 0
  | cons f l ih => have := dgramOne_nonneg f; simp only [dgramBulk]; omega
theorem dgramBulk_take (l : List DgramD) (k : Nat) (h : k < l.length) : dgramBulk (l.take (k + 1)) = dgramBulk (l.take k) + dgramOne l[k] := by
  induction l generalizing k with
  | nil => simp at h
  | cons f l ih =>
    cases k with
    | zero => simp [dgramBulk]
    | succ k =>
      have := ih k (by simpa using h)
      simp only [List.take_succ_cons, dgramBulk, List.getElem_cons_succ] at this ⊢
      omega
theorem dgramBulk_le (l : List DgramD) (k : Nat) : dgramBulk (l.take k) ≤ dgramBulk l := by
  induction l generalizing k with
  | nil => simp [dgramBulk]
  | cons f l ih =>
    cases k with
    | zero => have := dgramBulk_nonneg (f :: l); simpa [dgramBulk] using this
    | succ k => have := ih k; simp only [List.take_succ_cons, dgramBulk]; omega
theorem dgram_le_bulk {l : List DgramD} {f : DgramD} (h : f ∈ l) : dgramOne f ≤ dgramBulk l := by
  induction l with
  | nil => cases h
  | cons g l ih =>
    simp only [dgramBulk]
    have := dgramBulk_nonneg l
    have := dgramOne_nonneg g
    rcases List.mem_cons.1 h with e | e
    · subst e; omega
    · have := ih e; omega
/-- few and short -/
def DgramsSmall (l : List DgramD) : Prop := l.length ≤ 1048576 ∧ ∀ f ∈ l, dgramOne f ≤ 1048576
theorem dgramsSmall {l : List DgramD} (h : 0 ≤ (1048576 : Int) - l.length - dgramBulk l) : DgramsSmall l := by
  have := dgramBulk_nonneg l
  exact ⟨by omega, fun f hf => by have := dgram_le_bulk hf; omega⟩
/-- they lie at an address, one behind the other -/
def DgramsAt (w : World) (ao : Option Addr) (l : List DgramD) : Prop :=
  l ≠ [] → ∃ b off, ao = some ⟨b, off, none⟩ ∧ ∀ j (hj : j < l.length), w.cell? ⟨b, off + j * 6, none⟩ = some (.int .i64 l[j].src) ∧ w.cell? ⟨b, off + j * 6 + 1, none⟩ = some (.int .i64 l[j].dst) ∧ w.cell? ⟨b, off + j * 6 + 2, none⟩ = some (.int .i64 l[j].ident) ∧ w.cell? ⟨b, off + j * 6 + 3, none⟩ = some (.int .i64 l[j].place) ∧ w.cell? ⟨b, off + j * 6 + 4, none⟩ = some (.bool l[j].more) ∧ w.cell? ⟨b, off + j * 6 + 5, none⟩ = some (.string l[j].body)
theorem dgramsAt_of {w : World} {g : Nat} {t : TypeId} {l : List DgramD} {r : List Value} (h : BlockIs w g t (dgramCells l ++ r)) : DgramsAt w (some ⟨g, 0, none⟩) l := by
  intro _
  refine ⟨g, 0, rfl, fun j hj => ?_⟩
  rw [Nat.zero_add]
  exact ⟨h.cell (row_at dgramEnc 6 (fun _ => rfl) l r j 0 hj (by omega)), h.cell (row_at dgramEnc 6 (fun _ => rfl) l r j 1 hj (by omega)), h.cell (row_at dgramEnc 6 (fun _ => rfl) l r j 2 hj (by omega)), h.cell (row_at dgramEnc 6 (fun _ => rfl) l r j 3 hj (by omega)), h.cell (row_at dgramEnc 6 (fun _ => rfl) l r j 4 hj (by omega)), h.cell (row_at dgramEnc 6 (fun _ => rfl) l r j 5 hj (by omega))⟩
def DgramsFit (l : List DgramD) : Prop := ∀ j (hj : j < l.length), l[j].Fits
theorem DgramsAt.on {w w' : World} {ao : Option Addr} {l : List DgramD} (h : DgramsAt w ao l) (hb : Below w.heap.size w w') : DgramsAt w' ao l := by
  intro h0
  obtain ⟨b, off, e1, e2⟩ := h h0
  refine ⟨b, off, e1, fun j hj => ?_⟩
  obtain ⟨x0, x1, x2, x3, x4, x5⟩ := e2 j hj
  exact ⟨(hb.cell (p := ⟨b, off + j * 6, none⟩) (World.block_lt_of_cell? w _ x0)).trans x0, (hb.cell (p := ⟨b, off + j * 6 + 1, none⟩) (World.block_lt_of_cell? w _ x1)).trans x1, (hb.cell (p := ⟨b, off + j * 6 + 2, none⟩) (World.block_lt_of_cell? w _ x2)).trans x2, (hb.cell (p := ⟨b, off + j * 6 + 3, none⟩) (World.block_lt_of_cell? w _ x3)).trans x3, (hb.cell (p := ⟨b, off + j * 6 + 4, none⟩) (World.block_lt_of_cell? w _ x4)).trans x4, (hb.cell (p := ⟨b, off + j * 6 + 5, none⟩) (World.block_lt_of_cell? w _ x5)).trans x5⟩
/-- cells of a list, written -/
theorem dgram_sets (p : List Value) (a0 a1 a2 a3 a4 a5 o0 o1 o2 o3 o4 o5 : Value) (r : List Value) : ((((((p ++ o0 :: o1 :: o2 :: o3 :: o4 :: o5 :: r).set (p.length) a0).set (p.length + 1) a1).set (p.length + 2) a2).set (p.length + 3) a3).set (p.length + 4) a4).set (p.length + 5) a5 = p ++ a0 :: a1 :: a2 :: a3 :: a4 :: a5 :: r := by
  rw [List.set_append_right _ _ (Nat.le_refl _), List.set_append_right _ _ (by omega), List.set_append_right _ _ (by omega), List.set_append_right _ _ (by omega), List.set_append_right _ _ (by omega), List.set_append_right _ _ (by omega)]
  simp
theorem dgram_set_other {cs : List Value} {i j : Nat} {v u : Value} (h : cs[j]? = some u) (hij : i ≠ j) : (cs.set i v)[j]? = some u := by
  rw [List.getElem?_set_ne hij]; exact h
end Go.Proofs.Ytngcldjkpcmidaa

namespace Go.Proofs.Ytngcldjkpcmidaa
open Go.RowKit

/-- one more number; what goes beyond comes in at the low end -/
def ones1 (s n : Nat) : Nat := if 65535 < s + n then s + n - 65535 else s + n
def onesF : Nat → List UInt8 → Nat
  | s, [] => s
  | s, [a] => ones1 s (256 * a.toNat)
  | s, a :: b :: r => onesF (ones1 s (256 * a.toNat + b.toNat)) r
def sumOnes (l : List UInt8) : Nat := 65535 - onesF 0 l
theorem ones1_le {s n : Nat} (hs : s ≤ 65535) (hn : n ≤ 65535) : ones1 s n ≤ 65535 := by
  unfold ones1
  split <;> omega
theorem pair_le (a b : UInt8) : 256 * a.toNat + b.toNat ≤ 65535 := by
  have := a.toNat_lt
  have := b.toNat_lt
  omega
theorem onesF_le : ∀ (l : List UInt8) (s : Nat), s ≤ 65535 → onesF s l ≤ 65535
  | [], _, h => h
  | [a], s, h => ones1_le h (by have := a.toNat_lt; omega)
  | a :: b :: r, s, h => onesF_le r _ (ones1_le h (pair_le a b))
theorem sumOnes_le (l : List UInt8) : sumOnes l ≤ 65535 := by unfold sumOnes; omega
/-- the sum goes on by pairs -/
theorem onesF_pair (l : List UInt8) (k s : Nat) (h : k + 1 < l.length) : onesF s (l.drop k) = onesF (ones1 s (256 * (l[k]'(by omega)).toNat + l[k + 1].toNat)) (l.drop (k + 2)) := by
  rw [List.drop_eq_getElem_cons (show k < l.length by omega), List.drop_eq_getElem_cons h]
  rfl
theorem onesF_last (l : List UInt8) (k s : Nat) (h : k + 1 = l.length) : onesF s (l.drop k) = ones1 s (256 * (l[k]'(by omega)).toNat) := by
  rw [List.drop_eq_getElem_cons (show k < l.length by omega), List.drop_eq_nil_of_le (by omega)]
  rfl
theorem onesF_append_even : ∀ (l r : List UInt8) (s : Nat), l.length % 2 = 0 → onesF s (l ++ r) = onesF (onesF s l) r
  | [], r, s, _ => rfl
  | [a], r, s, h => by simp at h
  | a :: b :: l, r, s, h => by
    show onesF _ (l ++ r) = _
    exact onesF_append_even l r _ (by simp at h; omega)
/-- a sum with the sum itself put to it is nothing -/
theorem sumOnes_with {l : List UInt8} (h : l.length % 2 = 0) : sumOnes (l ++ [UInt8.ofNat (sumOnes l / 256), UInt8.ofNat (sumOnes l % 256)]) = 0 := by
  have hle := onesF_le l 0 (by omega)
  unfold sumOnes
  rw [onesF_append_even l _ 0 h]
  obtain ⟨S, hS⟩ : ∃ S, onesF 0 l = S := ⟨_, rfl⟩
  rw [hS] at hle ⊢
  have e : onesF S [UInt8.ofNat ((65535 - S) / 256), UInt8.ofNat ((65535 - S) % 256)] = ones1 S (65535 - S) := by
    show ones1 S (256 * (UInt8.ofNat ((65535 - S) / 256)).toNat + (UInt8.ofNat ((65535 - S) % 256)).toNat) = _
    rw [UInt8.toNat_ofNat', UInt8.toNat_ofNat']
    congr 1
    omega
  rw [e]
  unfold ones1
  split <;> omega
end Go.Proofs.Ytngcldjkpcmidaa

namespace Go.Proofs.Ytngcldjkpcmidaa
open Go.RowKit

def dgramOk (d : DgramD) : Bool := within d.src 1 99 && (within d.dst 1 99 && (within d.ident 0 65535 && (within d.place 0 160 && (decide (d.place % 8 = 0) && (within (d.body.size : Int) 1 (160 - d.place) && (!d.more || decide (d.body.size % 8 = 0)))))))
theorem dgramOk_bd {d : DgramD} (h : dgramOk d = true) : (1 ≤ d.src ∧ d.src ≤ 99) ∧ (1 ≤ d.dst ∧ d.dst ≤ 99) ∧ (0 ≤ d.ident ∧ d.ident ≤ 65535) ∧ (0 ≤ d.place ∧ d.place ≤ 160) ∧ d.place % 8 = 0 ∧ (1 ≤ (d.body.size : Int) ∧ (d.body.size : Int) ≤ 160 - d.place) ∧ (d.more = true → d.body.size % 8 = 0) := by
  simp only [dgramOk, Bool.and_eq_true, within_iff, decide_eq_true_eq, Bool.or_eq_true, Bool.not_eq_true'] at h
  obtain ⟨h1, h2, h3, h4, h5, h6, h7⟩ := h
  refine ⟨h1, h2, h3, h4, h5, h6, fun hm => ?_⟩
  rcases h7 with h7 | h7
  · rw [hm] at h7; cases h7
  · exact h7
/-- a number in two bytes, the higher one first -/
def twoB (n : Nat) : List UInt8 := [UInt8.ofNat (n / 256), UInt8.ofNat (n % 256)]
/-- the six bytes of the head -/
def dHead (d : DgramD) : List UInt8 := [UInt8.ofNat d.src.toNat, UInt8.ofNat d.dst.toNat] ++ twoB d.ident.toNat ++ [UInt8.ofNat (d.place.toNat / 8), UInt8.ofNat (if d.more then 1 else 0)]
def dBytes (d : DgramD) : List UInt8 := dHead d ++ twoB (sumOnes (dHead d)) ++ d.body.data.toList
def dText (d : DgramD) : ByteArray := ⟨(dHead d).toArray⟩ ++ ⟨(twoB (sumOnes (dHead d))).toArray⟩ ++ d.body
def dgramText (d : DgramD) : ByteArray × Bool := if dgramOk d then (dText d, true) else (ByteArray.empty, false)
def dgramZero : DgramD := ⟨0, 0, 0, 0, false, ByteArray.empty⟩
theorem dgramText_yes {d : DgramD} (h : dgramOk d = true) : dgramText d = (dText d, true) := by rw [dgramText, if_pos h]
theorem dgramText_no {d : DgramD} (h : dgramOk d = false) : dgramText d = (ByteArray.empty, false) := by rw [dgramText, if_neg (by simp [h])]
theorem dHead_length (d : DgramD) : (dHead d).length = 6 := rfl
theorem dText_list (d : DgramD) : (dText d).data.toList = dBytes d := by
  rw [dText, ByteArray.data_append, ByteArray.data_append, Array.toList_append, Array.toList_append, dBytes]
theorem dText_size (d : DgramD) : (dText d).size = d.body.size + 8 := by
  rw [dText, ByteArray.size_append, ByteArray.size_append]
  show 6 + 2 + d.body.size = _
  omega
/-- the datagram that nine bytes and more tell -/
def dgramOf (s : ByteArray) : DgramD := ⟨(s.data.toList.getD 0 0).toNat, (s.data.toList.getD 1 0).toNat, 256 * (s.data.toList.getD 2 0).toNat + (s.data.toList.getD 3 0).toNat, 8 * (s.data.toList.getD 4 0).toNat, decide ((s.data.toList.getD 5 0).toNat = 1), s.extract 8 s.size⟩
theorem tail8 (s : ByteArray) : (s.extract 8 s.size).data.toList = s.data.toList.drop 8 := by
  have h : (s.extract 8 s.size).data = s.data.extract 8 s.size := by rw [ByteArray.data_extract]
  rw [h, Array.toList_extract, List.extract_eq_take_drop]
  apply List.take_of_length_le
  rw [List.length_drop, Array.length_toList]
  exact Nat.le_refl _
/-- the text of a right datagram -/
def DgramIn (s : ByteArray) : Prop := 9 ≤ s.size ∧ (s.data.toList.getD 5 0).toNat ≤ 1 ∧ dgramOk (dgramOf s) = true ∧ dText (dgramOf s) = s
theorem dgramOf_text {d : DgramD} (h : dgramOk d = true) : dgramOf (dText d) = d := by
  obtain ⟨⟨a1, a2⟩, ⟨b1, b2⟩, ⟨c1, c2⟩, ⟨e1, e2⟩, f1, _, _⟩ := dgramOk_bd h
  obtain ⟨x, y, z, p, m, b⟩ := d
  dsimp only at a1 a2 b1 b2 c1 c2 e1 e2 f1
  have hb : (dText ⟨x, y, z, p, m, b⟩).extract 8 (dText ⟨x, y, z, p, m, b⟩).size = b := by
    apply ByteArray.ext
    apply Array.toList_inj.1
    rw [tail8, dText_list]
    rfl
  rw [dgramOf, hb, dText_list]
  simp only [dBytes, dHead, twoB, List.cons_append, List.nil_append, List.getD_cons_zero, List.getD_cons_succ, UInt8.toNat_ofNat']
  have h1 : ((x.toNat % 2 ^ 8 : Nat) : Int) = x := by omega
  have h2 : ((y.toNat % 2 ^ 8 : Nat) : Int) = y := by omega
  have h3 : (256 * ((z.toNat / 256 % 2 ^ 8 : Nat) : Int) + ((z.toNat % 256 % 2 ^ 8 : Nat) : Int)) = z := by omega
  have h4 : (8 * ((p.toNat / 8 % 2 ^ 8 : Nat) : Int)) = p := by omega
  rw [h1, h2, h3, h4]
  cases m <;> rfl
theorem dgramIn_text {d : DgramD} (h : dgramOk d = true) : DgramIn (dText d) := by
  have hz := dText_size d
  have hb := (dgramOk_bd h).2.2.2.2.2.1.1
  refine ⟨by omega, ?_, by rw [dgramOf_text h]; exact h, by rw [dgramOf_text h]⟩
  rw [dText_list]
  show (UInt8.ofNat (if d.more = true then 1 else 0)).toNat ≤ 1
  cases d.more <;> decide
theorem head_sum (d : DgramD) : sumOnes (dHead d ++ twoB (sumOnes (dHead d))) = 0 := sumOnes_with (by rw [dHead_length])
end Go.Proofs.Ytngcldjkpcmidaa

namespace Go.Proofs.Ytngcldjkpcmidaa
open Go.RowKit

def segOk (d : SegD) : Bool := within d.num 0 65535 && (within d.ack 0 65535 && (within d.flags 0 7 && (decide ((d.body.size : Int) ≤ 8) && ((!decide (d.flags % 2 = 1) || decide (d.body.size = 0)) && (decide (d.flags / 2 % 2 = 1) || decide (d.ack = 0))))))
theorem segOk_iff {d : SegD} : segOk d = true ↔ (0 ≤ d.num ∧ d.num ≤ 65535) ∧ (0 ≤ d.ack ∧ d.ack ≤ 65535) ∧ (0 ≤ d.flags ∧ d.flags ≤ 7) ∧ (d.body.size : Int) ≤ 8 ∧ (d.flags % 2 = 1 → d.body.size = 0) ∧ (¬ d.flags / 2 % 2 = 1 → d.ack = 0) := by
  simp only [segOk, Bool.and_eq_true, within_iff, decide_eq_true_eq, Bool.or_eq_true, Bool.not_eq_true', decide_eq_false_iff_not]
  constructor
  · rintro ⟨h1, h2, h3, h4, h5, h6⟩
    exact ⟨h1, h2, h3, h4, by omega, by omega⟩
  · rintro ⟨h1, h2, h3, h4, h5, h6⟩
    exact ⟨h1, h2, h3, h4, by omega, by omega⟩
theorem segOk_no {d : SegD} (h : ((0 ≤ d.num ∧ d.num ≤ 65535) ∧ (0 ≤ d.ack ∧ d.ack ≤ 65535) ∧ (0 ≤ d.flags ∧ d.flags ≤ 7) ∧ (d.body.size : Int) ≤ 8 ∧ (d.flags % 2 = 1 → d.body.size = 0) ∧ (¬ d.flags / 2 % 2 = 1 → d.ack = 0)) → False) : segOk d = false := by
  rw [← Bool.not_eq_true]
  exact fun hk => h (segOk_iff.1 hk)
/-- the five bytes of the head -/
def sHead (d : SegD) : List UInt8 := twoB d.num.toNat ++ twoB d.ack.toNat ++ [UInt8.ofNat d.flags.toNat]
def sText (d : SegD) : ByteArray := ⟨(twoB d.num.toNat).toArray⟩ ++ ⟨(twoB d.ack.toNat).toArray⟩ ++ ⟨#[UInt8.ofNat d.flags.toNat]⟩ ++ d.body
def segText (d : SegD) : ByteArray × Bool := if segOk d then (sText d, true) else (ByteArray.empty, false)
def segZero : SegD := ⟨0, 0, 0, ByteArray.empty⟩
theorem segText_yes {d : SegD} (h : segOk d = true) : segText d = (sText d, true) := by rw [segText, if_pos h]
theorem segText_no {d : SegD} (h : segOk d = false) : segText d = (ByteArray.empty, false) := by rw [segText, if_neg (by simp [h])]
theorem sText_list (d : SegD) : (sText d).data.toList = UInt8.ofNat (d.num.toNat / 256) :: UInt8.ofNat (d.num.toNat % 256) :: UInt8.ofNat (d.ack.toNat / 256) :: UInt8.ofNat (d.ack.toNat % 256) :: UInt8.ofNat d.flags.toNat :: d.body.data.toList := by
  rw [sText, ByteArray.data_append, ByteArray.data_append, ByteArray.data_append, Array.toList_append, Array.toList_append, Array.toList_append]
  rfl
theorem sText_size (d : SegD) : (sText d).size = d.body.size + 5 := by
  rw [sText, ByteArray.size_append, ByteArray.size_append, ByteArray.size_append]
  have h1 : (⟨(twoB d.num.toNat).toArray⟩ : ByteArray).size = 2 := rfl
  have h2 : (⟨(twoB d.ack.toNat).toArray⟩ : ByteArray).size = 2 := rfl
  have h3 : (⟨#[UInt8.ofNat d.flags.toNat]⟩ : ByteArray).size = 1 := rfl
  omega
/-- the segment that a text tells -/
def segOf (s : ByteArray) : SegD := ⟨256 * (s.data.toList.getD 0 0).toNat + (s.data.toList.getD 1 0).toNat, 256 * (s.data.toList.getD 2 0).toNat + (s.data.toList.getD 3 0).toNat, (s.data.toList.getD 4 0).toNat, s.extract 5 s.size⟩
theorem tail5 (s : ByteArray) : (s.extract 5 s.size).data.toList = s.data.toList.drop 5 := by
  rw [ByteArray.data_extract, Array.toList_extract, List.extract_eq_take_drop, List.take_of_length_le]
  have : s.size = s.data.toList.length := rfl
  rw [List.length_drop]
  omega
theorem segOf_text {d : SegD} (h : segOk d = true) : segOf (sText d) = d := by
  obtain ⟨⟨a1, a2⟩, ⟨b1, b2⟩, ⟨c1, c2⟩, _⟩ := segOk_iff.1 h
  obtain ⟨x, y, z, b⟩ := d
  dsimp only at a1 a2 b1 b2 c1 c2
  have hb : (sText ⟨x, y, z, b⟩).extract 5 (sText ⟨x, y, z, b⟩).size = b := by
    apply ByteArray.ext
    apply Array.toList_inj.1
    rw [tail5, sText_list]
    rfl
  rw [segOf, hb, sText_list]
  simp only [List.getD_cons_zero, List.getD_cons_succ, UInt8.toNat_ofNat']
  rw [show ((256 : Int) * ((x.toNat / 256 % 2 ^ 8 : Nat) : Int) + ((x.toNat % 256 % 2 ^ 8 : Nat) : Int)) = x by omega, show ((256 : Int) * ((y.toNat / 256 % 2 ^ 8 : Nat) : Int) + ((y.toNat % 256 % 2 ^ 8 : Nat) : Int)) = y by omega, show ((z.toNat % 2 ^ 8 : Nat) : Int) = z by omega]
theorem segOf_at {U : ByteArray} (h : 5 ≤ U.size) : segOf U = ⟨(256 : Int) * ((U[0]'(by omega)).toNat : Int) + ((U[1]'(by omega)).toNat : Int), (256 : Int) * ((U[2]'(by omega)).toNat : Int) + ((U[3]'(by omega)).toNat : Int), ((U[4]'(by omega)).toNat : Int), U.extract 5 U.size⟩ := by
  obtain ⟨⟨l⟩⟩ := U
  have hl : 5 ≤ l.length := h
  match l, hl with
  | a :: b :: c :: d :: e :: r, _ => rfl
theorem text_segOf {s : ByteArray} (h : 5 ≤ s.size) : sText (segOf s) = s := by
  apply ByteArray.ext
  apply Array.toList_inj.1
  rw [sText_list]
  obtain ⟨l, hl⟩ : ∃ l, s.data.toList = l := ⟨_, rfl⟩
  have hlen : 5 ≤ l.length := by rw [← hl]; simpa using h
  simp only [segOf, tail5]
  rw [hl]
  match l, hlen with
  | a :: b :: c :: d :: e :: r, _ =>
    simp only [List.getD_cons_zero, List.getD_cons_succ, List.drop_succ_cons, List.drop_zero]
    have ha := a.toNat_lt
    have hb := b.toNat_lt
    have hc := c.toNat_lt
    have hd := d.toNat_lt
    rw [show (256 * (a.toNat : Int) + (b.toNat : Int)).toNat / 256 = a.toNat by omega, show (256 * (a.toNat : Int) + (b.toNat : Int)).toNat % 256 = b.toNat by omega, show (256 * (c.toNat : Int) + (d.toNat : Int)).toNat / 256 = c.toNat by omega, show (256 * (c.toNat : Int) + (d.toNat : Int)).toNat % 256 = d.toNat by omega]
    simp
/-- the text of a right segment -/
def SegIn (s : ByteArray) : Prop := 5 ≤ s.size ∧ segOk (segOf s) = true
theorem segIn_text {d : SegD} (h : segOk d = true) : SegIn (sText d) := ⟨by rw [sText_size]; omega, by rw [segOf_text h]; exact h⟩
theorem not_segIn_empty : ¬ SegIn ByteArray.empty := fun h => by have := h.1; simp at this
/-- what a reader told -/
def STold (s : ByteArray) (r : SegD) (ok : Bool) : Prop := (SegIn s ∧ r = segOf s ∧ ok = true) ∨ (¬ SegIn s ∧ r = segZero ∧ ok = false)
theorem segText_flag {d : SegD} {T : ByteArray} {ok : Bool} (h : segText d = (T, ok)) : segOk d = ok := by
  cases hE : segOk d with
  | true => rw [segText_yes hE] at h; exact congrArg Prod.snd h
  | false => rw [segText_no hE] at h; exact congrArg Prod.snd h
theorem stext_parts {d : SegD} {T : ByteArray} (h : segText d = (T, true)) : segOk d = true ∧ T = sText d := by
  cases hE : segOk d with
  | true => rw [segText_yes hE] at h; exact ⟨rfl, (congrArg Prod.fst h).symm⟩
  | false => rw [segText_no hE] at h; cases congrArg Prod.snd h
theorem segText_small (d : SegD) : (segText d).1.size ≤ 13 := by
  cases hE : segOk d with
  | true =>
    rw [segText_yes hE]
    show (sText d).size ≤ 13
    rw [sText_size]
    have := (segOk_iff.1 hE).2.2.2.1
    omega
  | false => rw [segText_no hE]; exact Nat.zero_le _
theorem stold_back {d r : SegD} {T : ByteArray} {right : Bool} (h : segText d = (T, true)) (ht : STold T r right) : r = d ∧ right = true := by
  obtain ⟨hE, rfl⟩ := stext_parts h
  rcases ht with ⟨_, h3, h4⟩ | ⟨h3, _⟩
  · exact ⟨h3.trans (segOf_text hE), h4⟩
  · exact absurd (segIn_text hE) h3
theorem stold_same {s : ByteArray} {r r2 : SegD} {a b : Bool} (h : STold s r a) (h2 : STold s r2 b) : r = r2 ∧ a = b := by
  rcases h with ⟨x, h3, h4⟩ | ⟨x, h3, h4⟩ <;> rcases h2 with ⟨y, h5, h6⟩ | ⟨y, h5, h6⟩
  · exact ⟨h3.trans h5.symm, h4.trans h6.symm⟩
  · exact absurd x y
  · exact absurd y x
  · exact ⟨h3.trans h5.symm, h4.trans h6.symm⟩
theorem stold_again {s again : ByteArray} {r : SegD} {may ok2 : Bool} (h : STold s r may) (h2 : segText r = (again, ok2)) : may = true → again = s := by
  rintro rfl
  rcases h with ⟨x, h3, _⟩ | ⟨_, _, h4⟩
  · subst h3
    rw [segText_yes x.2] at h2
    exact (congrArg Prod.fst h2).symm.trans (text_segOf x.1)
  · cases h4
end Go.Proofs.Ytngcldjkpcmidaa

namespace Go.Proofs.Ytngcldjkpcmidaa
open Go.RowKit

/-- a text is taken: what of it is at the next number, and behind -/
def takeD (num : Int) (text : ByteArray) (d : StrD) : StrD :=
  if gapNum num d.rcv < text.size then { d with inn := d.inn ++ text.extract (gapNum num d.rcv).toNat text.size, rcv := addNum d.rcv (text.size - gapNum num d.rcv) } else d
/-- it begins at the next number, or ahead of it -/
def reached (rcv num : Int) : Bool := decide (gapNum num rcv < 32768)
def turnAt (rcv : Int) (l : List LateD) : Nat := l.findIdx (fun e => reached rcv e.num)
def dropD (k : Nat) (d : StrD) : StrD := { d with late := d.late.eraseIdx k }
def lateD : Nat → StrD → StrD
  | 0, d => d
  | f + 1, d => if h : turnAt d.rcv d.late < d.late.length then lateD f (takeD d.late[turnAt d.rcv d.late].num d.late[turnAt d.rcv d.late].text (dropD (turnAt d.rcv d.late) d)) else d
def hasNum (num : Int) (l : List LateD) : Bool := l.any (fun e => decide (e.num = num))
def keepD (num : Int) (text : ByteArray) (d : StrD) : StrD := if hasNum num d.late = true ∨ 8 ≤ d.late.length then d else { d with late := d.late ++ [⟨num, text⟩] }
def oweD (d : StrD) : StrD := { d with owe := true }
def newsD (num : Int) (text : ByteArray) (d : StrD) : StrD :=
  if reached d.rcv num = true then takeD num text d else if gapNum d.rcv num < 64 then keepD num text d else d
def bodyD (num : Int) (text : ByteArray) (d : StrD) : StrD := lateD (newsD num text (oweD d)).late.length (newsD num text (oweD d))
def ackD (ack : Int) (d : StrD) : StrD :=
  if gapNum d.una ack < 1 ∨ flightD d < gapNum d.una ack then d
  else { d with fin := if d.sent < gapNum d.una ack then 3 else d.fin, wait := d.wait.extract (min (gapNum d.una ack) d.sent).toNat d.wait.size, sent := d.sent - min (gapNum d.una ack) d.sent, una := ack, times := 0 }
def endD (num : Int) (d : StrD) : StrD := if num = d.rcv ∧ d.pf = false then { d with owe := true, pf := true, rcv := addNum d.rcv 1 } else { d with owe := true }
def synB (s : SegD) : Bool := decide (s.flags % 2 = 1)
def ackB (s : SegD) : Bool := decide (s.flags / 2 % 2 = 1)
def finF (s : SegD) : Bool := decide (s.flags / 4 % 2 = 1)
def heard1 (s : SegD) (d : StrD) : StrD := if ackB s = true then ackD s.ack d else d
def heard2 (s : SegD) (d : StrD) : StrD := if s.body.size = 0 then d else bodyD s.num s.body d
def heard3 (s : SegD) (d : StrD) : StrD := if finF s = true then endD (addNum s.num s.body.size) d else d
def heardD (s : SegD) (d : StrD) : StrD := if synB s = true then oweD d else heard3 s (heard2 s (heard1 s d))
def openedD (d : StrD) : StrD := { d with una := addNum d.iss 1, st := 4, due := 0, times := 0 }
def hear0 (s : SegD) (d : StrD) : StrD :=
  if d.st = 1 then (if synB s = true ∧ ackB s = false then { d with rcv := addNum s.num 1, st := 3 } else d)
  else if d.st = 2 then (if synB s = true ∧ ackB s = true ∧ s.ack = addNum d.iss 1 then openedD { d with rcv := addNum s.num 1, owe := true } else d)
  else if d.st = 3 then (if synB s = true then { d with due := 0, times := 0 } else if ackB s = true ∧ s.ack = addNum d.iss 1 then heardD s (openedD d) else d)
  else if d.st = 4 then heardD s d
  else d
def hearD (s : SegD) (d : StrD) : StrD := if strOk d = true ∧ segOk s = true then (if 1000 < (hear0 s d).inn.size then d else hear0 s d) else d
end Go.Proofs.Ytngcldjkpcmidaa

namespace Go.Proofs.Ytngcldjkpcmidaa
open Go.RowKit

/-- the stream at g; its early texts are the call's own -/
def StIs (w : World) (lo g : Nat) (d : StrD) : Prop := lo ≤ g ∧ ∃ ao cap, BlockIs w g 31 [.int .i64 d.st, .int .i64 d.iss, .int .i64 d.una, .int .i64 d.rcv, .string d.wait, .int .i64 d.sent, .int .i64 d.fin, .bool d.pf, .string d.inn, .slice ao d.late.length cap, .bool d.owe, .int .i64 d.due, .int .i64 d.times] ∧ OwnsL w lo d.late ao cap
theorem StIs.lt {w : World} {lo g : Nat} {d : StrD} (h : StIs w lo g d) : g < w.heap.size := by obtain ⟨_, _, _, hb, _⟩ := h; exact hb.lt
theorem StIs.lo {w : World} {lo g : Nat} {d : StrD} (h : StIs w lo g d) : lo ≤ w.heap.size := Nat.le_trans h.1 (Nat.le_of_lt h.lt)
theorem StIs.on {w w' : World} {lo g : Nat} {d : StrD} (h : StIs w lo g d) (hb : Below w.heap.size w w') : StIs w' lo g d := by
  obtain ⟨h1, ao, cap, h2, h3⟩ := h
  exact ⟨h1, ao, cap, h2.on hb h2.lt, h3.on hb⟩
def StTo (lo g : Nat) (w w' : World) (d : StrD) : Prop := StIs w' lo g d ∧ Below lo w w'
theorem StIs.to {w : World} {lo g : Nat} {d : StrD} (h : StIs w lo g d) : StTo lo g w w d := ⟨h, Below.refl _ _⟩
theorem StTo.trans {lo g : Nat} {w w1 w2 : World} {d d2 : StrD} (h : StTo lo g w w1 d) (h2 : StTo lo g w1 w2 d2) : StTo lo g w w2 d2 := ⟨h2.1, h.2.trans h2.2⟩
theorem StTo.on {lo g : Nat} {w w1 w2 : World} {d : StrD} (h : StTo lo g w w1 d) (hb : Below w1.heap.size w1 w2) : StTo lo g w w2 d := ⟨h.1.on hb, h.2.trans (hb.mono h.1.lo)⟩
theorem StTo.st {lo g : Nat} {w w1 : World} {d : StrD} (h : StTo lo g w w1 d) (v : Int) : StTo lo g w (w1.setCell ⟨g, 0, none⟩ (.int .i64 v)) { d with st := v } := by
  obtain ⟨⟨h1, ao, cap, h2, h3⟩, h5⟩ := h
  exact ⟨⟨h1, ao, cap, h2.set 0 _, h3.setCell h2 (by decide) 0 _⟩, h5.setCell h1 _⟩
theorem StTo.iss {lo g : Nat} {w w1 : World} {d : StrD} (h : StTo lo g w w1 d) (v : Int) : StTo lo g w (w1.setCell ⟨g, 1, none⟩ (.int .i64 v)) { d with iss := v } := by
  obtain ⟨⟨h1, ao, cap, h2, h3⟩, h5⟩ := h
  exact ⟨⟨h1, ao, cap, h2.set 1 _, h3.setCell h2 (by decide) 1 _⟩, h5.setCell h1 _⟩
theorem StTo.una {lo g : Nat} {w w1 : World} {d : StrD} (h : StTo lo g w w1 d) (v : Int) : StTo lo g w (w1.setCell ⟨g, 2, none⟩ (.int .i64 v)) { d with una := v } := by
  obtain ⟨⟨h1, ao, cap, h2, h3⟩, h5⟩ := h
  exact ⟨⟨h1, ao, cap, h2.set 2 _, h3.setCell h2 (by decide) 2 _⟩, h5.setCell h1 _⟩
theorem StTo.rcv {lo g : Nat} {w w1 : World} {d : StrD} (h : StTo lo g w w1 d) (v : Int) : StTo lo g w (w1.setCell ⟨g, 3, none⟩ (.int .i64 v)) { d with rcv := v } := by
  obtain ⟨⟨h1, ao, cap, h2, h3⟩, h5⟩ := h
  exact ⟨⟨h1, ao, cap, h2.set 3 _, h3.setCell h2 (by decide) 3 _⟩, h5.setCell h1 _⟩
theorem StTo.wait {lo g : Nat} {w w1 : World} {d : StrD} (h : StTo lo g w w1 d) (v : ByteArray) : StTo lo g w (w1.setCell ⟨g, 4, none⟩ (.string v)) { d with wait := v } := by
  obtain ⟨⟨h1, ao, cap, h2, h3⟩, h5⟩ := h
  exact ⟨⟨h1, ao, cap, h2.set 4 _, h3.setCell h2 (by decide) 4 _⟩, h5.setCell h1 _⟩
theorem StTo.sent {lo g : Nat} {w w1 : World} {d : StrD} (h : StTo lo g w w1 d) (v : Int) : StTo lo g w (w1.setCell ⟨g, 5, none⟩ (.int .i64 v)) { d with sent := v } := by
  obtain ⟨⟨h1, ao, cap, h2, h3⟩, h5⟩ := h
  exact ⟨⟨h1, ao, cap, h2.set 5 _, h3.setCell h2 (by decide) 5 _⟩, h5.setCell h1 _⟩
theorem StTo.fin {lo g : Nat} {w w1 : World} {d : StrD} (h : StTo lo g w w1 d) (v : Int) : StTo lo g w (w1.setCell ⟨g, 6, none⟩ (.int .i64 v)) { d with fin := v } := by
  obtain ⟨⟨h1, ao, cap, h2, h3⟩, h5⟩ := h
  exact ⟨⟨h1, ao, cap, h2.set 6 _, h3.setCell h2 (by decide) 6 _⟩, h5.setCell h1 _⟩
theorem StTo.pf {lo g : Nat} {w w1 : World} {d : StrD} (h : StTo lo g w w1 d) (v : Bool) : StTo lo g w (w1.setCell ⟨g, 7, none⟩ (.bool v)) { d with pf := v } := by
  obtain ⟨⟨h1, ao, cap, h2, h3⟩, h5⟩ := h
  exact ⟨⟨h1, ao, cap, h2.set 7 _, h3.setCell h2 (by decide) 7 _⟩, h5.setCell h1 _⟩
theorem StTo.inn {lo g : Nat} {w w1 : World} {d : StrD} (h : StTo lo g w w1 d) (v : ByteArray) : StTo lo g w (w1.setCell ⟨g, 8, none⟩ (.string v)) { d with inn := v } := by
  obtain ⟨⟨h1, ao, cap, h2, h3⟩, h5⟩ := h
  exact ⟨⟨h1, ao, cap, h2.set 8 _, h3.setCell h2 (by decide) 8 _⟩, h5.setCell h1 _⟩
theorem StTo.owe {lo g : Nat} {w w1 : World} {d : StrD} (h : StTo lo g w w1 d) (v : Bool) : StTo lo g w (w1.setCell ⟨g, 10, none⟩ (.bool v)) { d with owe := v } := by
  obtain ⟨⟨h1, ao, cap, h2, h3⟩, h5⟩ := h
  exact ⟨⟨h1, ao, cap, h2.set 10 _, h3.setCell h2 (by decide) 10 _⟩, h5.setCell h1 _⟩
theorem StTo.due {lo g : Nat} {w w1 : World} {d : StrD} (h : StTo lo g w w1 d) (v : Int) : StTo lo g w (w1.setCell ⟨g, 11, none⟩ (.int .i64 v)) { d with due := v } := by
  obtain ⟨⟨h1, ao, cap, h2, h3⟩, h5⟩ := h
  exact ⟨⟨h1, ao, cap, h2.set 11 _, h3.setCell h2 (by decide) 11 _⟩, h5.setCell h1 _⟩
theorem StTo.times {lo g : Nat} {w w1 : World} {d : StrD} (h : StTo lo g w w1 d) (v : Int) : StTo lo g w (w1.setCell ⟨g, 12, none⟩ (.int .i64 v)) { d with times := v } := by
  obtain ⟨⟨h1, ao, cap, h2, h3⟩, h5⟩ := h
  exact ⟨⟨h1, ao, cap, h2.set 12 _, h3.setCell h2 (by decide) 12 _⟩, h5.setCell h1 _⟩
/-- a row of segments stands beside a stream that is turned -/
theorem segs_beside {lo g j : Nat} {w : World} {d : StrD} {v u : Value} {n : Nat} {xs : List Value} (h : StIs w lo g d) (hr : w.ownsRow lo 34 4 v n xs) : (w.setCell ⟨g, j, none⟩ u).ownsRow lo 34 4 v n xs := by
  obtain ⟨_, _, _, hb, _⟩ := h
  exact row_setCell hb hr (by decide) j u
end Go.Proofs.Ytngcldjkpcmidaa

namespace Go.Proofs.Ytngcldjkpcmidaa
open Go.RowKit

/-- blocks stand that are not the stream itself and no early text -/
def StandsBut (g : Nat) (w w' : World) : Prop := ∀ p ty cs, BlockIs w p ty cs → p ≠ g → ty ≠ 61 → BlockIs w' p ty cs
def HsTo (lo g : Nat) (w w' : World) (d : StrD) : Prop := StTo lo g w w' d ∧ StandsBut g w w'
theorem StIs.hs {w : World} {lo g : Nat} {d : StrD} (h : StIs w lo g d) : HsTo lo g w w d := ⟨h.to, fun _ _ _ h _ _ => h⟩
theorem HsTo.trans {lo g : Nat} {w w1 w2 : World} {d d2 : StrD} (h : HsTo lo g w w1 d) (h2 : HsTo lo g w1 w2 d2) : HsTo lo g w w2 d2 := ⟨h.1.trans h2.1, fun p ty cs hp a b => h2.2 p ty cs (h.2 p ty cs hp a b) a b⟩
theorem HsTo.on {lo g : Nat} {w w1 w2 : World} {d : StrD} (h : HsTo lo g w w1 d) (hb : Below w1.heap.size w1 w2) : HsTo lo g w w2 d := ⟨h.1.on hb, fun p ty cs hp a b => (h.2 p ty cs hp a b).on hb (h.2 p ty cs hp a b).lt⟩
theorem HsTo.st {lo g : Nat} {w w1 : World} {d : StrD} (h : HsTo lo g w w1 d) (v : Int) : HsTo lo g w (w1.setCell ⟨g, 0, none⟩ (.int .i64 v)) { d with st := v } := ⟨h.1.st v, fun p ty cs hp a b => (h.2 p ty cs hp a b).far (fun e => a e.symm) _⟩
theorem HsTo.iss {lo g : Nat} {w w1 : World} {d : StrD} (h : HsTo lo g w w1 d) (v : Int) : HsTo lo g w (w1.setCell ⟨g, 1, none⟩ (.int .i64 v)) { d with iss := v } := ⟨h.1.iss v, fun p ty cs hp a b => (h.2 p ty cs hp a b).far (fun e => a e.symm) _⟩
theorem HsTo.una {lo g : Nat} {w w1 : World} {d : StrD} (h : HsTo lo g w w1 d) (v : Int) : HsTo lo g w (w1.setCell ⟨g, 2, none⟩ (.int .i64 v)) { d with una := v } := ⟨h.1.una v, fun p ty cs hp a b => (h.2 p ty cs hp a b).far (fun e => a e.symm) _⟩
theorem HsTo.rcv {lo g : Nat} {w w1 : World} {d : StrD} (h : HsTo lo g w w1 d) (v : Int) : HsTo lo g w (w1.setCell ⟨g, 3, none⟩ (.int .i64 v)) { d with rcv := v } := ⟨h.1.rcv v, fun p ty cs hp a b => (h.2 p ty cs hp a b).far (fun e => a e.symm) _⟩
theorem HsTo.wait {lo g : Nat} {w w1 : World} {d : StrD} (h : HsTo lo g w w1 d) (v : ByteArray) : HsTo lo g w (w1.setCell ⟨g, 4, none⟩ (.string v)) { d with wait := v } := ⟨h.1.wait v, fun p ty cs hp a b => (h.2 p ty cs hp a b).far (fun e => a e.symm) _⟩
theorem HsTo.sent {lo g : Nat} {w w1 : World} {d : StrD} (h : HsTo lo g w w1 d) (v : Int) : HsTo lo g w (w1.setCell ⟨g, 5, none⟩ (.int .i64 v)) { d with sent := v } := ⟨h.1.sent v, fun p ty cs hp a b => (h.2 p ty cs hp a b).far (fun e => a e.symm) _⟩
theorem HsTo.fin {lo g : Nat} {w w1 : World} {d : StrD} (h : HsTo lo g w w1 d) (v : Int) : HsTo lo g w (w1.setCell ⟨g, 6, none⟩ (.int .i64 v)) { d with fin := v } := ⟨h.1.fin v, fun p ty cs hp a b => (h.2 p ty cs hp a b).far (fun e => a e.symm) _⟩
theorem HsTo.pf {lo g : Nat} {w w1 : World} {d : StrD} (h : HsTo lo g w w1 d) (v : Bool) : HsTo lo g w (w1.setCell ⟨g, 7, none⟩ (.bool v)) { d with pf := v } := ⟨h.1.pf v, fun p ty cs hp a b => (h.2 p ty cs hp a b).far (fun e => a e.symm) _⟩
theorem HsTo.inn {lo g : Nat} {w w1 : World} {d : StrD} (h : HsTo lo g w w1 d) (v : ByteArray) : HsTo lo g w (w1.setCell ⟨g, 8, none⟩ (.string v)) { d with inn := v } := ⟨h.1.inn v, fun p ty cs hp a b => (h.2 p ty cs hp a b).far (fun e => a e.symm) _⟩
theorem HsTo.owe {lo g : Nat} {w w1 : World} {d : StrD} (h : HsTo lo g w w1 d) (v : Bool) : HsTo lo g w (w1.setCell ⟨g, 10, none⟩ (.bool v)) { d with owe := v } := ⟨h.1.owe v, fun p ty cs hp a b => (h.2 p ty cs hp a b).far (fun e => a e.symm) _⟩
theorem HsTo.due {lo g : Nat} {w w1 : World} {d : StrD} (h : HsTo lo g w w1 d) (v : Int) : HsTo lo g w (w1.setCell ⟨g, 11, none⟩ (.int .i64 v)) { d with due := v } := ⟨h.1.due v, fun p ty cs hp a b => (h.2 p ty cs hp a b).far (fun e => a e.symm) _⟩
theorem HsTo.times {lo g : Nat} {w w1 : World} {d : StrD} (h : HsTo lo g w w1 d) (v : Int) : HsTo lo g w (w1.setCell ⟨g, 12, none⟩ (.int .i64 v)) { d with times := v } := ⟨h.1.times v, fun p ty cs hp a b => (h.2 p ty cs hp a b).far (fun e => a e.symm) _⟩
end Go.Proofs.Ytngcldjkpcmidaa

namespace Go.Proofs.Ytngcldjkpcmidaa
open Go.RowKit

/-- texts of a right stream: few, and small -/
def FewL (l : List LateD) : Prop := l.length ≤ 8 ∧ ∀ e ∈ l, e.text.size ≤ 8
theorem StrR.fewL {d : StrD} (h : StrR d) : FewL d.late := by
  refine ⟨h.few, fun e he => ?_⟩
  have h1 := List.all_eq_true.1 h.late e he
  simp only [lateOk, Bool.and_eq_true, within_iff] at h1
  omega
theorem FewL.erase {l : List LateD} (h : FewL l) (k : Nat) : FewL (l.eraseIdx k) := ⟨Nat.le_trans (List.length_eraseIdx_le _ _) h.1, fun e he => h.2 e (List.mem_of_mem_eraseIdx he)⟩
theorem takeD_late (num : Int) (text : ByteArray) (d : StrD) : (takeD num text d).late = d.late := by unfold takeD; split <;> rfl
theorem takeD_inn (num : Int) (text : ByteArray) (d : StrD) : (takeD num text d).inn.size ≤ d.inn.size + text.size := by
  unfold takeD
  split
  · show (d.inn ++ _).size ≤ _
    rw [ByteArray.size_append, ByteArray.size_extract]
    omega
  · omega
theorem keepD_few {num : Int} {text : ByteArray} {d : StrD} (h : FewL d.late) (ht : text.size ≤ 8) : FewL (keepD num text d).late := by
  unfold keepD
  split
  · exact h
  · rename_i h1
    refine ⟨?_, fun e he => ?_⟩
    · have h2 : ¬ 8 ≤ d.late.length := fun q => h1 (Or.inr q)
      show (d.late ++ _).length ≤ 8
      rw [List.length_append, List.length_singleton]
      omega
    · rcases List.mem_append.1 he with h2 | h2
      · exact h.2 e h2
      · rw [List.mem_singleton] at h2
        subst h2
        exact ht
theorem newsD_few {num : Int} {text : ByteArray} {d : StrD} (h : FewL d.late) (ht : text.size ≤ 8) : FewL (newsD num text d).late := by
  unfold newsD
  split
  · rw [takeD_late]; exact h
  · split
    · exact keepD_few h ht
    · exact h
theorem keepD_inn (num : Int) (text : ByteArray) (d : StrD) : (keepD num text d).inn = d.inn := by unfold keepD; split <;> rfl
theorem newsD_inn (num : Int) (text : ByteArray) (d : StrD) : (newsD num text d).inn.size ≤ d.inn.size + text.size := by
  unfold newsD
  split
  · exact takeD_inn num text d
  · split
    · rw [keepD_inn]; omega
    · omega
/-- the first one from a place on whose turn it is, or -1 -/
def fromK (rcv : Int) (l : List LateD) (q : Nat) : Int := if (l.drop q).findIdx (fun e => reached rcv e.num) < (l.drop q).length then ((q + (l.drop q).findIdx (fun e => reached rcv e.num) : Nat) : Int) else -1
theorem fromK_end (rcv : Int) (l : List LateD) : fromK rcv l l.length = -1 := by simp [fromK]
theorem fromK_step {rcv : Int} {l : List LateD} {q : Nat} (h : q < l.length) : fromK rcv l q = if reached rcv l[q].num = true then (q : Int) else fromK rcv l (q + 1) := by
  unfold fromK
  rw [List.drop_eq_getElem_cons h, List.findIdx_cons]
  cases hr : reached rcv l[q].num with
  | true =>
    simp
    omega
  | false =>
    simp only [cond_false, List.length_cons, List.length_drop, Bool.false_eq_true, if_false]
    by_cases h2 : (l.drop (q + 1)).findIdx (fun e => reached rcv e.num) < l.length - (q + 1)
    · rw [if_pos (by omega), if_pos h2]
      congr 1
      omega
    · rw [if_neg (by omega), if_neg h2]
theorem fromK_all (rcv : Int) (l : List LateD) : fromK rcv l 0 = if turnAt rcv l < l.length then (turnAt rcv l : Int) else -1 := by
  simp [fromK, turnAt]
theorem lateD_done {d : StrD} (h : ¬ turnAt d.rcv d.late < d.late.length) (n : Nat) : lateD n d = d := by
  cases n with
  | zero => rfl
  | succ n => rw [lateD, dif_neg h]
theorem lateD_more {d : StrD} {t : Nat} (ht : turnAt d.rcv d.late = t) (h : t < d.late.length) : lateD d.late.length d = lateD (takeD d.late[t].num d.late[t].text (dropD t d)).late.length (takeD d.late[t].num d.late[t].text (dropD t d)) := by
  subst ht
  obtain ⟨n, hn⟩ : ∃ n, d.late.length = n + 1 := ⟨d.late.length - 1, by omega⟩
  have h2 : (takeD d.late[turnAt d.rcv d.late].num d.late[turnAt d.rcv d.late].text (dropD (turnAt d.rcv d.late) d)).late.length = n := by
    rw [takeD_late]
    show (d.late.eraseIdx _).length = n
    rw [List.length_eraseIdx_of_lt h]
    omega
  rw [h2]
  conv => lhs; rw [hn]
  rw [lateD, dif_pos h]
theorem hasNum_take {num : Int} {l : List LateD} {k : Nat} (h : k < l.length) : hasNum num (l.take (k + 1)) = (hasNum num (l.take k) || decide (l[k].num = num)) := by
  rw [List.take_succ_eq_append_getElem h, hasNum, hasNum, List.any_append]
  simp
theorem erase_split {l : List LateD} {t : Nat} : l.eraseIdx t = l.take t ++ l.drop (t + 1) := List.eraseIdx_eq_take_drop_succ l t
end Go.Proofs.Ytngcldjkpcmidaa

namespace Go.Proofs.Ytngcldjkpcmidaa
open Go.RowKit

theorem lateD_few : ∀ (n : Nat) (d : StrD), FewL d.late → FewL (lateD n d).late ∧ (lateD n d).inn.size ≤ d.inn.size + 8 * n
  | 0, _, h => ⟨h, by rw [lateD]; omega⟩
  | n + 1, d, h => by
    rw [lateD]
    split
    · rename_i ht
      obtain ⟨t, htt⟩ : ∃ t, turnAt d.rcv d.late = t := ⟨_, rfl⟩
      have h8 := h.2 _ (List.getElem_mem ht)
      have hi := takeD_inn d.late[turnAt d.rcv d.late].num d.late[turnAt d.rcv d.late].text (dropD (turnAt d.rcv d.late) d)
      have hd : (dropD (turnAt d.rcv d.late) d).inn.size = d.inn.size := rfl
      have hf : FewL (takeD d.late[turnAt d.rcv d.late].num d.late[turnAt d.rcv d.late].text (dropD (turnAt d.rcv d.late) d)).late := by rw [takeD_late]; exact h.erase _
      have := lateD_few n _ hf
      exact ⟨this.1, by omega⟩
    · exact ⟨h, by omega⟩
theorem bodyD_few {num : Int} {text : ByteArray} {d : StrD} (h : FewL d.late) (ht : text.size ≤ 8) : FewL (bodyD num text d).late ∧ (bodyD num text d).inn.size ≤ d.inn.size + 72 := by
  have h1 : FewL (newsD num text (oweD d)).late := newsD_few (d := oweD d) h ht
  have h2 := newsD_inn num text (oweD d)
  have h3 := lateD_few (newsD num text (oweD d)).late.length (newsD num text (oweD d)) h1
  have h4 := h1.1
  have h5 : (oweD d).inn.size = d.inn.size := rfl
  exact ⟨h3.1, by show (lateD _ _).inn.size ≤ _; omega⟩
theorem heardD_few {s : SegD} {d : StrD} (h : FewL d.late) (ht : s.body.size ≤ 8) : FewL (heardD s d).late ∧ (heardD s d).inn.size ≤ d.inn.size + 72 := by
  have h1 : (heard1 s d).late = d.late ∧ (heard1 s d).inn = d.inn := by
    unfold heard1 ackD
    split
    · split <;> exact ⟨rfl, rfl⟩
    · exact ⟨rfl, rfl⟩
  have h2 : FewL (heard2 s (heard1 s d)).late ∧ (heard2 s (heard1 s d)).inn.size ≤ d.inn.size + 72 := by
    unfold heard2
    split
    · rw [h1.1, h1.2]; exact ⟨h, by omega⟩
    · have := bodyD_few (num := s.num) (d := heard1 s d) (by rw [h1.1]; exact h) ht
      rw [h1.2] at this
      exact this
  unfold heardD
  split
  · exact ⟨h, by show d.inn.size ≤ _; omega⟩
  · unfold heard3 endD
    split
    · split <;> exact h2
    · exact h2
theorem hear0_few {s : SegD} {d : StrD} (h : FewL d.late) (ht : s.body.size ≤ 8) : FewL (hear0 s d).late ∧ (hear0 s d).inn.size ≤ d.inn.size + 72 := by
  have h0 : FewL d.late ∧ d.inn.size ≤ d.inn.size + 72 := ⟨h, by omega⟩
  unfold hear0
  split
  · split <;> exact h0
  · split
    · split <;> exact h0
    · split
      · split
        · exact h0
        · split
          · exact heardD_few (d := openedD d) h ht
          · exact h0
      · split
        · exact heardD_few h ht
        · exact h0
theorem hearD_few (s : SegD) (d : StrD) : (hearD s d).late.length ≤ max 8 d.late.length := by
  unfold hearD
  split
  · rename_i hk
    split
    · omega
    · have := (hear0_few (s := s) (strOk_iff.1 hk.1).fewL (by have := (segOk_iff.1 hk.2).2.2.2.1; omega)).1.1
      omega
  · omega
end Go.Proofs.Ytngcldjkpcmidaa

namespace Go.Proofs.Ytngcldjkpcmidaa
open Go.RowKit

/-- the endpoint at g: its stream, its time, what went out; its rows are the call's own -/
def EpIs (w : World) (lo g : Nat) (d : StrD) (now : Int) (out : List SegD) : Prop :=
  lo ≤ g ∧ ∃ ao cap ov oc, BlockIs w g 54 [.int .i64 d.st, .int .i64 d.iss, .int .i64 d.una, .int .i64 d.rcv, .string d.wait, .int .i64 d.sent, .int .i64 d.fin, .bool d.pf, .string d.inn, .slice ao d.late.length cap, .bool d.owe, .int .i64 d.due, .int .i64 d.times, .int .i64 now, .slice ov out.length oc] ∧ OwnsL w lo d.late ao cap ∧ w.ownsRow lo 34 4 (.slice ov out.length oc) out.length (segCells out)
theorem EpIs.lt {w : World} {lo g : Nat} {d : StrD} {now : Int} {out : List SegD} (h : EpIs w lo g d now out) : g < w.heap.size := by obtain ⟨_, _, _, _, _, hb, _⟩ := h; exact hb.lt
theorem EpIs.lo {w : World} {lo g : Nat} {d : StrD} {now : Int} {out : List SegD} (h : EpIs w lo g d now out) : lo ≤ w.heap.size := Nat.le_trans h.1 (Nat.le_of_lt h.lt)
theorem EpIs.on {w w' : World} {lo g : Nat} {d : StrD} {now : Int} {out : List SegD} (h : EpIs w lo g d now out) (hb : Below w.heap.size w w') : EpIs w' lo g d now out := by
  obtain ⟨h1, ao, cap, ov, oc, h2, h3, h4⟩ := h
  exact ⟨h1, ao, cap, ov, oc, h2.on hb h2.lt, h3.on hb, segR_below h4 hb⟩
/-- from one world to another: the endpoint is turned, all below stands -/
def EpTo (lo g : Nat) (w w' : World) (d : StrD) (now : Int) (out : List SegD) : Prop := EpIs w' lo g d now out ∧ Below lo w w'
theorem EpIs.to {w : World} {lo g : Nat} {d : StrD} {now : Int} {out : List SegD} (h : EpIs w lo g d now out) : EpTo lo g w w d now out := ⟨h, Below.refl _ _⟩
theorem EpTo.trans {lo g : Nat} {w w1 w2 : World} {d d2 : StrD} {now : Int} {out out2 : List SegD} (h : EpTo lo g w w1 d now out) (h2 : EpTo lo g w1 w2 d2 now out2) : EpTo lo g w w2 d2 now out2 := ⟨h2.1, h.2.trans h2.2⟩
theorem EpTo.on {lo g : Nat} {w w1 w2 : World} {d : StrD} {now : Int} {out : List SegD} (h : EpTo lo g w w1 d now out) (hb : Below w1.heap.size w1 w2) : EpTo lo g w w2 d now out := ⟨h.1.on hb, h.2.trans (hb.mono h.1.lo)⟩
theorem EpTo.drew {lo g : Nat} {w w1 : World} {d : StrD} {now : Int} {out : List SegD} (h : EpTo lo g w w1 d now out) : EpTo lo g w w1.drew d now out := h.on (below_drewN (Below.refl _ _) 1)
theorem EpTo.st {lo g : Nat} {w w1 : World} {d : StrD} {now : Int} {out : List SegD} (h : EpTo lo g w w1 d now out) (v : Int) : EpTo lo g w (w1.setCell ⟨g, 0, none⟩ (.int .i64 v)) { d with st := v } now out := by
  obtain ⟨⟨h1, ao, cap, ov, oc, h2, h3, h4⟩, h5⟩ := h
  exact ⟨⟨h1, ao, cap, ov, oc, h2.set 0 _, h3.setCell h2 (by decide) 0 _, row_setCell h2 h4 (by decide) 0 _⟩, h5.setCell h1 _⟩
theorem EpTo.iss {lo g : Nat} {w w1 : World} {d : StrD} {now : Int} {out : List SegD} (h : EpTo lo g w w1 d now out) (v : Int) : EpTo lo g w (w1.setCell ⟨g, 1, none⟩ (.int .i64 v)) { d with iss := v } now out := by
  obtain ⟨⟨h1, ao, cap, ov, oc, h2, h3, h4⟩, h5⟩ := h
  exact ⟨⟨h1, ao, cap, ov, oc, h2.set 1 _, h3.setCell h2 (by decide) 1 _, row_setCell h2 h4 (by decide) 1 _⟩, h5.setCell h1 _⟩
theorem EpTo.una {lo g : Nat} {w w1 : World} {d : StrD} {now : Int} {out : List SegD} (h : EpTo lo g w w1 d now out) (v : Int) : EpTo lo g w (w1.setCell ⟨g, 2, none⟩ (.int .i64 v)) { d with una := v } now out := by
  obtain ⟨⟨h1, ao, cap, ov, oc, h2, h3, h4⟩, h5⟩ := h
  exact ⟨⟨h1, ao, cap, ov, oc, h2.set 2 _, h3.setCell h2 (by decide) 2 _, row_setCell h2 h4 (by decide) 2 _⟩, h5.setCell h1 _⟩
theorem EpTo.rcv {lo g : Nat} {w w1 : World} {d : StrD} {now : Int} {out : List SegD} (h : EpTo lo g w w1 d now out) (v : Int) : EpTo lo g w (w1.setCell ⟨g, 3, none⟩ (.int .i64 v)) { d with rcv := v } now out := by
  obtain ⟨⟨h1, ao, cap, ov, oc, h2, h3, h4⟩, h5⟩ := h
  exact ⟨⟨h1, ao, cap, ov, oc, h2.set 3 _, h3.setCell h2 (by decide) 3 _, row_setCell h2 h4 (by decide) 3 _⟩, h5.setCell h1 _⟩
theorem EpTo.wait {lo g : Nat} {w w1 : World} {d : StrD} {now : Int} {out : List SegD} (h : EpTo lo g w w1 d now out) (v : ByteArray) : EpTo lo g w (w1.setCell ⟨g, 4, none⟩ (.string v)) { d with wait := v } now out := by
  obtain ⟨⟨h1, ao, cap, ov, oc, h2, h3, h4⟩, h5⟩ := h
  exact ⟨⟨h1, ao, cap, ov, oc, h2.set 4 _, h3.setCell h2 (by decide) 4 _, row_setCell h2 h4 (by decide) 4 _⟩, h5.setCell h1 _⟩
theorem EpTo.sent {lo g : Nat} {w w1 : World} {d : StrD} {now : Int} {out : List SegD} (h : EpTo lo g w w1 d now out) (v : Int) : EpTo lo g w (w1.setCell ⟨g, 5, none⟩ (.int .i64 v)) { d with sent := v } now out := by
  obtain ⟨⟨h1, ao, cap, ov, oc, h2, h3, h4⟩, h5⟩ := h
  exact ⟨⟨h1, ao, cap, ov, oc, h2.set 5 _, h3.setCell h2 (by decide) 5 _, row_setCell h2 h4 (by decide) 5 _⟩, h5.setCell h1 _⟩
theorem EpTo.fin {lo g : Nat} {w w1 : World} {d : StrD} {now : Int} {out : List SegD} (h : EpTo lo g w w1 d now out) (v : Int) : EpTo lo g w (w1.setCell ⟨g, 6, none⟩ (.int .i64 v)) { d with fin := v } now out := by
  obtain ⟨⟨h1, ao, cap, ov, oc, h2, h3, h4⟩, h5⟩ := h
  exact ⟨⟨h1, ao, cap, ov, oc, h2.set 6 _, h3.setCell h2 (by decide) 6 _, row_setCell h2 h4 (by decide) 6 _⟩, h5.setCell h1 _⟩
theorem EpTo.pf {lo g : Nat} {w w1 : World} {d : StrD} {now : Int} {out : List SegD} (h : EpTo lo g w w1 d now out) (v : Bool) : EpTo lo g w (w1.setCell ⟨g, 7, none⟩ (.bool v)) { d with pf := v } now out := by
  obtain ⟨⟨h1, ao, cap, ov, oc, h2, h3, h4⟩, h5⟩ := h
  exact ⟨⟨h1, ao, cap, ov, oc, h2.set 7 _, h3.setCell h2 (by decide) 7 _, row_setCell h2 h4 (by decide) 7 _⟩, h5.setCell h1 _⟩
theorem EpTo.inn {lo g : Nat} {w w1 : World} {d : StrD} {now : Int} {out : List SegD} (h : EpTo lo g w w1 d now out) (v : ByteArray) : EpTo lo g w (w1.setCell ⟨g, 8, none⟩ (.string v)) { d with inn := v } now out := by
  obtain ⟨⟨h1, ao, cap, ov, oc, h2, h3, h4⟩, h5⟩ := h
  exact ⟨⟨h1, ao, cap, ov, oc, h2.set 8 _, h3.setCell h2 (by decide) 8 _, row_setCell h2 h4 (by decide) 8 _⟩, h5.setCell h1 _⟩
theorem EpTo.owe {lo g : Nat} {w w1 : World} {d : StrD} {now : Int} {out : List SegD} (h : EpTo lo g w w1 d now out) (v : Bool) : EpTo lo g w (w1.setCell ⟨g, 10, none⟩ (.bool v)) { d with owe := v } now out := by
  obtain ⟨⟨h1, ao, cap, ov, oc, h2, h3, h4⟩, h5⟩ := h
  exact ⟨⟨h1, ao, cap, ov, oc, h2.set 10 _, h3.setCell h2 (by decide) 10 _, row_setCell h2 h4 (by decide) 10 _⟩, h5.setCell h1 _⟩
theorem EpTo.due {lo g : Nat} {w w1 : World} {d : StrD} {now : Int} {out : List SegD} (h : EpTo lo g w w1 d now out) (v : Int) : EpTo lo g w (w1.setCell ⟨g, 11, none⟩ (.int .i64 v)) { d with due := v } now out := by
  obtain ⟨⟨h1, ao, cap, ov, oc, h2, h3, h4⟩, h5⟩ := h
  exact ⟨⟨h1, ao, cap, ov, oc, h2.set 11 _, h3.setCell h2 (by decide) 11 _, row_setCell h2 h4 (by decide) 11 _⟩, h5.setCell h1 _⟩
theorem EpTo.times {lo g : Nat} {w w1 : World} {d : StrD} {now : Int} {out : List SegD} (h : EpTo lo g w w1 d now out) (v : Int) : EpTo lo g w (w1.setCell ⟨g, 12, none⟩ (.int .i64 v)) { d with times := v } now out := by
  obtain ⟨⟨h1, ao, cap, ov, oc, h2, h3, h4⟩, h5⟩ := h
  exact ⟨⟨h1, ao, cap, ov, oc, h2.set 12 _, h3.setCell h2 (by decide) 12 _, row_setCell h2 h4 (by decide) 12 _⟩, h5.setCell h1 _⟩
end Go.Proofs.Ytngcldjkpcmidaa

namespace Go.Proofs.Ytngcldjkpcmidaa
open Go.RowKit

/-- blocks stand that are no endpoint and no early text -/
def Stands (w w' : World) : Prop := ∀ p ty cs, BlockIs w p ty cs → ty ≠ 54 → ty ≠ 61 → BlockIs w' p ty cs
def HrTo (lo g : Nat) (w w' : World) (d : StrD) (now : Int) (out : List SegD) : Prop := EpTo lo g w w' d now out ∧ Stands w w'
theorem EpIs.hr {w : World} {lo g : Nat} {d : StrD} {now : Int} {out : List SegD} (h : EpIs w lo g d now out) : HrTo lo g w w d now out := ⟨h.to, fun _ _ _ h _ _ => h⟩
theorem HrTo.trans {lo g : Nat} {w w1 w2 : World} {d d2 : StrD} {now : Int} {out out2 : List SegD} (h : HrTo lo g w w1 d now out) (h2 : HrTo lo g w1 w2 d2 now out2) : HrTo lo g w w2 d2 now out2 := ⟨h.1.trans h2.1, fun p ty cs hp a b => h2.2 p ty cs (h.2 p ty cs hp a b) a b⟩
theorem HrTo.on {lo g : Nat} {w w1 w2 : World} {d : StrD} {now : Int} {out : List SegD} (h : HrTo lo g w w1 d now out) (hb : Below w1.heap.size w1 w2) : HrTo lo g w w2 d now out := ⟨h.1.on hb, fun p ty cs hp a b => (h.2 p ty cs hp a b).on hb (h.2 p ty cs hp a b).lt⟩
theorem EpIs.far {w : World} {lo g j : Nat} {d : StrD} {now : Int} {out : List SegD} {v : Value} (h : EpIs w lo g d now out) : Stands w (w.setCell ⟨g, j, none⟩ v) := by
  obtain ⟨_, _, _, _, _, hb, _⟩ := h
  exact fun p ty cs hp a _ => hp.far (fun e => by subst e; exact a (block_one hp hb).1) v
theorem HrTo.st {lo g : Nat} {w w1 : World} {d : StrD} {now : Int} {out : List SegD} (h : HrTo lo g w w1 d now out) (v : Int) : HrTo lo g w (w1.setCell ⟨g, 0, none⟩ (.int .i64 v)) { d with st := v } now out := ⟨h.1.st v, fun p ty cs hp a b => h.1.1.far p ty cs (h.2 p ty cs hp a b) a b⟩
theorem HrTo.iss {lo g : Nat} {w w1 : World} {d : StrD} {now : Int} {out : List SegD} (h : HrTo lo g w w1 d now out) (v : Int) : HrTo lo g w (w1.setCell ⟨g, 1, none⟩ (.int .i64 v)) { d with iss := v } now out := ⟨h.1.iss v, fun p ty cs hp a b => h.1.1.far p ty cs (h.2 p ty cs hp a b) a b⟩
theorem HrTo.una {lo g : Nat} {w w1 : World} {d : StrD} {now : Int} {out : List SegD} (h : HrTo lo g w w1 d now out) (v : Int) : HrTo lo g w (w1.setCell ⟨g, 2, none⟩ (.int .i64 v)) { d with una := v } now out := ⟨h.1.una v, fun p ty cs hp a b => h.1.1.far p ty cs (h.2 p ty cs hp a b) a b⟩
theorem HrTo.rcv {lo g : Nat} {w w1 : World} {d : StrD} {now : Int} {out : List SegD} (h : HrTo lo g w w1 d now out) (v : Int) : HrTo lo g w (w1.setCell ⟨g, 3, none⟩ (.int .i64 v)) { d with rcv := v } now out := ⟨h.1.rcv v, fun p ty cs hp a b => h.1.1.far p ty cs (h.2 p ty cs hp a b) a b⟩
theorem HrTo.wait {lo g : Nat} {w w1 : World} {d : StrD} {now : Int} {out : List SegD} (h : HrTo lo g w w1 d now out) (v : ByteArray) : HrTo lo g w (w1.setCell ⟨g, 4, none⟩ (.string v)) { d with wait := v } now out := ⟨h.1.wait v, fun p ty cs hp a b => h.1.1.far p ty cs (h.2 p ty cs hp a b) a b⟩
theorem HrTo.sent {lo g : Nat} {w w1 : World} {d : StrD} {now : Int} {out : List SegD} (h : HrTo lo g w w1 d now out) (v : Int) : HrTo lo g w (w1.setCell ⟨g, 5, none⟩ (.int .i64 v)) { d with sent := v } now out := ⟨h.1.sent v, fun p ty cs hp a b => h.1.1.far p ty cs (h.2 p ty cs hp a b) a b⟩
theorem HrTo.fin {lo g : Nat} {w w1 : World} {d : StrD} {now : Int} {out : List SegD} (h : HrTo lo g w w1 d now out) (v : Int) : HrTo lo g w (w1.setCell ⟨g, 6, none⟩ (.int .i64 v)) { d with fin := v } now out := ⟨h.1.fin v, fun p ty cs hp a b => h.1.1.far p ty cs (h.2 p ty cs hp a b) a b⟩
theorem HrTo.pf {lo g : Nat} {w w1 : World} {d : StrD} {now : Int} {out : List SegD} (h : HrTo lo g w w1 d now out) (v : Bool) : HrTo lo g w (w1.setCell ⟨g, 7, none⟩ (.bool v)) { d with pf := v } now out := ⟨h.1.pf v, fun p ty cs hp a b => h.1.1.far p ty cs (h.2 p ty cs hp a b) a b⟩
theorem HrTo.inn {lo g : Nat} {w w1 : World} {d : StrD} {now : Int} {out : List SegD} (h : HrTo lo g w w1 d now out) (v : ByteArray) : HrTo lo g w (w1.setCell ⟨g, 8, none⟩ (.string v)) { d with inn := v } now out := ⟨h.1.inn v, fun p ty cs hp a b => h.1.1.far p ty cs (h.2 p ty cs hp a b) a b⟩
theorem HrTo.owe {lo g : Nat} {w w1 : World} {d : StrD} {now : Int} {out : List SegD} (h : HrTo lo g w w1 d now out) (v : Bool) : HrTo lo g w (w1.setCell ⟨g, 10, none⟩ (.bool v)) { d with owe := v } now out := ⟨h.1.owe v, fun p ty cs hp a b => h.1.1.far p ty cs (h.2 p ty cs hp a b) a b⟩
theorem HrTo.due {lo g : Nat} {w w1 : World} {d : StrD} {now : Int} {out : List SegD} (h : HrTo lo g w w1 d now out) (v : Int) : HrTo lo g w (w1.setCell ⟨g, 11, none⟩ (.int .i64 v)) { d with due := v } now out := ⟨h.1.due v, fun p ty cs hp a b => h.1.1.far p ty cs (h.2 p ty cs hp a b) a b⟩
theorem HrTo.times {lo g : Nat} {w w1 : World} {d : StrD} {now : Int} {out : List SegD} (h : HrTo lo g w w1 d now out) (v : Int) : HrTo lo g w (w1.setCell ⟨g, 12, none⟩ (.int .i64 v)) { d with times := v } now out := ⟨h.1.times v, fun p ty cs hp a b => h.1.1.far p ty cs (h.2 p ty cs hp a b) a b⟩
end Go.Proofs.Ytngcldjkpcmidaa
