/-
  Plain facts on the bytes of a number in sevens and on rows of bytes in memory; nothing of the program stands here.
  A block of memory of the call's own: its cells as a list; rows of elements of so many cells each.
  Session as data; rows of them in memory, one behind the other.
  Session that came in, read as data: one of them, and a row.
  A row of Session that came in, read as data.
  Item as data; rows of them in memory, one behind the other.
  Item that came in, read as data: one of them, and a row.
  A row of Item that came in, read as data.
  A keep that came in, read as data: its sessions and its items lie one behind the other.
  An element of a row of Session, written; a row that was just made.
  An element of a row of Item, written; a row that was just made.
  Rows of the call's own that grow: what stands behind an append.
  Rows of the call's own between two sizes of memory; blocks laid one behind the other.
  A number within bounds; nothing of the program stands here.
  Command as data; rows of them in memory, one behind the other.
  A command that is right; nothing of the program stands here.
  The first item of a Key; nothing of the program stands here.
  A keep that is right; nothing of the program stands here.
  Plain facts on figures; nothing of the program stands here.
  Plain facts on the values of figures; nothing of the program stands here.
  Plain facts on decimal figures; nothing of the program stands here.
  What a command does to a right keep; nothing of the program stands here.
  Facts on right keeps and on what a command does; nothing of the program stands here.
  Plain facts on reading a number in sevens; nothing of the program stands here.
  Plain facts: a number in sevens is read back; nothing of the program stands here.
  What a keep is as a text; nothing of the program stands here.
  What a command is as a text; nothing of the program stands here.
-/
import Derived.WalkKit
import Derived.RowKit
import Derived.WalkSmall
import Derived.BigQuiet
import Derived.Deep.LoopGhost
import Derived.Test.YtdgohbhffjinmaaDoorRows
import Derived.Deep.Strs
import Derived.ChangeSame
import Derived.OpenShut
import Derived.OwnWalk
import Derived.Laws.AppendOwn
import Derived.Sort.Walk0
namespace Go.Proofs.YtdgohbhffjinmaaDoor
open Go.RowKit

/-- the bytes of n, seven bits a byte, the least first (with so many steps at the most) -/
def vbF : Nat → Nat → List UInt8
  | 0, n => [UInt8.ofNat n]
  | f + 1, n => if n ≤ 127 then [UInt8.ofNat n] else UInt8.ofNat (n % 128 + 128) :: vbF f (n / 128)
/-- the bytes of n, seven bits a byte, the least first -/
def vb (n : Nat) : List UInt8 := vbF n n

theorem vbF_eq : ∀ (f g n : Nat), n ≤ f → n ≤ g → vbF f n = vbF g n
  | 0, 0, _, _, _ => rfl
  | 0, g + 1, n, h, _ => by
    obtain rfl : n = 0 := by omega
    rw [vbF, vbF, if_pos (by omega)]
  | f + 1, 0, n, _, h => by
    obtain rfl : n = 0 := by omega
    rw [vbF, vbF, if_pos (by omega)]
  | f + 1, g + 1, n, h1, h2 => by
    rw [vbF, vbF]
    by_cases h : n ≤ 127
    · rw [if_pos h, if_pos h]
    · rw [if_neg h, if_neg h, vbF_eq f g (n / 128) (by omega) (by omega)]
theorem vb_small {n : Nat} (h : n ≤ 127) : vb n = [UInt8.ofNat n] := by
  rw [vb, vbF_eq n (n + 1) n (Nat.le_refl _) (by omega), vbF, if_pos h]
theorem vb_big {n : Nat} (h : 127 < n) : vb n = UInt8.ofNat (n % 128 + 128) :: vb (n / 128) := by
  rw [vb, vbF_eq n (n + 1) n (Nat.le_refl _) (by omega), vbF, if_neg (by omega), vb, vbF_eq n (n / 128) (n / 128) (by omega) (Nat.le_refl _)]

theorem vb_pos (n : Nat) : 0 < (vb n).length := by
  by_cases h : n ≤ 127
  · rw [vb_small h]; simp
  · rw [vb_big (by omega)]; simp

theorem vb_le (n : Nat) : (vb n).length ≤ n + 1 := by
  induction n using Nat.strongRecOn with
  | _ n ih =>
    by_cases h : n ≤ 127
    · rw [vb_small h]; simp
    · rw [vb_big (by omega)]
      have := ih (n / 128) (by omega)
      simp only [List.length_cons]
      omega

/-- bytes as the cells of a row -/
def cs (l : List UInt8) : List Value := l.map fun b => Value.int .u8 (b.toNat : Int)

theorem cs_append (l r : List UInt8) : cs (l ++ r) = cs l ++ cs r := by simp [cs]
theorem cs_length (l : List UInt8) : (cs l).length = l.length := by simp [cs]
theorem cs_one {x : Int} (h0 : 0 ≤ x) (h1 : x ≤ 255) : [Value.int .u8 x] = cs [UInt8.ofNat x.toNat] := by
  simp [cs]
  omega

/-- a row that the call owns, turned into a text -/
theorem text_of_row {P : Program} {w : World} {base : Nat} {v : Value} {l : List UInt8} {src dst e : TypeId} (hs : P.underlying src = some (.slice e)) (he : P.underlying e = some (.int .u8)) (hd : P.underlying dst = some .string)
    (h : w.ownsRow base e 1 v l.length (cs l)) : (convert src dst v).run P w = .ok (.string ⟨l.toArray⟩) w := by
  obtain ⟨h1, h2⟩ := h
  rcases h2 with ⟨hv, hn⟩ | ⟨g, cap, cur, hv, hg, hh, hle, hm, hsz, hx⟩
  · have hl : l = [] := by cases l with | nil => rfl | cons a r => simp at hn
    subst hl hv
    exact run_convert_bytes_nil w src e hs he 0 0 dst hd
  · subst hv
    refine run_convert_bytes_back w src dst e ⟨g, 0, none⟩ cap l hs he hd fun j hj => ?_
    have hu : (cs l)[j]? = some (.int .u8 (l[j].toNat : Int)) := by simp [cs, hj]
    exact World.ownsRow.cells (w := w) (base := base) (e := e) (size := 1) ⟨h1, Or.inr ⟨g, cap, cur, rfl, hg, hh, hle, hm, hsz, hx⟩⟩ rfl j _ hu

/-- a piece of a text, its bounds as whole numbers -/
theorem slice_nat {P : Program} {t : TypeId} (h : P.underlying t = some .string) (s : ByteArray) (a b : Nat) (x y : Int) (hx : x = a) (hy : y = b) (hab : a ≤ b) (hb : b ≤ s.size) (w : World) :
    (Instr.slice t (.string s) (some (.int .i64 x)) (some (.int .i64 y)) none).run P w = .ok (.string (s.extract a b)) w := by
  subst hx hy
  rw [run_slice_string w t s .i64 .i64 a b h (by omega) (by omega) (by omega)]
  simp

theorem extract_eq (s : ByteArray) (a b : Nat) : (s.extract a b).data.toList = (s.data.toList.drop a).take (b - a) := by
  simp [ByteArray.extract, ByteArray.copySlice]

theorem var_step {n m : Nat} {acc : List UInt8} {w wr w1 : World} {v v' : Value} (hm : 127 < m) (hacc : acc ++ vb m = vb n) (hown : wr.ownsRow w.heap.size 5 1 v acc.length (cs acc))
    (hown' : w1.ownsRow w.heap.size 5 1 v' (acc.length + 1) (cs acc ++ [.int .u8 ((m : Int) % 128 + 128)])) (hgrow : (wr.alloc (.cells #[.int .u8 ((m : Int) % 128 + 128)] 5)).grownBy w1 v.ownBlock) (hb : Below w.heap.size w wr) :
    (acc ++ [UInt8.ofNat (m % 128 + 128)]) ++ vb (m / 128) = vb n ∧ w1.ownsRow w.heap.size 5 1 v' (acc ++ [UInt8.ofNat (m % 128 + 128)]).length (cs (acc ++ [UInt8.ofNat (m % 128 + 128)])) ∧ Below w.heap.size w w1 := by
  refine ⟨by rw [← hacc, vb_big hm]; simp, ?_, (hb.alloc hb.size _).grown hgrow (by have := hb.size; simp; omega) (fun k hk => (hown.lt k hk).1)⟩
  have e : [Value.int .u8 ((m : Int) % 128 + 128)] = cs [UInt8.ofNat (m % 128 + 128)] := by
    rw [cs_one (by omega) (by omega)]
    have : ((m : Int) % 128 + 128).toNat = m % 128 + 128 := by omega
    rw [this]
  rw [e, ← cs_append] at hown'
  simpa using hown'

theorem var_end {n m : Nat} {acc : List UInt8} {w wr w1 : World} {v v' : Value} (hm : m ≤ 127) (hacc : acc ++ vb m = vb n) (hown : wr.ownsRow w.heap.size 5 1 v acc.length (cs acc))
    (hown' : w1.ownsRow w.heap.size 5 1 v' (acc.length + 1) (cs acc ++ [.int .u8 (m : Int)])) (hgrow : (wr.alloc (.cells #[.int .u8 (m : Int)] 5)).grownBy w1 v.ownBlock) (hb : Below w.heap.size w wr) :
    w1.ownsRow w.heap.size 5 1 v' (vb n).length (cs (vb n)) ∧ Below w.heap.size w w1 := by
  refine ⟨?_, (hb.alloc hb.size _).grown hgrow (by have := hb.size; simp; omega) (fun k hk => (hown.lt k hk).1)⟩
  have e : [Value.int .u8 (m : Int)] = cs [UInt8.ofNat m] := by
    rw [cs_one (by omega) (by omega)]
    simp
  rw [e, ← cs_append, ← vb_small hm, hacc] at hown'
  have hl : acc.length + 1 = (vb n).length := by rw [← hacc, vb_small hm]; simp
  rw [hl] at hown'
  exact hown'

end Go.Proofs.YtdgohbhffjinmaaDoor

namespace Go.Proofs.YtdgohbhffjinmaaDoor
open Go.RowKit

/-- hidden from the walk -/
theorem hid {p : Prop} (h : p) : Hid p := h
theorem below_more {w w' : World} (h : Below w.heap.size w w') (o : Obj) : Below w.heap.size w (w'.alloc o) := h.alloc h.size o
theorem below_via {w w1 w2 : World} (h : Below w.heap.size w w1) (h2 : Below w1.heap.size w1 w2) : Below w.heap.size w w2 := h.trans (h2.mono h.size)

/-- block g holds just these cells, of elements of type t -/
def BlockIs (w : World) (g : Nat) (t : TypeId) (cs : List Value) : Prop := w.heap[g]? = some (.cells cs.toArray t (0, 0))

theorem BlockIs.lt {w : World} {g : Nat} {t : TypeId} {cs : List Value} (h : BlockIs w g t cs) : g < w.heap.size := by
  rcases Nat.lt_or_ge g w.heap.size with q | q
  · exact q
  · rw [BlockIs, Array.getElem?_eq_none q] at h; cases h
theorem BlockIs.cell {w : World} {g : Nat} {t : TypeId} {cs : List Value} (h : BlockIs w g t cs) {j : Nat} {v : Value} (hj : cs[j]? = some v) : w.cell? ⟨g, j, none⟩ = some v := by
  unfold BlockIs at h
  simp [World.cell?, h, hj]
theorem BlockIs.thaw {w : World} {g : Nat} {t : TypeId} {cs : List Value} (h : BlockIs w g t cs) (j : Nat) : w.frozen? ⟨g, j, none⟩ = false := by
  unfold BlockIs at h
  simp [World.frozen?, h]
theorem BlockIs.set {w : World} {g : Nat} {t : TypeId} {cs : List Value} (h : BlockIs w g t cs) (j : Nat) (v : Value) : BlockIs (w.setCell ⟨g, j, none⟩ v) g t (cs.set j v) := by
  unfold BlockIs at h ⊢
  simp only [World.setCell]
  rw [Array.getElem?_modify, if_pos rfl, h]
  simp [Array.setIfInBounds]
  exact fun hj => (List.set_eq_of_length_le hj).symm
theorem BlockIs.far {w : World} {g : Nat} {t : TypeId} {cs : List Value} (h : BlockIs w g t cs) {b j : Nat} (hb : b ≠ g) (v : Value) : BlockIs (w.setCell ⟨b, j, none⟩ v) g t cs := by
  unfold BlockIs at h ⊢
  simp only [World.setCell]
  rw [Array.getElem?_modify, if_neg hb]
  exact h
theorem BlockIs.on {w w' : World} {g : Nat} {t : TypeId} {cs : List Value} (h : BlockIs w g t cs) {B : Nat} (hb : Below B w w') (hg : g < B) : BlockIs w' g t cs := by
  unfold BlockIs
  rw [hb.block g hg]
  exact h
theorem BlockIs.made {w' : World} {g base : Nat} {t : TypeId} {n size : Nat} {xs : List Value} (h : w'.ownsRow base t size (.slice (some ⟨g, 0, none⟩) n n) n xs) : BlockIs w' g t xs := by
  obtain ⟨hx, (⟨h1, _⟩ | ⟨g', cap, cur, h1, _, hg, _, _, hs, ht⟩)⟩ := h
  · cases h1
  · cases h1
    unfold BlockIs
    rw [hg]
    have : cur.toList = xs := by rw [← ht, List.take_of_length_le (by simp [hs])]
    rw [← this]

/-- a cell of a row of elements of m cells each -/
theorem row_at {α : Type} (enc : α → List Value) (m : Nat) (hm : ∀ a, (enc a).length = m) (l : List α) (r : List Value) (j c : Nat) (hj : j < l.length) (hc : c < m) : (l.flatMap enc ++ r)[j * m + c]? = (enc l[j])[c]? := by
  induction l generalizing j with
  | nil => simp at hj
  | cons a l ih =>
    cases j with
    | zero =>
      simp only [List.flatMap_cons, Nat.zero_mul, Nat.zero_add, List.getElem_cons_zero, List.append_assoc]
      rw [List.getElem?_append_left (by rw [hm]; exact hc)]
    | succ j =>
      simp only [List.flatMap_cons, List.getElem_cons_succ, List.append_assoc]
      rw [List.getElem?_append_right (by rw [hm, Nat.succ_mul]; omega), hm, show (j + 1) * m + c - m = j * m + c by rw [Nat.succ_mul]; omega]
      exact ih j (by simpa using hj)
theorem row_length {α : Type} (enc : α → List Value) (m : Nat) (hm : ∀ a, (enc a).length = m) (l : List α) : (l.flatMap enc).length = l.length * m := by
  induction l with
  | nil => simp
  | cons a l ih => simp only [List.flatMap_cons, List.length_append, hm, ih, List.length_cons, Nat.succ_mul]; omega
/-- three cells of a list, written -/
theorem set_three (p : List Value) (a b c x y z : Value) (r : List Value) : (((p ++ x :: y :: z :: r).set p.length a).set (p.length + 1) b).set (p.length + 2) c = p ++ a :: b :: c :: r := by
  rw [List.set_append_right _ _ (Nat.le_refl _), List.set_append_right _ _ (by omega), List.set_append_right _ _ (by omega)]
  simp
end Go.Proofs.YtdgohbhffjinmaaDoor

namespace Go.Proofs.YtdgohbhffjinmaaDoor
open Go.RowKit

structure SessionD where
  token : Int
  last : Int
  reply : ByteArray
/-- numbers that are numbers, texts that are texts -/
def SessionD.Fits (e : SessionD) : Prop := (-9223372036854775808 ≤ e.token ∧ e.token ≤ 9223372036854775807) ∧ (-9223372036854775808 ≤ e.last ∧ e.last ≤ 9223372036854775807) ∧ e.reply.size ≤ maxLen
def sessionEnc (e : SessionD) : List Value := [.int .i64 e.token, .int .i64 e.last, .string e.reply]
/-- the cells of a row -/
def sessionCells (l : List SessionD) : List Value := l.flatMap sessionEnc
theorem sessionCells_length (l : List SessionD) : (sessionCells l).length = l.length * 3 := row_length sessionEnc 3 (fun _ => rfl) l
theorem sessionCells_take (l : List SessionD) (k : Nat) (h : k < l.length) : sessionCells (l.take (k + 1)) = sessionCells (l.take k) ++ sessionEnc l[k] := by
  rw [List.take_succ_eq_append_getElem h, sessionCells, sessionCells, List.flatMap_append]
  simp
/-- how many letters -/
def sessionOne (e : SessionD) : Int := (e.reply.size : Int)
theorem sessionOne_nonneg (e : SessionD) : 0 ≤ sessionOne e := by unfold sessionOne; omega
def sessionBulk : List SessionD → Int
  | [] => 0
  | f :: l => sessionOne f + sessionBulk l
theorem sessionBulk_nonneg (l : List SessionD) : 0 ≤ sessionBulk l := by
  induction l with
  | nil => exact Int.le_refl 0
  | cons f l ih => have := sessionOne_nonneg f; simp only [sessionBulk]; omega
theorem sessionBulk_take (l : List SessionD) (k : Nat) (h : k < l.length) : sessionBulk (l.take (k + 1)) = sessionBulk (l.take k) + sessionOne l[k] := by
  induction l generalizing k with
  | nil => simp at h
  | cons f l ih =>
    cases k with
    | zero => simp [sessionBulk]
    | succ k =>
      have := ih k (by simpa using h)
      simp only [List.take_succ_cons, sessionBulk, List.getElem_cons_succ] at this ⊢
      omega
theorem sessionBulk_le (l : List SessionD) (k : Nat) : sessionBulk (l.take k) ≤ sessionBulk l := by
  induction l generalizing k with
  | nil => simp [sessionBulk]
  | cons f l ih =>
    cases k with
    | zero => have := sessionBulk_nonneg (f :: l); simpa [sessionBulk] using this
    | succ k => have := ih k; simp only [List.take_succ_cons, sessionBulk]; omega
theorem session_le_bulk {l : List SessionD} {f : SessionD} (h : f ∈ l) : sessionOne f ≤ sessionBulk l := by
  induction l with
  | nil => cases h
  | cons g l ih =>
    simp only [sessionBulk]
    have := sessionBulk_nonneg l
    have := sessionOne_nonneg g
    rcases List.mem_cons.1 h with e | e
    · subst e; omega
    · have := ih e; omega
/-- few and short -/
def SessionsSmall (l : List SessionD) : Prop := l.length ≤ 1048576 ∧ ∀ f ∈ l, sessionOne f ≤ 1048576
theorem sessionsSmall {l : List SessionD} (h : 0 ≤ (1048576 : Int) - l.length - sessionBulk l) : SessionsSmall l := by
  have := sessionBulk_nonneg l
  exact ⟨by omega, fun f hf => by have := session_le_bulk hf; omega⟩
/-- they lie at an address, one behind the other -/
def SessionsAt (w : World) (ao : Option Addr) (l : List SessionD) : Prop :=
  l ≠ [] → ∃ b off, ao = some ⟨b, off, none⟩ ∧ ∀ j (hj : j < l.length), w.cell? ⟨b, off + j * 3, none⟩ = some (.int .i64 l[j].token) ∧ w.cell? ⟨b, off + j * 3 + 1, none⟩ = some (.int .i64 l[j].last) ∧ w.cell? ⟨b, off + j * 3 + 2, none⟩ = some (.string l[j].reply)
theorem sessionsAt_of {w : World} {g : Nat} {t : TypeId} {l : List SessionD} {r : List Value} (h : BlockIs w g t (sessionCells l ++ r)) : SessionsAt w (some ⟨g, 0, none⟩) l := by
  intro _
  refine ⟨g, 0, rfl, fun j hj => ?_⟩
  rw [Nat.zero_add]
  exact ⟨h.cell (row_at sessionEnc 3 (fun _ => rfl) l r j 0 hj (by omega)), h.cell (row_at sessionEnc 3 (fun _ => rfl) l r j 1 hj (by omega)), h.cell (row_at sessionEnc 3 (fun _ => rfl) l r j 2 hj (by omega))⟩
def SessionsFit (l : List SessionD) : Prop := ∀ j (hj : j < l.length), l[j].Fits
theorem SessionsAt.on {w w' : World} {ao : Option Addr} {l : List SessionD} (h : SessionsAt w ao l) (hb : Below w.heap.size w w') : SessionsAt w' ao l := by
  intro h0
  obtain ⟨b, off, e1, e2⟩ := h h0
  refine ⟨b, off, e1, fun j hj => ?_⟩
  obtain ⟨x0, x1, x2⟩ := e2 j hj
  exact ⟨(hb.cell (p := ⟨b, off + j * 3, none⟩) (World.block_lt_of_cell? w _ x0)).trans x0, (hb.cell (p := ⟨b, off + j * 3 + 1, none⟩) (World.block_lt_of_cell? w _ x1)).trans x1, (hb.cell (p := ⟨b, off + j * 3 + 2, none⟩) (World.block_lt_of_cell? w _ x2)).trans x2⟩
/-- cells of a list, written -/
theorem session_sets (p : List Value) (a0 a1 a2 o0 o1 o2 : Value) (r : List Value) : (((p ++ o0 :: o1 :: o2 :: r).set (p.length) a0).set (p.length + 1) a1).set (p.length + 2) a2 = p ++ a0 :: a1 :: a2 :: r := by
  rw [List.set_append_right _ _ (Nat.le_refl _), List.set_append_right _ _ (by omega), List.set_append_right _ _ (by omega)]
  simp
theorem session_set_other {cs : List Value} {i j : Nat} {v u : Value} (h : cs[j]? = some u) (hij : i ≠ j) : (cs.set i v)[j]? = some u := by
  rw [List.getElem?_set_ne hij]; exact h
end Go.Proofs.YtdgohbhffjinmaaDoor

namespace Go.Proofs.YtdgohbhffjinmaaDoor
open Go.ChangeShapes Go.WideShapes Go.RowKit Go.Deep

set_option maxRecDepth 1000000 in
theorem session_cellsE : Tryd.prog.cellsOf 85 = 3 := by kernel_rfl
set_option maxRecDepth 1000000 in
theorem session_cells9 : Tryd.prog.cellsOf 9 = 1 := by kernel_rfl
set_option maxRecDepth 1000000 in
theorem session_cells3 : Tryd.prog.cellsOf 3 = 1 := by kernel_rfl
set_option maxRecDepth 1000000 in
theorem session_fields {H : Type} {enc : TypeId × Value → H} {P : Program} {W : World} {base : Nat} {sp : Nat → Bool} {held : Bool} {fuel : Nat} {t : TypeId} {f0 f1 f2 : Field} {cs : List Value} {x : DataW H × List MemPlace} (ht : P.underlying t = some (.struct #[f0, f1, f2])) (h : DataW.trod enc P W base sp held fuel t cs = some x) :
    ∃ y0 y1 y2 n, cs.length = P.cellsOf t ∧ DataW.trod enc P W base sp held n f0.type ((cs.drop f0.offset).take (P.cellsOf f0.type)) = some y0 ∧ DataW.trod enc P W base sp held n f1.type ((cs.drop f1.offset).take (P.cellsOf f1.type)) = some y1 ∧ DataW.trod enc P W base sp held n f2.type ((cs.drop f2.offset).take (P.cellsOf f2.type)) = some y2 := by
  obtain ⟨xs, n, _, _, hl, hlen, hf⟩ := DataW.trod_struct ht h
  match xs, hlen with
  | [y0, y1, y2], _ => exact ⟨y0, y1, y2, n, hl, by simpa using hf 0 f0 rfl, by simpa using hf 1 f1 rfl, by simpa using hf 2 f2 rfl⟩

set_option maxRecDepth 1000000 in
theorem open_sessionCells {H : Type} {enc : TypeId × Value → H} {W : World} {base : Nat} {sp : Nat → Bool} {held : Bool} {fuel : Nat} {cs : List Value} {x : DataW H × List MemPlace} (h : DataW.trod enc Tryd.prog W base sp held fuel 85 cs = some x) :
    ∃ e : SessionD, cs = sessionEnc e ∧ e.Fits := by
  obtain ⟨y0, y1, y2, n, hl, h0, h1, h2⟩ := session_fields Tryd.underlying85 h
  rw [session_cellsE] at hl
  match cs, hl with
  | [c0, c1, c2], _ =>
    simp only [session_cells3, session_cells9] at h0 h1 h2
    obtain ⟨k0, e0, _, s0⟩ := DataW.trod_int Tryd.underlying3 h0
    obtain ⟨k1, e1, _, s1⟩ := DataW.trod_int Tryd.underlying3 h1
    obtain ⟨k2, e2, _, s2⟩ := DataW.trod_string Tryd.underlying9 h2
    simp at e0 e1 e2
    subst e0 e1 e2
    exact ⟨⟨k0, k1, k2⟩, rfl, bounds_i64 s0, bounds_i64 s1, s2⟩

set_option maxRecDepth 1000000 in
/-- one of them as a parameter -/
theorem open_session {H : Type} {enc : TypeId × Value → H} {W : World} {r : Reach} {b0 base : Nat} {sp : Nat → Bool} {held : Bool} {v : Value} {d : DataW H} {ps : List MemPlace} (hval : Value.okWide Tryd.prog W r b0 85 v) (hd : DataW.Trod enc Tryd.prog W base sp held 85 v d ps) :
    ∃ e : SessionD, v = .agg #[.int .i64 e.token, .int .i64 e.last, .string e.reply] ∧ e.Fits := by
  obtain ⟨cs, rfl, _⟩ := okWide_struct Tryd.underlying85 hval
  obtain ⟨fuel, hf⟩ := hd
  obtain ⟨a, e, r⟩ := open_sessionCells hf
  refine ⟨a, ?_, r⟩
  obtain ⟨c⟩ := cs
  have e' : c = sessionEnc a := by simpa [Value.cells] using e
  rw [e']
  rfl
end Go.Proofs.YtdgohbhffjinmaaDoor

namespace Go.Proofs.YtdgohbhffjinmaaDoor
open Go.ChangeShapes Go.WideShapes Go.RowKit Go.Deep

set_option maxRecDepth 1000000 in
theorem session_cellsS : Tryd.prog.cellsOf 30 = 1 := by kernel_rfl
set_option maxRecDepth 1000000 in
theorem open_sessionRow {H : Type} {enc : TypeId × Value → H} {W : World} {base : Nat} {sp : Nat → Bool} {held : Bool} {fuel : Nat} {cs : List Value} {x : DataW H × List MemPlace} (h : DataW.trod enc Tryd.prog W base sp held fuel 30 cs = some x) :
    ∃ ao l cap, cs = [.slice ao l.length cap] ∧ l.length ≤ cap ∧ cap ≤ maxLen ∧ SessionsAt W ao l ∧ SessionsFit l := by
  rcases open_slice Tryd.underlying30 h with ⟨rfl, _⟩ | ⟨a, len, cap, m, n, D, Pl, rfl, hb, hl, hm, hmm, _, hx⟩
  · exact ⟨none, [], 0, rfl, Nat.le_refl _, by unfold maxLen; omega, fun h => absurd rfl h, fun j hj => by simp at hj⟩
  · have hlm : len ≤ m := by rw [hmm]; split <;> omega
    have each : ∀ i, i < len → ∃ f : SessionD, (W.cells? base (a.add (i * 3)) 3 = some (sessionEnc f)) ∧ f.Fits := fun i hi => by
      obtain ⟨cs', e1, e2⟩ := hx i (by omega)
      rw [session_cellsE] at e1
      obtain ⟨f, rfl, r⟩ := open_sessionCells e2
      exact ⟨f, e1, r⟩
    have hin : Inhabited SessionD := ⟨⟨0, 0, ByteArray.empty⟩⟩
    obtain ⟨F, hF⟩ := choose_lt each
    have hll : ((List.range len).map F).length = len := by simp
    refine ⟨some a, (List.range len).map F, cap, by rw [hll], by rw [hll]; exact hl, hm, ?_, ?_⟩
    · intro hne
      have hp : 0 < len := by
        rcases Nat.eq_zero_or_pos len with e | e
        · subst e; exact absurd rfl hne
        · exact e
      obtain ⟨b, off, spot⟩ := a
      have hc : ∀ i c, i < len → c < 3 → W.cell? ((Addr.add ⟨b, off, spot⟩ (i * 3)).add c) = (sessionEnc (F i))[c]? := fun i c hi hc => (World.cells?_some (hF i hi).1).2.2 c hc
      have hspot : spot = none := by
        have := hc 0 0 hp (by omega)
        simpa [Addr.add] using World.cell?_spot this
      subst hspot
      refine ⟨b, off, rfl, fun j hj => ?_⟩
      simp only [List.getElem_map, List.getElem_range]
      have hj' : j < len := by omega
      have h0 := hc j 0 hj' (by omega)
      have h1 := hc j 1 hj' (by omega)
      have h2 := hc j 2 hj' (by omega)
      rw [add_plain, add_plain] at h0 h1 h2
      exact ⟨h0, h1, h2⟩
    · intro j hj
      simp only [List.getElem_map, List.getElem_range]
      exact (hF j (by omega)).2

set_option maxRecDepth 1000000 in
/-- a row as a parameter -/
theorem open_sessionS {H : Type} {enc : TypeId × Value → H} {W : World} {r : Reach} {b0 base : Nat} {sp : Nat → Bool} {held : Bool} {v : Value} {d : DataW H} {ps : List MemPlace} (hval : Value.okWide Tryd.prog W r b0 30 v) (hd : DataW.Trod enc Tryd.prog W base sp held 30 v d ps) :
    ∃ ao l cap, v = .slice ao l.length cap ∧ l.length ≤ cap ∧ cap ≤ maxLen ∧ SessionsAt W ao l ∧ SessionsFit l := by
  obtain ⟨a, l, c, rfl⟩ := okWide_slice Tryd.underlying30 hval
  obtain ⟨fuel, hf⟩ := hd
  obtain ⟨ao, l, cap, e, r⟩ := open_sessionRow hf
  simp [Value.cells] at e
  obtain ⟨rfl, rfl, rfl⟩ := e
  exact ⟨_, _, _, rfl, r⟩
end Go.Proofs.YtdgohbhffjinmaaDoor

namespace Go.Proofs.YtdgohbhffjinmaaDoor
open Go.RowKit

structure ItemD where
  key : ByteArray
  val : ByteArray
  ver : Int
/-- numbers that are numbers, texts that are texts -/
def ItemD.Fits (e : ItemD) : Prop := e.key.size ≤ maxLen ∧ e.val.size ≤ maxLen ∧ (-9223372036854775808 ≤ e.ver ∧ e.ver ≤ 9223372036854775807)
def itemEnc (e : ItemD) : List Value := [.string e.key, .string e.val, .int .i64 e.ver]
/-- the cells of a row -/
def itemCells (l : List ItemD) : List Value := l.flatMap itemEnc
theorem itemCells_length (l : List ItemD) : (itemCells l).length = l.length * 3 := row_length itemEnc 3 (fun _ => rfl) l
theorem itemCells_take (l : List ItemD) (k : Nat) (h : k < l.length) : itemCells (l.take (k + 1)) = itemCells (l.take k) ++ itemEnc l[k] := by
  rw [List.take_succ_eq_append_getElem h, itemCells, itemCells, List.flatMap_append]
  simp
/-- how many letters -/
def itemOne (e : ItemD) : Int := (e.key.size : Int) + (e.val.size : Int)
theorem itemOne_nonneg (e : ItemD) : 0 ≤ itemOne e := by unfold itemOne; omega
def itemBulk : List ItemD → Int
  | [] => 0
  | f :: l => itemOne f + itemBulk l
theorem itemBulk_nonneg (l : List ItemD) : 0 ≤ itemBulk l := by
  induction l with
  | nil => exact Int.le_refl 0
  | cons f l ih => have := itemOne_nonneg f; simp only [itemBulk]; omega
theorem itemBulk_take (l : List ItemD) (k : Nat) (h : k < l.length) : itemBulk (l.take (k + 1)) = itemBulk (l.take k) + itemOne l[k] := by
  induction l generalizing k with
  | nil => simp at h
  | cons f l ih =>
    cases k with
    | zero => simp [itemBulk]
    | succ k =>
      have := ih k (by simpa using h)
      simp only [List.take_succ_cons, itemBulk, List.getElem_cons_succ] at this ⊢
      omega
theorem itemBulk_le (l : List ItemD) (k : Nat) : itemBulk (l.take k) ≤ itemBulk l := by
  induction l generalizing k with
  | nil => simp [itemBulk]
  | cons f l ih =>
    cases k with
    | zero => have := itemBulk_nonneg (f :: l); simpa [itemBulk] using this
    | succ k => have := ih k; simp only [List.take_succ_cons, itemBulk]; omega
theorem item_le_bulk {l : List ItemD} {f : ItemD} (h : f ∈ l) : itemOne f ≤ itemBulk l := by
  induction l with
  | nil => cases h
  | cons g l ih =>
    simp only [itemBulk]
    have := itemBulk_nonneg l
    have := itemOne_nonneg g
    rcases List.mem_cons.1 h with e | e
    · subst e; omega
    · have := ih e; omega
/-- few and short -/
def ItemsSmall (l : List ItemD) : Prop := l.length ≤ 1048576 ∧ ∀ f ∈ l, itemOne f ≤ 1048576
theorem itemsSmall {l : List ItemD} (h : 0 ≤ (1048576 : Int) - l.length - itemBulk l) : ItemsSmall l := by
  have := itemBulk_nonneg l
  exact ⟨by omega, fun f hf => by have := item_le_bulk hf; omega⟩
/-- they lie at an address, one behind the other -/
def ItemsAt (w : World) (ao : Option Addr) (l : List ItemD) : Prop :=
  l ≠ [] → ∃ b off, ao = some ⟨b, off, none⟩ ∧ ∀ j (hj : j < l.length), w.cell? ⟨b, off + j * 3, none⟩ = some (.string l[j].key) ∧ w.cell? ⟨b, off + j * 3 + 1, none⟩ = some (.string l[j].val) ∧ w.cell? ⟨b, off + j * 3 + 2, none⟩ = some (.int .i64 l[j].ver)
theorem itemsAt_of {w : World} {g : Nat} {t : TypeId} {l : List ItemD} {r : List Value} (h : BlockIs w g t (itemCells l ++ r)) : ItemsAt w (some ⟨g, 0, none⟩) l := by
  intro _
  refine ⟨g, 0, rfl, fun j hj => ?_⟩
  rw [Nat.zero_add]
  exact ⟨h.cell (row_at itemEnc 3 (fun _ => rfl) l r j 0 hj (by omega)), h.cell (row_at itemEnc 3 (fun _ => rfl) l r j 1 hj (by omega)), h.cell (row_at itemEnc 3 (fun _ => rfl) l r j 2 hj (by omega))⟩
def ItemsFit (l : List ItemD) : Prop := ∀ j (hj : j < l.length), l[j].Fits
theorem ItemsAt.on {w w' : World} {ao : Option Addr} {l : List ItemD} (h : ItemsAt w ao l) (hb : Below w.heap.size w w') : ItemsAt w' ao l := by
  intro h0
  obtain ⟨b, off, e1, e2⟩ := h h0
  refine ⟨b, off, e1, fun j hj => ?_⟩
  obtain ⟨x0, x1, x2⟩ := e2 j hj
  exact ⟨(hb.cell (p := ⟨b, off + j * 3, none⟩) (World.block_lt_of_cell? w _ x0)).trans x0, (hb.cell (p := ⟨b, off + j * 3 + 1, none⟩) (World.block_lt_of_cell? w _ x1)).trans x1, (hb.cell (p := ⟨b, off + j * 3 + 2, none⟩) (World.block_lt_of_cell? w _ x2)).trans x2⟩
/-- cells of a list, written -/
theorem item_sets (p : List Value) (a0 a1 a2 o0 o1 o2 : Value) (r : List Value) : (((p ++ o0 :: o1 :: o2 :: r).set (p.length) a0).set (p.length + 1) a1).set (p.length + 2) a2 = p ++ a0 :: a1 :: a2 :: r := by
  rw [List.set_append_right _ _ (Nat.le_refl _), List.set_append_right _ _ (by omega), List.set_append_right _ _ (by omega)]
  simp
theorem item_set_other {cs : List Value} {i j : Nat} {v u : Value} (h : cs[j]? = some u) (hij : i ≠ j) : (cs.set i v)[j]? = some u := by
  rw [List.getElem?_set_ne hij]; exact h
end Go.Proofs.YtdgohbhffjinmaaDoor

namespace Go.Proofs.YtdgohbhffjinmaaDoor
open Go.ChangeShapes Go.WideShapes Go.RowKit Go.Deep

set_option maxRecDepth 1000000 in
theorem item_cellsE : Tryd.prog.cellsOf 87 = 3 := by kernel_rfl
set_option maxRecDepth 1000000 in
theorem item_cells9 : Tryd.prog.cellsOf 9 = 1 := by kernel_rfl
set_option maxRecDepth 1000000 in
theorem item_cells3 : Tryd.prog.cellsOf 3 = 1 := by kernel_rfl
set_option maxRecDepth 1000000 in
theorem item_fields {H : Type} {enc : TypeId × Value → H} {P : Program} {W : World} {base : Nat} {sp : Nat → Bool} {held : Bool} {fuel : Nat} {t : TypeId} {f0 f1 f2 : Field} {cs : List Value} {x : DataW H × List MemPlace} (ht : P.underlying t = some (.struct #[f0, f1, f2])) (h : DataW.trod enc P W base sp held fuel t cs = some x) :
    ∃ y0 y1 y2 n, cs.length = P.cellsOf t ∧ DataW.trod enc P W base sp held n f0.type ((cs.drop f0.offset).take (P.cellsOf f0.type)) = some y0 ∧ DataW.trod enc P W base sp held n f1.type ((cs.drop f1.offset).take (P.cellsOf f1.type)) = some y1 ∧ DataW.trod enc P W base sp held n f2.type ((cs.drop f2.offset).take (P.cellsOf f2.type)) = some y2 := by
  obtain ⟨xs, n, _, _, hl, hlen, hf⟩ := DataW.trod_struct ht h
  match xs, hlen with
  | [y0, y1, y2], _ => exact ⟨y0, y1, y2, n, hl, by simpa using hf 0 f0 rfl, by simpa using hf 1 f1 rfl, by simpa using hf 2 f2 rfl⟩

set_option maxRecDepth 1000000 in
theorem open_itemCells {H : Type} {enc : TypeId × Value → H} {W : World} {base : Nat} {sp : Nat → Bool} {held : Bool} {fuel : Nat} {cs : List Value} {x : DataW H × List MemPlace} (h : DataW.trod enc Tryd.prog W base sp held fuel 87 cs = some x) :
    ∃ e : ItemD, cs = itemEnc e ∧ e.Fits := by
  obtain ⟨y0, y1, y2, n, hl, h0, h1, h2⟩ := item_fields Tryd.underlying87 h
  rw [item_cellsE] at hl
  match cs, hl with
  | [c0, c1, c2], _ =>
    simp only [item_cells3, item_cells9] at h0 h1 h2
    obtain ⟨k0, e0, _, s0⟩ := DataW.trod_string Tryd.underlying9 h0
    obtain ⟨k1, e1, _, s1⟩ := DataW.trod_string Tryd.underlying9 h1
    obtain ⟨k2, e2, _, s2⟩ := DataW.trod_int Tryd.underlying3 h2
    simp at e0 e1 e2
    subst e0 e1 e2
    exact ⟨⟨k0, k1, k2⟩, rfl, s0, s1, bounds_i64 s2⟩

set_option maxRecDepth 1000000 in
/-- one of them as a parameter -/
theorem open_item {H : Type} {enc : TypeId × Value → H} {W : World} {r : Reach} {b0 base : Nat} {sp : Nat → Bool} {held : Bool} {v : Value} {d : DataW H} {ps : List MemPlace} (hval : Value.okWide Tryd.prog W r b0 87 v) (hd : DataW.Trod enc Tryd.prog W base sp held 87 v d ps) :
    ∃ e : ItemD, v = .agg #[.string e.key, .string e.val, .int .i64 e.ver] ∧ e.Fits := by
  obtain ⟨cs, rfl, _⟩ := okWide_struct Tryd.underlying87 hval
  obtain ⟨fuel, hf⟩ := hd
  obtain ⟨a, e, r⟩ := open_itemCells hf
  refine ⟨a, ?_, r⟩
  obtain ⟨c⟩ := cs
  have e' : c = itemEnc a := by simpa [Value.cells] using e
  rw [e']
  rfl
end Go.Proofs.YtdgohbhffjinmaaDoor

namespace Go.Proofs.YtdgohbhffjinmaaDoor
open Go.ChangeShapes Go.WideShapes Go.RowKit Go.Deep

set_option maxRecDepth 1000000 in
theorem item_cellsS : Tryd.prog.cellsOf 31 = 1 := by kernel_rfl
set_option maxRecDepth 1000000 in
theorem open_itemRow {H : Type} {enc : TypeId × Value → H} {W : World} {base : Nat} {sp : Nat → Bool} {held : Bool} {fuel : Nat} {cs : List Value} {x : DataW H × List MemPlace} (h : DataW.trod enc Tryd.prog W base sp held fuel 31 cs = some x) :
    ∃ ao l cap, cs = [.slice ao l.length cap] ∧ l.length ≤ cap ∧ cap ≤ maxLen ∧ ItemsAt W ao l ∧ ItemsFit l := by
  rcases open_slice Tryd.underlying31 h with ⟨rfl, _⟩ | ⟨a, len, cap, m, n, D, Pl, rfl, hb, hl, hm, hmm, _, hx⟩
  · exact ⟨none, [], 0, rfl, Nat.le_refl _, by unfold maxLen; omega, fun h => absurd rfl h, fun j hj => by simp at hj⟩
  · have hlm : len ≤ m := by rw [hmm]; split <;> omega
    have each : ∀ i, i < len → ∃ f : ItemD, (W.cells? base (a.add (i * 3)) 3 = some (itemEnc f)) ∧ f.Fits := fun i hi => by
      obtain ⟨cs', e1, e2⟩ := hx i (by omega)
      rw [item_cellsE] at e1
      obtain ⟨f, rfl, r⟩ := open_itemCells e2
      exact ⟨f, e1, r⟩
    have hin : Inhabited ItemD := ⟨⟨ByteArray.empty, ByteArray.empty, 0⟩⟩
    obtain ⟨F, hF⟩ := choose_lt each
    have hll : ((List.range len).map F).length = len := by simp
    refine ⟨some a, (List.range len).map F, cap, by rw [hll], by rw [hll]; exact hl, hm, ?_, ?_⟩
    · intro hne
      have hp : 0 < len := by
        rcases Nat.eq_zero_or_pos len with e | e
        · subst e; exact absurd rfl hne
        · exact e
      obtain ⟨b, off, spot⟩ := a
      have hc : ∀ i c, i < len → c < 3 → W.cell? ((Addr.add ⟨b, off, spot⟩ (i * 3)).add c) = (itemEnc (F i))[c]? := fun i c hi hc => (World.cells?_some (hF i hi).1).2.2 c hc
      have hspot : spot = none := by
        have := hc 0 0 hp (by omega)
        simpa [Addr.add] using World.cell?_spot this
      subst hspot
      refine ⟨b, off, rfl, fun j hj => ?_⟩
      simp only [List.getElem_map, List.getElem_range]
      have hj' : j < len := by omega
      have h0 := hc j 0 hj' (by omega)
      have h1 := hc j 1 hj' (by omega)
      have h2 := hc j 2 hj' (by omega)
      rw [add_plain, add_plain] at h0 h1 h2
      exact ⟨h0, h1, h2⟩
    · intro j hj
      simp only [List.getElem_map, List.getElem_range]
      exact (hF j (by omega)).2

set_option maxRecDepth 1000000 in
/-- a row as a parameter -/
theorem open_itemS {H : Type} {enc : TypeId × Value → H} {W : World} {r : Reach} {b0 base : Nat} {sp : Nat → Bool} {held : Bool} {v : Value} {d : DataW H} {ps : List MemPlace} (hval : Value.okWide Tryd.prog W r b0 31 v) (hd : DataW.Trod enc Tryd.prog W base sp held 31 v d ps) :
    ∃ ao l cap, v = .slice ao l.length cap ∧ l.length ≤ cap ∧ cap ≤ maxLen ∧ ItemsAt W ao l ∧ ItemsFit l := by
  obtain ⟨a, l, c, rfl⟩ := okWide_slice Tryd.underlying31 hval
  obtain ⟨fuel, hf⟩ := hd
  obtain ⟨ao, l, cap, e, r⟩ := open_itemRow hf
  simp [Value.cells] at e
  obtain ⟨rfl, rfl, rfl⟩ := e
  exact ⟨_, _, _, rfl, r⟩
end Go.Proofs.YtdgohbhffjinmaaDoor

namespace Go.Proofs.YtdgohbhffjinmaaDoor
open Go.ChangeShapes Go.WideShapes Go.RowKit Go.Deep

set_option maxRecDepth 1000000 in
theorem keep_cells1 : Tryd.prog.cellsOf 33 = 2 := by kernel_rfl
set_option maxRecDepth 1000000 in
theorem keep_fields {H : Type} {enc : TypeId × Value → H} {P : Program} {W : World} {base : Nat} {sp : Nat → Bool} {held : Bool} {fuel : Nat} {t : TypeId} {f0 f1 : Field} {cs : List Value} {x : DataW H × List MemPlace} (ht : P.underlying t = some (.struct #[f0, f1])) (h : DataW.trod enc P W base sp held fuel t cs = some x) :
    ∃ y0 y1 n, cs.length = P.cellsOf t ∧ DataW.trod enc P W base sp held n f0.type ((cs.drop f0.offset).take (P.cellsOf f0.type)) = some y0 ∧ DataW.trod enc P W base sp held n f1.type ((cs.drop f1.offset).take (P.cellsOf f1.type)) = some y1 := by
  obtain ⟨xs, n, _, _, hl, hlen, hf⟩ := DataW.trod_struct ht h
  match xs, hlen with
  | [y0, y1], _ => exact ⟨y0, y1, n, hl, by simpa using hf 0 f0 rfl, by simpa using hf 1 f1 rfl⟩

set_option maxRecDepth 1000000 in
/-- a keep as a parameter -/
theorem open_keep {H : Type} {enc : TypeId × Value → H} {W : World} {r : Reach} {b0 base : Nat} {sp : Nat → Bool} {held : Bool} {v : Value} {d : DataW H} {ps : List MemPlace} (hval : Value.okWide Tryd.prog W r b0 33 v) (hd : DataW.Trod enc Tryd.prog W base sp held 33 v d ps) :
    ∃ ao ls ac bo li bc, v = .agg #[.slice ao (List.length ls) ac, .slice bo (List.length li) bc] ∧ (ls.length ≤ ac ∧ ac ≤ maxLen ∧ SessionsAt W ao ls ∧ SessionsFit ls) ∧ (li.length ≤ bc ∧ bc ≤ maxLen ∧ ItemsAt W bo li ∧ ItemsFit li) := by
  obtain ⟨cs, rfl, _⟩ := okWide_struct Tryd.underlying33 hval
  obtain ⟨fuel, hf⟩ := hd
  obtain ⟨y0, y1, n, hl, h0, h1⟩ := keep_fields Tryd.underlying33 hf
  rw [keep_cells1] at hl
  obtain ⟨c⟩ := cs
  have hl' : c.length = 2 := by simpa [Value.cells] using hl
  match c, hl' with
  | [x0, x1], _ =>
    simp only [Value.cells, session_cellsS, item_cellsS] at h0 h1
    obtain ⟨ao, ls, ac, e0, r0⟩ := open_sessionRow h0
    obtain ⟨bo, li, bc, e1, r1⟩ := open_itemRow h1
    simp at e0 e1
    subst e0 e1
    exact ⟨ao, ls, ac, bo, li, bc, rfl, r0, r1⟩
end Go.Proofs.YtdgohbhffjinmaaDoor

namespace Go.Proofs.YtdgohbhffjinmaaDoor
open Go.RowKit

theorem toSession_info : (Tryd.prog.info? 64).map (fun i => (i.zero, i.size, i.bytes)) = some (some (.agg #[.int .i64 0, .int .i64 0, .string ByteArray.empty]), 3, 32) := by kernel_rfl
/-- an element's cells are written -/
theorem put_session {w w2 : World} {g k : Nat} {t : TypeId} {l : List SessionD} {r : List Value} (hk : k < l.length) (h : BlockIs w g t (sessionCells (l.take k) ++ r)) (hr : r.length = (l.length - k) * 3) {B : Nat} (hb : Below B w w2) (hg : g < B) :
    (∃ o0 o1 o2, w2.cell? ⟨g, k * 3, none⟩ = some o0 ∧ w2.cell? ⟨g, k * 3 + 1, none⟩ = some o1 ∧ w2.cell? ⟨g, k * 3 + 2, none⟩ = some o2) ∧ (∀ j, w2.frozen? ⟨g, j, none⟩ = false) ∧
    ∃ r', r'.length = (l.length - (k + 1)) * 3 ∧ BlockIs (((w2.setCell ⟨g, k * 3, none⟩ (.int .i64 l[k].token)).setCell ⟨g, k * 3 + 1, none⟩ (.int .i64 l[k].last)).setCell ⟨g, k * 3 + 2, none⟩ (.string l[k].reply)) g t (sessionCells (l.take (k + 1)) ++ r') := by
  have h2 := h.on hb hg
  have hlen : (sessionCells (l.take k)).length = k * 3 := by rw [sessionCells_length, List.length_take]; omega
  match r, hr with
  | z0 :: z1 :: z2 :: r', hr =>
    have hs := ((h2.set (k * 3) (.int .i64 l[k].token)).set (k * 3 + 1) (.int .i64 l[k].last)).set (k * 3 + 2) (.string l[k].reply)
    have e3 := session_sets (sessionCells (l.take k)) (.int .i64 l[k].token) (.int .i64 l[k].last) (.string l[k].reply) z0 z1 z2 r'
    rw [hlen] at e3
    rw [e3] at hs
    refine ⟨⟨z0, z1, z2, h2.cell ?_, h2.cell ?_, h2.cell ?_⟩, fun j => h2.thaw j, r', ?_, ?_⟩
    · rw [List.getElem?_append_right (by omega), hlen, Nat.sub_self]; rfl
    · rw [List.getElem?_append_right (by omega), hlen, show k * 3 + 1 - k * 3 = 1 by omega]; rfl
    · rw [List.getElem?_append_right (by omega), hlen, show k * 3 + 2 - k * 3 = 2 by omega]; rfl
    · simp at hr; omega
    · rw [sessionCells_take l k hk, List.append_assoc]
      exact hs
  | [], hr => simp at hr; omega
  | [_], hr => simp at hr; omega
  | [_, _], hr => simp at hr; omega

theorem made_session (n : Nat) : (madeCells (Value.agg #[.int .i64 0, .int .i64 0, .string ByteArray.empty]).cells (n * 3)).toList.length = n * 3 := by
  simp [madeCells]
end Go.Proofs.YtdgohbhffjinmaaDoor

namespace Go.Proofs.YtdgohbhffjinmaaDoor
open Go.RowKit

theorem toItem_info : (Tryd.prog.info? 66).map (fun i => (i.zero, i.size, i.bytes)) = some (some (.agg #[.string ByteArray.empty, .string ByteArray.empty, .int .i64 0]), 3, 40) := by kernel_rfl
/-- an element's cells are written -/
theorem put_item {w w2 : World} {g k : Nat} {t : TypeId} {l : List ItemD} {r : List Value} (hk : k < l.length) (h : BlockIs w g t (itemCells (l.take k) ++ r)) (hr : r.length = (l.length - k) * 3) {B : Nat} (hb : Below B w w2) (hg : g < B) :
    (∃ o0 o1 o2, w2.cell? ⟨g, k * 3, none⟩ = some o0 ∧ w2.cell? ⟨g, k * 3 + 1, none⟩ = some o1 ∧ w2.cell? ⟨g, k * 3 + 2, none⟩ = some o2) ∧ (∀ j, w2.frozen? ⟨g, j, none⟩ = false) ∧
    ∃ r', r'.length = (l.length - (k + 1)) * 3 ∧ BlockIs (((w2.setCell ⟨g, k * 3, none⟩ (.string l[k].key)).setCell ⟨g, k * 3 + 1, none⟩ (.string l[k].val)).setCell ⟨g, k * 3 + 2, none⟩ (.int .i64 l[k].ver)) g t (itemCells (l.take (k + 1)) ++ r') := by
  have h2 := h.on hb hg
  have hlen : (itemCells (l.take k)).length = k * 3 := by rw [itemCells_length, List.length_take]; omega
  match r, hr with
  | z0 :: z1 :: z2 :: r', hr =>
    have hs := ((h2.set (k * 3) (.string l[k].key)).set (k * 3 + 1) (.string l[k].val)).set (k * 3 + 2) (.int .i64 l[k].ver)
    have e3 := item_sets (itemCells (l.take k)) (.string l[k].key) (.string l[k].val) (.int .i64 l[k].ver) z0 z1 z2 r'
    rw [hlen] at e3
    rw [e3] at hs
    refine ⟨⟨z0, z1, z2, h2.cell ?_, h2.cell ?_, h2.cell ?_⟩, fun j => h2.thaw j, r', ?_, ?_⟩
    · rw [List.getElem?_append_right (by omega), hlen, Nat.sub_self]; rfl
    · rw [List.getElem?_append_right (by omega), hlen, show k * 3 + 1 - k * 3 = 1 by omega]; rfl
    · rw [List.getElem?_append_right (by omega), hlen, show k * 3 + 2 - k * 3 = 2 by omega]; rfl
    · simp at hr; omega
    · rw [itemCells_take l k hk, List.append_assoc]
      exact hs
  | [], hr => simp at hr; omega
  | [_], hr => simp at hr; omega
  | [_, _], hr => simp at hr; omega

theorem made_item (n : Nat) : (madeCells (Value.agg #[.string ByteArray.empty, .string ByteArray.empty, .int .i64 0]).cells (n * 3)).toList.length = n * 3 := by
  simp [madeCells]
end Go.Proofs.YtdgohbhffjinmaaDoor

namespace Go.Proofs.YtdgohbhffjinmaaDoor
open Go.RowKit

theorem row_shape {w : World} {base size n : Nat} {t : TypeId} {v : Value} {xs : List Value} (h : w.ownsRow base t size v n xs) : ∃ a c, v = .slice a n c := by
  obtain ⟨_, (⟨rfl, rfl⟩ | ⟨g, cap, _, rfl, _⟩)⟩ := h
  · exact ⟨_, _, rfl⟩
  · exact ⟨_, _, rfl⟩
theorem row_down {w : World} {base base' size n : Nat} {t : TypeId} {v : Value} {xs : List Value} (h : w.ownsRow base t size v n xs) (hb : base' ≤ base) : w.ownsRow base' t size v n xs :=
  ⟨h.1, h.2.imp id fun ⟨g, cap, cur, a, b, r⟩ => ⟨g, cap, cur, a, Nat.le_trans hb b, r⟩⟩
/-- behind an append to a row of the call's own: all that was there ahead of the row stands -/
theorem behind_append {w wr w1 : World} {v : Value} {base n : Nat} {t : TypeId} {size : Nat} {xs : List Value} {o : Obj} (hB : w.heap.size ≤ base) (BR : Below w.heap.size w wr) (OR : wr.ownsRow base t size v n xs) (hz : base ≤ wr.heap.size) (hg : (wr.alloc o).drew.grownBy w1 v.ownBlock) :
    Below w.heap.size w w1 ∧ base ≤ w1.heap.size ∧ ∀ j tj cs, j < base → BlockIs wr j tj cs → BlockIs w1 j tj cs := by
  have hown : ∀ j, v.ownBlock = some j → base ≤ j := fun j hj => (OR.lt j hj).1
  have hd : Below wr.heap.size wr (wr.alloc o).drew := below_drewN (below_more (Below.refl _ wr) o) 1
  have h1 : Below base wr w1 := ((hd.mono hz).grown hg (Nat.le_trans hz hd.size) hown)
  refine ⟨BR.trans (h1.mono hB), Nat.le_trans hz h1.size, fun j tj cs hj hb => hb.on h1 hj⟩
end Go.Proofs.YtdgohbhffjinmaaDoor

namespace Go.Proofs.YtdgohbhffjinmaaDoor
open Go.RowKit

/-- four blocks laid one behind the other -/
theorem four_log (w : World) (o p q : Obj) : Below w.heap.size w (((w.alloc o).alloc p).alloc q) ∧ (((w.alloc o).alloc p).alloc q).heap[w.heap.size]? = some o ∧ (((w.alloc o).alloc p).alloc q).heap[w.heap.size + 1]? = some p ∧ (((w.alloc o).alloc p).alloc q).heap[w.heap.size + 1 + 1]? = some q := by
  refine ⟨below_more (below_more (below_more (Below.refl _ w) _) _) _, ?_, ?_, ?_⟩
  · show (((w.heap.push o).push p).push q)[w.heap.size]? = some o
    rw [Array.getElem?_push, if_neg (by simp; omega), Array.getElem?_push, if_neg (by simp), Array.getElem?_push, if_pos rfl]
  · show (((w.heap.push o).push p).push q)[w.heap.size + 1]? = some p
    rw [Array.getElem?_push, if_neg (by simp), Array.getElem?_push, if_pos (by simp)]
  · show (((w.heap.push o).push p).push q)[w.heap.size + 1 + 1]? = some q
    rw [Array.getElem?_push, if_pos (by simp)]

/-- a row of the call's own, made between two sizes of memory -/
def OwnAt (w : World) (t : TypeId) (cs : List Value) (n : Nat) (va : Option Addr) (lo hi : Nat) : Prop :=
  n = 0 ∨ ∃ g r, va = some ⟨g, 0, none⟩ ∧ lo ≤ g ∧ g < hi ∧ BlockIs w g t (cs ++ r)
theorem OwnAt.on {w w' : World} {t : TypeId} {cs : List Value} {n : Nat} {va : Option Addr} {lo hi : Nat} (h : OwnAt w t cs n va lo hi) (hb : Below w.heap.size w w') : OwnAt w' t cs n va lo hi :=
  h.imp id fun ⟨g, r, a, b, c, d⟩ => ⟨g, r, a, b, c, d.on hb d.lt⟩
theorem OwnAt.down {w : World} {t : TypeId} {cs : List Value} {n : Nat} {va : Option Addr} {lo hi lo' hi' : Nat} (h : OwnAt w t cs n va lo hi) (h1 : lo' ≤ lo) (h2 : hi ≤ hi') : OwnAt w t cs n va lo' hi' :=
  h.imp id fun ⟨g, r, a, b, c, d⟩ => ⟨g, r, a, Nat.le_trans h1 b, Nat.lt_of_lt_of_le c h2, d⟩
/-- a cell below is written -/
theorem OwnAt.far {w : World} {t : TypeId} {cs : List Value} {n : Nat} {va : Option Addr} {lo b j : Nat} (h : OwnAt w t cs n va lo w.heap.size) (hb : b < lo) (v : Value) : OwnAt (w.setCell ⟨b, j, none⟩ v) t cs n va lo (w.setCell ⟨b, j, none⟩ v).heap.size := by
  rw [World.size_setCell]
  exact h.imp id fun ⟨g, r, a, c, d, e⟩ => ⟨g, r, a, c, d, e.far (by omega) v⟩
/-- nothing but blocks between two sizes has turned -/
def KeptBut (lo hi : Nat) (w w' : World) : Prop := ∀ j t cs, ¬ (lo ≤ j ∧ j < hi) → BlockIs w j t cs → BlockIs w' j t cs
theorem OwnAt.kept {w w' : World} {t : TypeId} {cs : List Value} {n : Nat} {va : Option Addr} {lo hi lo2 hi2 : Nat} (h : OwnAt w t cs n va lo hi) (hk : KeptBut lo2 hi2 w w') (ho : hi ≤ lo2 ∨ hi2 ≤ lo) : OwnAt w' t cs n va lo hi :=
  h.imp id fun ⟨g, r, a, b, c, d⟩ => ⟨g, r, a, b, c, hk _ _ _ (by omega) d⟩
theorem BlockIs.kept {w w' : World} {g lo hi : Nat} {t : TypeId} {cs : List Value} (h : BlockIs w g t cs) (hk : KeptBut lo hi w w') (ho : g < lo ∨ hi ≤ g) : BlockIs w' g t cs := hk _ _ _ (by omega) h
theorem row_ext {x y : World} {base size n : Nat} {t : TypeId} {v : Value} {xs : List Value} (h : x.ownsRow base t size v n xs) (hb : ∀ g cs, BlockIs x g t cs → BlockIs y g t cs) : y.ownsRow base t size v n xs := by
  refine ⟨h.1, h.2.imp id ?_⟩
  rintro ⟨g, cap, cur, a, b, c, r⟩
  have := hb g cur.toList (by unfold BlockIs; rw [c])
  unfold BlockIs at this
  exact ⟨g, cap, cur, a, b, by rw [this], r⟩
theorem OwnAt.ext {x y : World} {t : TypeId} {cs : List Value} {n : Nat} {va : Option Addr} {lo : Nat} (h : OwnAt x t cs n va lo x.heap.size) (hs : x.heap.size ≤ y.heap.size) (hb : ∀ g r, BlockIs x g t (cs ++ r) → BlockIs y g t (cs ++ r)) : OwnAt y t cs n va lo y.heap.size :=
  h.imp id fun ⟨g, r, a, b, c, d⟩ => ⟨g, r, a, b, Nat.lt_of_lt_of_le c hs, hb g r d⟩
theorem row_block {w : World} {base size n : Nat} {t : TypeId} {v : Value} {xs : List Value} (h : w.ownsRow base t size v n xs) {g : Nat} (hg : v.ownBlock = some g) : ∃ cs, BlockIs w g t cs ∧ base ≤ g := by
  obtain ⟨_, (⟨rfl, _⟩ | ⟨g', cap, cur, rfl, hb, hc, _⟩)⟩ := h
  · cases hg
  · cases hg
    exact ⟨cur.toList, by unfold BlockIs; rw [hc], hb⟩
theorem block_one {w : World} {g : Nat} {t t' : TypeId} {cs cs' : List Value} (h : BlockIs w g t cs) (h' : BlockIs w g t' cs') : t = t' ∧ cs = cs' := by
  unfold BlockIs at h h'
  rw [h] at h'
  simp only [Option.some.injEq, Obj.cells.injEq] at h'
  exact ⟨h'.2.1, by simpa using h'.1⟩
end Go.Proofs.YtdgohbhffjinmaaDoor

namespace Go.Proofs.YtdgohbhffjinmaaDoor
open Go.RowKit

/-- a number within bounds -/
def within (x a b : Int) : Bool := decide (a ≤ x) && decide (x ≤ b)
theorem within_yes {x a b : Int} (h1 : a ≤ x) (h2 : x ≤ b) : within x a b = true := by simp [within, h1, h2]
theorem within_no {x a b : Int} (h : x < a ∨ b < x) : within x a b = false := by
  simp only [within, Bool.and_eq_false_imp, decide_eq_true_eq, decide_eq_false_iff_not]
  omega
theorem within_iff {x a b : Int} : within x a b = true ↔ a ≤ x ∧ x ≤ b := by simp [within]
end Go.Proofs.YtdgohbhffjinmaaDoor

namespace Go.Proofs.YtdgohbhffjinmaaDoor
open Go.RowKit

structure CommandD where
  op : Int
  token : Int
  seq : Int
  key : ByteArray
  val : ByteArray
  ver : Int
/-- numbers that are numbers, texts that are texts -/
def CommandD.Fits (e : CommandD) : Prop := (-9223372036854775808 ≤ e.op ∧ e.op ≤ 9223372036854775807) ∧ (-9223372036854775808 ≤ e.token ∧ e.token ≤ 9223372036854775807) ∧ (-9223372036854775808 ≤ e.seq ∧ e.seq ≤ 9223372036854775807) ∧ e.key.size ≤ maxLen ∧ e.val.size ≤ maxLen ∧ (-9223372036854775808 ≤ e.ver ∧ e.ver ≤ 9223372036854775807)
def commandEnc (e : CommandD) : List Value := [.int .i64 e.op, .int .i64 e.token, .int .i64 e.seq, .string e.key, .string e.val, .int .i64 e.ver]
/-- the cells of a row -/
def commandCells (l : List CommandD) : List Value := l.flatMap commandEnc
theorem commandCells_length (l : List CommandD) : (commandCells l).length = l.length * 6 := row_length commandEnc 6 (fun _ => rfl) l
theorem commandCells_take (l : List CommandD) (k : Nat) (h : k < l.length) : commandCells (l.take (k + 1)) = commandCells (l.take k) ++ commandEnc l[k] := by
  rw [List.take_succ_eq_append_getElem h, commandCells, commandCells, List.flatMap_append]
  simp
/-- how many letters -/
def commandOne (e : CommandD) : Int := (e.key.size : Int) + (e.val.size : Int)
theorem commandOne_nonneg (e : CommandD) : 0 ≤ commandOne e := by unfold commandOne; omega
def commandBulk : List CommandD → Int
  | [] => 0
  | f :: l => commandOne f + commandBulk l
theorem commandBulk_nonneg (l : List CommandD) : 0 ≤ commandBulk l := by
  induction l with
  | nil => exact Int.le_refl 0
  | cons f l ih => have := commandOne_nonneg f; simp only [commandBulk]; omega
theorem commandBulk_take (l : List CommandD) (k : Nat) (h : k < l.length) : commandBulk (l.take (k + 1)) = commandBulk (l.take k) + commandOne l[k] := by
  induction l generalizing k with
  | nil => simp at h
  | cons f l ih =>
    cases k with
    | zero => simp [commandBulk]
    | succ k =>
      have := ih k (by simpa using h)
      simp only [List.take_succ_cons, commandBulk, List.getElem_cons_succ] at this ⊢
      omega
theorem commandBulk_le (l : List CommandD) (k : Nat) : commandBulk (l.take k) ≤ commandBulk l := by
  induction l generalizing k with
  | nil => simp [commandBulk]
  | cons f l ih =>
    cases k with
    | zero => have := commandBulk_nonneg (f :: l); simpa [commandBulk] using this
    | succ k => have := ih k; simp only [List.take_succ_cons, commandBulk]; omega
theorem command_le_bulk {l : List CommandD} {f : CommandD} (h : f ∈ l) : commandOne f ≤ commandBulk l := by
  induction l with
  | nil => cases h
  | cons g l ih =>
    simp only [commandBulk]
    have := commandBulk_nonneg l
    have := commandOne_nonneg g
    rcases List.mem_cons.1 h with e | e
    · subst e; omega
    · have := ih e; omega
/-- few and short -/
def CommandsSmall (l : List CommandD) : Prop := l.length ≤ 1048576 ∧ ∀ f ∈ l, commandOne f ≤ 1048576
theorem commandsSmall {l : List CommandD} (h : 0 ≤ (1048576 : Int) - l.length - commandBulk l) : CommandsSmall l := by
  have := commandBulk_nonneg l
  exact ⟨by omega, fun f hf => by have := command_le_bulk hf; omega⟩
/-- they lie at an address, one behind the other -/
def CommandsAt (w : World) (ao : Option Addr) (l : List CommandD) : Prop :=
  l ≠ [] → ∃ b off, ao = some ⟨b, off, none⟩ ∧ ∀ j (hj : j < l.length), w.cell? ⟨b, off + j * 6, none⟩ = some (.int .i64 l[j].op) ∧ w.cell? ⟨b, off + j * 6 + 1, none⟩ = some (.int .i64 l[j].token) ∧ w.cell? ⟨b, off + j * 6 + 2, none⟩ = some (.int .i64 l[j].seq) ∧ w.cell? ⟨b, off + j * 6 + 3, none⟩ = some (.string l[j].key) ∧ w.cell? ⟨b, off + j * 6 + 4, none⟩ = some (.string l[j].val) ∧ w.cell? ⟨b, off + j * 6 + 5, none⟩ = some (.int .i64 l[j].ver)
theorem commandsAt_of {w : World} {g : Nat} {t : TypeId} {l : List CommandD} {r : List Value} (h : BlockIs w g t (commandCells l ++ r)) : CommandsAt w (some ⟨g, 0, none⟩) l := by
  intro _
  refine ⟨g, 0, rfl, fun j hj => ?_⟩
  rw [Nat.zero_add]
  exact ⟨h.cell (row_at commandEnc 6 (fun _ => rfl) l r j 0 hj (by omega)), h.cell (row_at commandEnc 6 (fun _ => rfl) l r j 1 hj (by omega)), h.cell (row_at commandEnc 6 (fun _ => rfl) l r j 2 hj (by omega)), h.cell (row_at commandEnc 6 (fun _ => rfl) l r j 3 hj (by omega)), h.cell (row_at commandEnc 6 (fun _ => rfl) l r j 4 hj (by omega)), h.cell (row_at commandEnc 6 (fun _ => rfl) l r j 5 hj (by omega))⟩
def CommandsFit (l : List CommandD) : Prop := ∀ j (hj : j < l.length), l[j].Fits
theorem CommandsAt.on {w w' : World} {ao : Option Addr} {l : List CommandD} (h : CommandsAt w ao l) (hb : Below w.heap.size w w') : CommandsAt w' ao l := by
  intro h0
  obtain ⟨b, off, e1, e2⟩ := h h0
  refine ⟨b, off, e1, fun j hj => ?_⟩
  obtain ⟨x0, x1, x2, x3, x4, x5⟩ := e2 j hj
  exact ⟨(hb.cell (p := ⟨b, off + j * 6, none⟩) (World.block_lt_of_cell? w _ x0)).trans x0, (hb.cell (p := ⟨b, off + j * 6 + 1, none⟩) (World.block_lt_of_cell? w _ x1)).trans x1, (hb.cell (p := ⟨b, off + j * 6 + 2, none⟩) (World.block_lt_of_cell? w _ x2)).trans x2, (hb.cell (p := ⟨b, off + j * 6 + 3, none⟩) (World.block_lt_of_cell? w _ x3)).trans x3, (hb.cell (p := ⟨b, off + j * 6 + 4, none⟩) (World.block_lt_of_cell? w _ x4)).trans x4, (hb.cell (p := ⟨b, off + j * 6 + 5, none⟩) (World.block_lt_of_cell? w _ x5)).trans x5⟩
/-- cells of a list, written -/
theorem command_sets (p : List Value) (a0 a1 a2 a3 a4 a5 o0 o1 o2 o3 o4 o5 : Value) (r : List Value) : ((((((p ++ o0 :: o1 :: o2 :: o3 :: o4 :: o5 :: r).set (p.length) a0).set (p.length + 1) a1).set (p.length + 2) a2).set (p.length + 3) a3).set (p.length + 4) a4).set (p.length + 5) a5 = p ++ a0 :: a1 :: a2 :: a3 :: a4 :: a5 :: r := by
  rw [List.set_append_right _ _ (Nat.le_refl _), List.set_append_right _ _ (by omega), List.set_append_right _ _ (by omega), List.set_append_right _ _ (by omega), List.set_append_right _ _ (by omega), List.set_append_right _ _ (by omega)]
  simp
theorem command_set_other {cs : List Value} {i j : Nat} {v u : Value} (h : cs[j]? = some u) (hij : i ≠ j) : (cs.set i v)[j]? = some u := by
  rw [List.getElem?_set_ne hij]; exact h
end Go.Proofs.YtdgohbhffjinmaaDoor

namespace Go.Proofs.YtdgohbhffjinmaaDoor
open Go.RowKit

def commandOk (d : CommandD) : Bool :=
  within d.token 0 1000000 && (within d.seq 0 1000000 && (within d.op 1 5 &&
    (if d.op = 1 then decide (d.token = 0) && (decide (d.seq = 0) && (decide (d.key.size = 0) && (decide (d.val.size = 0) && decide (d.ver = 0))))
      else within (d.key.size : Int) 1 8 && (decide ((d.val.size : Int) ≤ 20) &&
        (if d.op = 2 then decide (d.ver = 0) else if d.op = 5 then within d.ver 1 1000000000 else decide (d.val.size = 0) && decide (d.ver = 0))))))

theorem empty_text (s : ByteArray) : (s.toList == []) = decide (s.size = 0) := by
  rw [ByteArray.toList_eq]
  by_cases h : s.size = 0
  · have : s.data.toList = [] := List.eq_nil_of_length_eq_zero (by simpa using h)
    simp [this, h]
  · have : (s.data.toList == []) = false := by
      rw [beq_eq_false_iff_ne]
      intro e
      exact h (by simpa using congrArg List.length e)
    rw [this]
    simp [h]
end Go.Proofs.YtdgohbhffjinmaaDoor

namespace Go.Proofs.YtdgohbhffjinmaaDoor
open Go.RowKit

/-- the first one of a Key, or none -/
def itemOf (l : List ItemD) (key : ByteArray) : ItemD × Bool :=
  match l.find? (fun e => e.key.toList == key.toList) with
  | some e => (e, true)
  | none => (⟨⟨#[]⟩, ⟨#[]⟩, 0⟩, false)
theorem itemOf_none (l : List ItemD) (key : ByteArray) (h : ∀ j (hj : j < l.length), (l[j].key.toList == key.toList) = false) : itemOf l key = (⟨⟨#[]⟩, ⟨#[]⟩, 0⟩, false) := by
  have : l.find? (fun e => e.key.toList == key.toList) = none := by
    rw [List.find?_eq_none]
    intro x hx
    obtain ⟨j, hj, rfl⟩ := List.getElem_of_mem hx
    rw [h j hj]
    exact Bool.false_ne_true
  rw [itemOf, this]
theorem itemOf_here (l : List ItemD) (key : ByteArray) (k : Nat) (hk : k < l.length) (h : ∀ j (hj : j < k), (l[j].key.toList == key.toList) = false) (hh : (l[k].key.toList == key.toList) = true) : itemOf l key = (l[k], true) := by
  have : l.find? (fun e => e.key.toList == key.toList) = some l[k] := by
    rw [List.find?_eq_some_iff_getElem]
    exact ⟨hh, k, hk, rfl, fun j hj => by rw [h j hj]; rfl⟩
  rw [itemOf, this]
end Go.Proofs.YtdgohbhffjinmaaDoor

namespace Go.Proofs.YtdgohbhffjinmaaDoor
open Go.RowKit

/-- one of a row is fine by itself, and behind the one ahead of it -/
def stepOk {α : Type} (fine : α → Bool) (lt : α → α → Bool) (l : List α) : Nat → Bool
  | 0 => match l[0]? with
    | some x => fine x
    | none => true
  | j + 1 => match l[j + 1]?, l[j]? with
    | some x, some y => fine x && lt y x
    | _, _ => true
def rowOk {α : Type} (fine : α → Bool) (lt : α → α → Bool) (l : List α) : Bool := (List.range l.length).all (stepOk fine lt l)
theorem stepOk_zero {α : Type} {fine : α → Bool} {lt : α → α → Bool} {l : List α} (h : 0 < l.length) : stepOk fine lt l 0 = fine l[0] := by
  simp [stepOk, h]
theorem stepOk_succ {α : Type} {fine : α → Bool} {lt : α → α → Bool} {l : List α} {j : Nat} (h : j + 1 < l.length) : stepOk fine lt l (j + 1) = (fine l[j + 1] && lt l[j] l[j + 1]) := by
  simp [stepOk, h, Nat.lt_of_succ_lt h]
theorem rowOk_no {α : Type} {fine : α → Bool} {lt : α → α → Bool} {l : List α} {k : Nat} (hk : k < l.length) (h : stepOk fine lt l k = false) : rowOk fine lt l = false := by
  rw [← Bool.not_eq_true]
  intro e
  have := List.all_eq_true.1 e k (List.mem_range.2 hk)
  rw [h] at this
  cases this
theorem rowOk_yes {α : Type} {fine : α → Bool} {lt : α → α → Bool} {l : List α} (h : ∀ j, j < l.length → stepOk fine lt l j = true) : rowOk fine lt l = true :=
  List.all_eq_true.2 fun j hj => h j (List.mem_range.1 hj)
def itemFine (e : ItemD) : Bool := within (e.key.size : Int) 1 8 && (decide ((e.val.size : Int) ≤ 20) && within e.ver 1 1000000000)
def keyLt (a b : ItemD) : Bool := Op.bytesLess a.key.toList b.key.toList
def sessionFine (e : SessionD) : Bool := within e.token 1 1000000 && (within e.last 0 1000000 && (decide ((e.reply.size : Int) ≤ 40) && (!decide (e.last = 0) || decide (e.reply.size = 0))))
def tokenLt (a b : SessionD) : Bool := decide (a.token < b.token)
def sessionsRight (l : List SessionD) : Bool := rowOk sessionFine tokenLt l && decide ((l.length : Int) ≤ 3)
def itemsRight (l : List ItemD) : Bool := rowOk itemFine keyLt l && decide ((l.length : Int) ≤ 8)
def keepOk (ls : List SessionD) (li : List ItemD) : Bool := sessionsRight ls && itemsRight li
theorem blank_text (s : ByteArray) : (s.toList == []) = decide (s.size = 0) := by
  rw [ByteArray.toList_eq]
  by_cases h : s.size = 0
  · have : s.data.toList = [] := List.eq_nil_of_length_eq_zero (by simpa using h)
    simp [this, h]
  · have : (s.data.toList == []) = false := by
      rw [beq_eq_false_iff_ne]
      intro e
      exact h (by simpa using congrArg List.length e)
    rw [this]
    simp [h]
end Go.Proofs.YtdgohbhffjinmaaDoor

namespace Go.Proofs.YtdgohbhffjinmaaDoor
open Go.RowKit

/-- the figure of x, as a byte -/
def fig (x : Int) : Int := if x < 10 then 48 + x else 87 + x

theorem fig_bd {x : Int} (h0 : 0 ≤ x) (h1 : x ≤ 15) : 48 ≤ fig x ∧ fig x ≤ 102 := by unfold fig; split <;> omega

def hexOf : List UInt8 → List UInt8
  | [] => []
  | b :: r => UInt8.ofNat (fig (b.toNat / 16)).toNat :: UInt8.ofNat (fig (b.toNat % 16)).toNat :: hexOf r

theorem hexOf_append (l r : List UInt8) : hexOf (l ++ r) = hexOf l ++ hexOf r := by
  induction l with
  | nil => rfl
  | cons b l ih => simp [hexOf, ih]

theorem hexOf_length (l : List UInt8) : (hexOf l).length = 2 * l.length := by
  induction l with
  | nil => rfl
  | cons b l ih => simp [hexOf, ih]; omega

theorem take_snoc (s : ByteArray) (k : Nat) (h : k < s.size) : s.data.toList.take (k + 1) = s.data.toList.take k ++ [s[k]] := by
  rw [List.take_succ_eq_append_getElem (by simpa using h)]; rfl

theorem take_len (s : ByteArray) (k : Nat) (h : k ≤ s.size) : (s.data.toList.take k).length = k := by
  have : s.data.toList.length = s.size := by simp
  rw [List.length_take]; omega

theorem two_cs (b : UInt8) : [Value.int .u8 (fig ((b.toNat : Int) / 16)), .int .u8 (fig ((b.toNat : Int) % 16))] = cs (hexOf [b]) := by
  have hb := b.toNat_lt
  have h1 := fig_bd (x := (b.toNat : Int) / 16) (by omega) (by omega)
  have h2 := fig_bd (x := (b.toNat : Int) % 16) (by omega) (by omega)
  simp only [hexOf, cs, List.map_cons, List.map_nil, UInt8.toNat_ofNat', List.cons.injEq, and_true, Value.int.injEq, true_and]
  omega

theorem hex_step {s : ByteArray} {k : Nat} {w wr w1 : World} {v : Value} {g cap : Nat} {B : Obj} (hk : k < s.size) (hown : wr.ownsRow w.heap.size 5 1 v (2 * k) (cs (hexOf (s.data.toList.take k))))
    (hown' : w1.ownsRow w.heap.size 5 1 (.slice (some ⟨g, 0, none⟩) (2 * k + 2) cap) (2 * k + 2) (cs (hexOf (s.data.toList.take k)) ++ [.int .u8 (fig ((s[k].toNat : Int) / 16)), .int .u8 (fig ((s[k].toNat : Int) % 16))]))
    (hgrow : (wr.alloc B).drew.grownBy w1 v.ownBlock) (hb : Below w.heap.size w wr) :
    w1.ownsRow w.heap.size 5 1 (.slice (some ⟨g, 0, none⟩) (2 * k + 2) cap) (2 * (k + 1)) (cs (hexOf (s.data.toList.take (k + 1)))) ∧ Below w.heap.size w w1 := by
  refine ⟨?_, ((hb.alloc hb.size _).drew).grown hgrow (by have := hb.size; simp; omega) (fun j hj => (hown.lt j hj).1)⟩
  rw [two_cs, ← cs_append, ← hexOf_append, ← take_snoc s k hk] at hown'
  exact hown'

theorem i64_id {x : Int} (h0 : -9223372036854775808 ≤ x) (h1 : x ≤ 9223372036854775807) : IntKind.i64.wrap x = x := by
  simp [IntKind.wrap, IntKind.signed, IntKind.bits]; omega
theorem u8_id {x : Int} (h0 : 0 ≤ x) (h1 : x ≤ 255) : IntKind.u8.wrap x = x := by
  simp [IntKind.wrap, IntKind.signed, IntKind.bits]; omega

theorem wrap_quo (b : UInt8) : IntKind.i64.wrap ((IntKind.i64.wrap (b.toNat : Int)).tdiv 16) = (b.toNat : Int) / 16 := by
  have hb := b.toNat_lt
  have e : IntKind.i64.wrap (b.toNat : Int) = (b.toNat : Int) := by simp [IntKind.wrap, IntKind.signed, IntKind.bits]; omega
  rw [e, Int.tdiv_eq_ediv_of_nonneg (by omega)]
  simp [IntKind.wrap, IntKind.signed, IntKind.bits]; omega
theorem wrap_rem (b : UInt8) : (IntKind.i64.wrap (b.toNat : Int)).tmod 16 = (b.toNat : Int) % 16 := by
  have hb := b.toNat_lt
  have e : IntKind.i64.wrap (b.toNat : Int) = (b.toNat : Int) := by simp [IntKind.wrap, IntKind.signed, IntKind.bits]; omega
  rw [e, Int.tmod_eq_emod_of_nonneg (by omega)]
end Go.Proofs.YtdgohbhffjinmaaDoor

namespace Go.Proofs.YtdgohbhffjinmaaDoor
open Go.RowKit

/-- what the byte c counts as a figure; -1 where it is none -/
def lv (c : Int) : Int := if 48 ≤ c ∧ c ≤ 57 then c - 48 else if 97 ≤ c ∧ c ≤ 102 then c - 87 else -1

theorem lv_bd (c : Int) : -1 ≤ lv c ∧ lv c ≤ 15 := by unfold lv; split <;> (try split) <;> omega

theorem fig_lv {c j : Int} (h0 : 0 ≤ j) (h1 : j ≤ 15) : c = fig j ↔ lv c = j := by
  unfold lv fig
  split <;> split <;> (try split) <;> omega

/-- the values of a text's figures -/
def lvs (l : List UInt8) : List Int := l.map fun c => lv (c.toNat : Int)

def Figs (b : Nat) (l : List UInt8) : Prop := ∀ c ∈ l, 0 ≤ lv (c.toNat : Int) ∧ lv (c.toNat : Int) < b

theorem Figs.snoc {b : Nat} {l : List UInt8} {c : UInt8} (h : Figs b l) (hc : 0 ≤ lv (c.toNat : Int) ∧ lv (c.toNat : Int) < b) : Figs b (l ++ [c]) := by
  intro x hx
  rcases List.mem_append.1 hx with hx | hx
  · exact h x hx
  · simp at hx; subst hx; exact hc

/-- ints as the cells of a row -/
def ns (l : List Int) : List Value := l.map (Value.int .i64)

theorem mem_at (s : ByteArray) (k : Nat) (h : k < s.size) : s[k] ∈ s.data.toList := by
  have h1 : k < s.data.toList.length := by simpa using h
  have h2 := List.getElem_mem h1
  have h3 : s.data.toList[k] = s[k] := by rw [Array.getElem_toList]; rfl
  rw [h3] at h2
  exact h2

theorem lvs_append (l r : List UInt8) : lvs (l ++ r) = lvs l ++ lvs r := by simp [lvs]
theorem lvs_length (l : List UInt8) : (lvs l).length = l.length := by simp [lvs]
theorem ns_append (l r : List Int) : ns (l ++ r) = ns l ++ ns r := by simp [ns]

theorem fv_step {s : ByteArray} {k : Nat} {w wr w1 : World} {v v' : Value} {B : Obj} {j : Int} (hk : k < s.size) (hj : lv (s[k].toNat : Int) = j) (hown : wr.ownsRow w.heap.size 3 1 v k (ns (lvs (s.data.toList.take k))))
    (hown' : w1.ownsRow w.heap.size 3 1 v' (k + 1) (ns (lvs (s.data.toList.take k)) ++ [.int .i64 j])) (hgrow : (wr.alloc B).grownBy w1 v.ownBlock) (hb : Below w.heap.size w wr) :
    w1.ownsRow w.heap.size 3 1 v' (k + 1) (ns (lvs (s.data.toList.take (k + 1)))) ∧ Below w.heap.size w w1 := by
  refine ⟨?_, (hb.alloc hb.size _).grown hgrow (by have := hb.size; simp; omega) (fun j hj => (hown.lt j hj).1)⟩
  have e : [Value.int .i64 j] = ns (lvs [s[k]]) := by simp [ns, lvs, hj]
  rw [e, ← ns_append, ← lvs_append, ← take_snoc s k hk] at hown'
  exact hown'

/-- where the values lie -/
theorem values_lie {w w1 : World} {s : ByteArray} {v : Value} (h : w1.ownsRow w.heap.size 3 1 v s.size (ns (lvs s.data.toList))) :
    ∃ ao cap, v = .slice ao s.size cap ∧ (0 < s.size → ∃ g, ao = some ⟨g, 0, none⟩ ∧ g < w1.heap.size ∧ s.size ≤ cap ∧ ∀ j (hj : j < s.size), w1.cell? ⟨g, j, none⟩ = some (.int .i64 (lv (s[j].toNat : Int)))) := by
  have h' := h
  obtain ⟨h1, h2⟩ := h
  rcases h2 with ⟨hv, hn⟩ | ⟨g, cap, cur, hv, hgb, hh, hle, hmx, hsz, hx⟩
  · exact ⟨none, 0, by rw [hv, hn], fun h0 => by omega⟩
  · refine ⟨_, cap, hv, fun _ => ⟨g, rfl, (h'.lt g (by rw [hv]; rfl)).2, hle, fun j hj => ?_⟩⟩
    have hu : (ns (lvs s.data.toList))[j]? = some (.int .i64 (lv (s[j].toNat : Int))) := by
      have hj' : j < s.data.toList.length := by simpa using hj
      have e : s.data.toList[j] = s[j] := by rw [Array.getElem_toList]; rfl
      simp only [ns, lvs, List.getElem?_map, List.getElem?_eq_getElem hj', Option.map_some, e]
    have := h'.cells (g := g) (by rw [hv]; rfl) j _ hu
    have ea : (⟨g, 0, none⟩ : Addr).add j = ⟨g, j, none⟩ := by
      simp only [Addr.add]
      split
      · simp_all
      · simp
    rw [ea] at this
    exact this
end Go.Proofs.YtdgohbhffjinmaaDoor

namespace Go.Proofs.YtdgohbhffjinmaaDoor
open Go.RowKit

/-- the decimal figures of n, none for 0 (with so many steps at the most) -/
def ddF : Nat → Nat → List UInt8
  | 0, _ => []
  | f + 1, n => if n = 0 then [] else ddF f (n / 10) ++ [UInt8.ofNat (48 + n % 10)]
/-- the decimal figures of n, none for 0 -/
def dd (n : Nat) : List UInt8 := ddF n n

theorem ddF_eq : ∀ (f g n : Nat), n ≤ f → n ≤ g → ddF f n = ddF g n
  | 0, 0, _, _, _ => rfl
  | 0, g + 1, n, h, _ => by
    obtain rfl : n = 0 := by omega
    rw [ddF, ddF, if_pos rfl]
  | f + 1, 0, n, _, h => by
    obtain rfl : n = 0 := by omega
    rw [ddF, ddF, if_pos rfl]
  | f + 1, g + 1, n, h1, h2 => by
    rw [ddF, ddF]
    by_cases h : n = 0
    · rw [if_pos h, if_pos h]
    · rw [if_neg h, if_neg h, ddF_eq f g (n / 10) (by omega) (by omega)]
theorem dd_zero : dd 0 = [] := rfl
theorem dd_pos {n : Nat} (h : 0 < n) : dd n = dd (n / 10) ++ [UInt8.ofNat (48 + n % 10)] := by
  rw [dd, ddF_eq n (n + 1) n (Nat.le_refl _) (by omega), ddF, if_neg (by omega), dd, ddF_eq n (n / 10) (n / 10) (by omega) (Nat.le_refl _)]

theorem dd_len (k : Nat) : ∀ n, n < 10 ^ k → (dd n).length ≤ k := by
  induction k with
  | zero => intro n h; have : n = 0 := by simp at h; omega
            subst this; rw [dd_zero]; simp
  | succ k ih =>
    intro n h
    by_cases h0 : n = 0
    · subst h0; rw [dd_zero]; simp
    · rw [dd_pos (by omega), List.length_append]
      have := ih (n / 10) (by rw [Nat.pow_succ] at h; omega)
      simp only [List.length_cons, List.length_nil]
      omega

/-- n in decimal -/
def dec (n : Int) : List UInt8 := if n = 0 then [48] else if n < 0 then 45 :: dd n.natAbs else dd n.natAbs

/-- what figures make -/
def num (l : List UInt8) : Nat := l.foldl (fun n c => 10 * n + (c.toNat - 48)) 0

theorem num_nil : num [] = 0 := rfl
theorem num_snoc (l : List UInt8) (c : UInt8) : num (l ++ [c]) = 10 * num l + (c.toNat - 48) := by simp [num, List.foldl_append]

def Digits (l : List UInt8) : Prop := ∀ c ∈ l, 48 ≤ c.toNat ∧ c.toNat ≤ 57

theorem Digits.init {l : List UInt8} {c : UInt8} (h : Digits (l ++ [c])) : Digits l ∧ 48 ≤ c.toNat ∧ c.toNat ≤ 57 :=
  ⟨fun x hx => h x (List.mem_append.2 (Or.inl hx)), h c (by simp)⟩
theorem Digits.snoc {l : List UInt8} {c : UInt8} (h : Digits l) (hc : 48 ≤ c.toNat ∧ c.toNat ≤ 57) : Digits (l ++ [c]) := by
  intro x hx
  rcases List.mem_append.1 hx with hx | hx
  · exact h x hx
  · simp at hx; subst hx; exact hc

theorem snoc_cases (l : List UInt8) : l = [] ∨ ∃ r c, l = r ++ [c] := by
  rcases h : l.reverse with _ | ⟨c, r⟩
  · exact Or.inl (by simpa using h)
  · exact Or.inr ⟨r.reverse, c, by have := congrArg List.reverse h; simpa using this⟩

theorem num_lt : ∀ (k : Nat) (l : List UInt8), l.length = k → Digits l → num l < 10 ^ k
  | 0, l, h, _ => by
    have : l = [] := List.eq_nil_of_length_eq_zero h
    subst this; simp [num]
  | k + 1, l, h, hd => by
    rcases snoc_cases l with rfl | ⟨r, c, rfl⟩
    · simp at h
    · have h1 := hd.init
      have := num_lt k r (by simpa using h) h1.1
      rw [num_snoc, Nat.pow_succ]
      omega

theorem num_lead (c : UInt8) (hc : c ≠ 48) (hc1 : 48 ≤ c.toNat ∧ c.toNat ≤ 57) : ∀ (k : Nat) (r : List UInt8), r.length = k → Digits r → 0 < num (c :: r) ∧ dd (num (c :: r)) = c :: r
  | 0, r, h, _ => by
    have : r = [] := List.eq_nil_of_length_eq_zero h
    subst this
    have h48 : c.toNat ≠ 48 := fun e => hc (UInt8.toNat_inj.1 (by simpa using e))
    have e : num [c] = c.toNat - 48 := by simp [num]
    rw [e]
    refine ⟨by omega, ?_⟩
    rw [dd_pos (by omega), show (c.toNat - 48) / 10 = 0 by omega, dd_zero, show 48 + (c.toNat - 48) % 10 = c.toNat by omega]
    simp
  | k + 1, r, h, hd => by
    rcases snoc_cases r with rfl | ⟨r', x, rfl⟩
    · simp at h
    · have h1 := hd.init
      obtain ⟨i1, i2⟩ := num_lead c hc hc1 k r' (by simpa using h) h1.1
      have e : num (c :: (r' ++ [x])) = 10 * num (c :: r') + (x.toNat - 48) := num_snoc (c :: r') x
      rw [e]
      refine ⟨by omega, ?_⟩
      rw [dd_pos (by omega), show (10 * num (c :: r') + (x.toNat - 48)) / 10 = num (c :: r') by omega, show 48 + (10 * num (c :: r') + (x.toNat - 48)) % 10 = x.toNat by omega, i2]
      simp

/-- figures of a number do not begin with a nought -/
theorem dd_head : ∀ (n : Nat), 0 < n → ∃ c r, dd n = c :: r ∧ c ≠ 48 := by
  intro n
  induction n using Nat.strongRecOn with
  | _ n ih =>
    intro h
    rw [dd_pos h]
    by_cases h1 : n / 10 = 0
    · rw [h1, dd_zero]
      refine ⟨_, [], rfl, ?_⟩
      intro e
      have := congrArg UInt8.toNat e
      simp only [UInt8.toNat_ofNat', UInt8.toNat_ofNat] at this
      omega
    · obtain ⟨c, r, e, hc⟩ := ih (n / 10) (by omega) (by omega)
      exact ⟨c, r ++ [UInt8.ofNat (48 + n % 10)], by rw [e]; rfl, hc⟩

/-- a text of figures is how its number is written, just when it has some and no needless nought ahead -/
theorem dec_num (l : List UInt8) (hd : Digits l) : dec (num l : Int) = l ↔ l ≠ [] ∧ ¬ (l.head? = some 48 ∧ 1 < l.length) := by
  match l, hd with
  | [], _ => simp [num, dec]
  | c :: r, hd =>
    have hc := hd c (by simp)
    have hr : Digits r := fun x hx => hd x (by simp [hx])
    by_cases h48 : c = 48
    · subst h48
      match r, hr with
      | [], _ => simp [num, dec]
      | x :: r', hr =>
        simp only [List.head?_cons, List.length_cons, ne_eq, reduceCtorEq, not_false_eq_true, true_and]
        constructor
        · intro e
          unfold dec at e
          split at e
          · simp at e
          · rename_i hz
            rw [if_neg (by omega), Int.natAbs_natCast] at e
            obtain ⟨y, q, e1, e2⟩ := dd_head (num (48 :: x :: r')) (by omega)
            rw [e1] at e
            simp only [List.cons.injEq] at e
            exact absurd e.1 e2
        · intro h
          exact absurd (by omega) h
    · obtain ⟨i1, i2⟩ := num_lead c h48 hc r.length r rfl hr
      unfold dec
      rw [if_neg (by omega), if_neg (by omega), Int.natAbs_natCast, i2]
      simp [h48]

theorem digits_figs (l : List UInt8) : Digits l ↔ Figs 10 l := by
  constructor
  · intro h c hc
    have := h c hc
    unfold lv
    rw [if_pos (by omega)]
    omega
  · intro h c hc
    have := h c hc
    unfold lv at this
    split at this
    · omega
    · split at this <;> omega
theorem lv_digit {c : UInt8} (h : 48 ≤ c.toNat ∧ c.toNat ≤ 57) : lv (c.toNat : Int) = ((c.toNat - 48 : Nat) : Int) := by
  unfold lv; rw [if_pos (by omega)]; omega

/-- a text that ReadDecimal takes -/
def DecOk (l : List UInt8) : Prop := Digits l ∧ num l ≤ 1000000000 ∧ l ≠ [] ∧ ¬ (l.head? = some 48 ∧ 1 < l.length)

theorem digits_at {s : ByteArray} {k : Nat} (hk : k < s.size) (h : ¬ (48 ≤ s[k].toNat ∧ s[k].toNat ≤ 57)) : ¬ DecOk s.data.toList := fun hd => h (hd.1 s[k] (mem_at s k hk))

theorem num_step {s : ByteArray} {k : Nat} (hk : k < s.size) (h : 48 ≤ (s[k].toNat : Int)) : ((num (s.data.toList.take (k + 1)) : Nat) : Int) = 10 * (num (s.data.toList.take k) : Int) + (s[k].toNat : Int) - 48 := by
  rw [take_snoc s k hk, num_snoc]
  omega

theorem ret_num {a b : Nat} (h : a = b) : Ending.returned (.tuple #[.int .i64 a, .bool true]) = .returned (.tuple #[.int .i64 b, .bool true]) := by rw [h]

theorem same_dec {s : ByteArray} {l : List UInt8} : (!l == s.toList) = false ↔ l = s.data.toList := by
  rw [ByteArray.toList_eq]; simp
end Go.Proofs.YtdgohbhffjinmaaDoor

namespace Go.Proofs.YtdgohbhffjinmaaDoor
open Go.RowKit Go.Sort

/-- an order in which one of two that differ is ahead -/
structure Ordered {α : Type} (lt : α → α → Bool) : Prop where
  irrefl : ∀ a, lt a a = false
  trans : ∀ a b c, lt a b = true → lt b c = true → lt a c = true

/-- all ahead of it, itself, all behind it -/
def putIn {α : Type} (lt : α → α → Bool) (l : List α) (x : α) : List α := l.filter (fun a => lt a x) ++ x :: l.filter (fun a => lt x a)
def AscBy {α : Type} (lt : α → α → Bool) (l : List α) : Prop := l.Pairwise (fun a b => lt a b = true)

theorem rowOk_asc {α : Type} {fine : α → Bool} {lt : α → α → Bool} (ho : Ordered lt) {l : List α} (h : rowOk fine lt l = true) : AscBy lt l ∧ ∀ x ∈ l, fine x = true := by
  have key : ∀ j, j < l.length → stepOk fine lt l j = true := fun j hj => List.all_eq_true.1 h j (List.mem_range.2 hj)
  have up : ∀ d j (hj : j + d + 1 < l.length), lt l[j] l[j + d + 1] = true := by
    intro d
    induction d with
    | zero =>
      intro j hj
      have := key (j + 1) (by omega)
      rw [stepOk_succ (by omega)] at this
      exact (Bool.and_eq_true _ _ ▸ this).2
    | succ d ih =>
      intro j hj
      have h1 := ih j (by omega)
      have h2 := key (j + d + 1 + 1) (by omega)
      rw [stepOk_succ (by omega)] at h2
      exact ho.trans _ _ _ h1 (Bool.and_eq_true _ _ ▸ h2).2
  refine ⟨List.pairwise_iff_getElem.2 fun i j hi hj hij => ?_, fun x hx => ?_⟩
  · have := up (j - i - 1) i (by omega)
    have e : i + (j - i - 1) + 1 = j := by omega
    simpa only [e] using this
  · obtain ⟨j, hj, rfl⟩ := List.getElem_of_mem hx
    have := key j hj
    cases j with
    | zero => rw [stepOk_zero hj] at this; exact this
    | succ j => rw [stepOk_succ hj] at this; exact (Bool.and_eq_true _ _ ▸ this).1
theorem asc_rowOk {α : Type} {fine : α → Bool} {lt : α → α → Bool} {l : List α} (h : AscBy lt l) (hf : ∀ x ∈ l, fine x = true) : rowOk fine lt l = true := by
  refine rowOk_yes fun j hj => ?_
  cases j with
  | zero => rw [stepOk_zero hj]; exact hf _ (List.getElem_mem _)
  | succ j =>
    rw [stepOk_succ hj, hf _ (List.getElem_mem _), List.pairwise_iff_getElem.1 h j (j + 1) (by omega) hj (by omega)]
    rfl
theorem mem_putIn {α : Type} {lt : α → α → Bool} {l : List α} {x y : α} : y ∈ putIn lt l x ↔ y = x ∨ y ∈ l ∧ (lt y x = true ∨ lt x y = true) := by
  simp only [putIn, List.mem_append, List.mem_cons, List.mem_filter]
  constructor
  · rintro (⟨a, b⟩ | rfl | ⟨a, b⟩)
    · exact Or.inr ⟨a, Or.inl b⟩
    · exact Or.inl rfl
    · exact Or.inr ⟨a, Or.inr b⟩
  · rintro (rfl | ⟨a, b | b⟩)
    · exact Or.inr (Or.inl rfl)
    · exact Or.inl ⟨a, b⟩
    · exact Or.inr (Or.inr ⟨a, b⟩)
theorem asc_putIn {α : Type} {lt : α → α → Bool} (ho : Ordered lt) {l : List α} (h : AscBy lt l) (x : α) : AscBy lt (putIn lt l x) := by
  rw [AscBy, putIn, List.pairwise_append]
  refine ⟨h.sublist List.filter_sublist, List.pairwise_cons.2 ⟨fun b hb => (List.mem_filter.1 hb).2, h.sublist List.filter_sublist⟩, fun a ha b hb => ?_⟩
  have h1 := (List.mem_filter.1 ha).2
  rcases List.mem_cons.1 hb with rfl | hb
  · exact h1
  · exact ho.trans _ _ _ h1 (List.mem_filter.1 hb).2
/-- two of a list by the one order, with the same members: one list -/
theorem asc_same {α : Type} {lt : α → α → Bool} (ho : Ordered lt) : ∀ {l m : List α}, AscBy lt l → AscBy lt m → (∀ x, x ∈ l ↔ x ∈ m) → l = m
  | [], [], _, _, _ => rfl
  | [], b :: m, _, _, h => by have := (h b).2 (by simp); cases this
  | a :: l, [], _, _, h => by have := (h a).1 (by simp); cases this
  | a :: l, b :: m, hl, hm, h => by
    obtain ⟨hl1, hl2⟩ := List.pairwise_cons.1 hl
    obtain ⟨hm1, hm2⟩ := List.pairwise_cons.1 hm
    have hab : a = b := by
      rcases List.mem_cons.1 ((h a).1 (by simp)) with e | e
      · exact e
      · rcases List.mem_cons.1 ((h b).2 (by simp)) with q | q
        · exact q.symm
        · have := ho.trans _ _ _ (hl1 b q) (hm1 a e)
          rw [ho.irrefl] at this
          cases this
    subst hab
    have hni : ∀ x ∈ l, x ≠ a := fun x hx e => by have := hl1 x hx; rw [e, ho.irrefl] at this; cases this
    have hnm : ∀ x ∈ m, x ≠ a := fun x hx e => by have := hm1 x hx; rw [e, ho.irrefl] at this; cases this
    rw [asc_same ho hl2 hm2 fun x => ?_]
    constructor
    · intro hx
      rcases List.mem_cons.1 ((h x).1 (List.mem_cons_of_mem _ hx)) with e | e
      · exact absurd e (hni x hx)
      · exact e
    · intro hx
      rcases List.mem_cons.1 ((h x).2 (List.mem_cons_of_mem _ hx)) with e | e
      · exact absurd e (hnm x hx)
      · exact e
theorem asc_filter {α : Type} {lt : α → α → Bool} {l : List α} (h : AscBy lt l) (p : α → Bool) : AscBy lt (l.filter p) := h.sublist List.filter_sublist
theorem asc_tail {α : Type} {lt : α → α → Bool} {l : List α} (h : AscBy lt l) : AscBy lt l.tail := h.sublist (List.tail_sublist l)

theorem token_ordered : Ordered tokenLt := ⟨fun a => by simp [tokenLt], fun a b c h1 h2 => by simp only [tokenLt, decide_eq_true_eq] at *; omega⟩
theorem bytesLess_lt (a b : List UInt8) : Op.bytesLess a b = true ↔ a < b := by
  rw [bytesLess_eq]; simp
theorem text_tri (a b : List UInt8) : a < b ∨ a = b ∨ b < a := by
  rcases Decidable.em (a < b) with h | h
  · exact Or.inl h
  · rcases Decidable.em (b < a) with h2 | h2
    · exact Or.inr (Or.inr h2)
    · exact Or.inr (Or.inl (List.le_antisymm (List.not_lt.1 h2) (List.not_lt.1 h)))
theorem key_ordered : Ordered keyLt := by
  refine ⟨fun a => ?_, fun a b c h1 h2 => ?_⟩
  · rw [← Bool.not_eq_true, keyLt, bytesLess_lt]; exact List.lt_irrefl _
  · rw [keyLt, bytesLess_lt] at *
    exact List.lt_trans h1 h2
theorem token_total {a b : SessionD} (h : a.token ≠ b.token) : tokenLt a b = true ∨ tokenLt b a = true := by
  simp only [tokenLt, decide_eq_true_eq]; omega
theorem text_ext {a b : ByteArray} (h : a.toList = b.toList) : a = b := by
  rw [ByteArray.toList_eq, ByteArray.toList_eq] at h
  exact ByteArray.ext (Array.toList_inj.1 h)
theorem key_total {a b : ItemD} (h : a.key ≠ b.key) : keyLt a b = true ∨ keyLt b a = true := by
  rw [keyLt, keyLt, bytesLess_lt, bytesLess_lt]
  rcases text_tri a.key.toList b.key.toList with q | q | q
  · exact Or.inl q
  · exact absurd (text_ext q) h
  · exact Or.inr q
theorem tokenLt_ne {a b : SessionD} (h : tokenLt a b = true) : a.token ≠ b.token := by
  simp only [tokenLt, decide_eq_true_eq] at h; omega
theorem keyLt_ne {a b : ItemD} (h : keyLt a b = true) : a.key ≠ b.key := by
  intro e
  rw [keyLt, bytesLess_lt, e] at h
  exact List.lt_irrefl _ h

def txt (l : List UInt8) : ByteArray := ⟨l.toArray⟩
def decT (n : Int) : ByteArray := ⟨(dec n).toArray⟩
theorem decT_len {n : Int} (h0 : 0 ≤ n) (h1 : n ≤ 1000000000) : (decT n).size ≤ 19 := by
  have h := dd_len 19 n.natAbs (by omega)
  show (dec n).toArray.size ≤ 19
  rw [List.size_toArray]
  unfold dec
  split
  · decide
  · rw [if_neg (by omega)]
    exact h
/-- what is done to the items, and replied -/
def putD (li : List ItemD) (index : Int) (x : CommandD) : List ItemD × ByteArray :=
  if (putIn keyLt li ⟨x.key, x.val, index⟩).length > 8 then (li, txt [102, 117, 108, 108]) else (putIn keyLt li ⟨x.key, x.val, index⟩, txt [112, 117, 116, 32] ++ decT index)
def doD (li : List ItemD) (index : Int) (x : CommandD) : List ItemD × ByteArray :=
  if x.op = 2 then putD li index x
  else if (itemOf li x.key).2 = false then (li, txt [110, 111])
  else if x.op = 3 then (li, txt [105, 115, 32] ++ decT (itemOf li x.key).1.ver ++ txt [32] ++ (itemOf li x.key).1.val)
  else if x.op = 4 then (li.filter (fun e => !(e.key.toList == x.key.toList)), txt [100, 114, 111, 112])
  else if (itemOf li x.key).1.ver = x.ver then putD li index x
  else (li, txt [110, 111, 116, 32] ++ decT (itemOf li x.key).1.ver)
def openedD (ls : List SessionD) (index : Int) : List SessionD :=
  if (putIn tokenLt ls ⟨index, 0, ⟨#[]⟩⟩).length > 3 then (putIn tokenLt ls ⟨index, 0, ⟨#[]⟩⟩).tail else putIn tokenLt ls ⟨index, 0, ⟨#[]⟩⟩
def sessOf (ls : List SessionD) (token : Int) : Option SessionD := ls.find? (fun e => e.token == token)
structure KeepD where
  ss : List SessionD
  is : List ItemD
  reply : ByteArray
  ok : Bool
def askD (ls : List SessionD) (li : List ItemD) (index : Int) (x : CommandD) (s : SessionD) : KeepD :=
  if x.seq = 0 ∨ x.seq < s.last then ⟨ls, li, txt [111, 108, 100], true⟩
  else if x.seq = s.last then ⟨ls, li, s.reply, true⟩
  else if x.seq > s.last + 1 then ⟨ls, li, txt [103, 97, 112], true⟩
  else ⟨putIn tokenLt ls ⟨x.token, x.seq, (doD li index x).2⟩, (doD li index x).1, (doD li index x).2, true⟩
def doneD (ls : List SessionD) (li : List ItemD) (index : Int) (x : CommandD) : KeepD :=
  if x.op = 1 then ⟨openedD ls index, li, txt [111, 112, 101, 110, 32] ++ decT index, true⟩
  else match sessOf ls x.token with
    | none => ⟨ls, li, txt [110, 111, 110, 101], true⟩
    | some s => askD ls li index x s
def mayDo (ls : List SessionD) (li : List ItemD) (index : Int) (x : CommandD) : Bool := keepOk ls li && (within index 1 400000 && commandOk x)
def performD (ls : List SessionD) (li : List ItemD) (index : Int) (x : CommandD) : KeepD :=
  if mayDo ls li index x = true then doneD ls li index x else ⟨[], [], ⟨#[]⟩, false⟩
theorem sessOf_some {ls : List SessionD} {t : Int} {s : SessionD} (h : sessOf ls t = some s) : s ∈ ls ∧ s.token = t :=
  ⟨List.mem_of_find?_eq_some h, by have := List.find?_some h; simpa using this⟩
theorem sessOf_none {ls : List SessionD} {t : Int} (h : sessOf ls t = none) : ∀ s ∈ ls, s.token ≠ t := by
  intro s hs
  have := List.find?_eq_none.1 h s hs
  simpa using this
theorem itemOf_true {li : List ItemD} {k : ByteArray} (h : (itemOf li k).2 = true) : (itemOf li k).1 ∈ li ∧ (itemOf li k).1.key = k := by
  unfold itemOf at h ⊢
  cases hf : li.find? (fun e => e.key.toList == k.toList) with
  | none => rw [hf] at h; cases h
  | some e =>
    simp only
    refine ⟨List.mem_of_find?_eq_some hf, ?_⟩
    have := List.find?_some hf
    exact text_ext (by simpa using this)
theorem itemOf_false {li : List ItemD} {k : ByteArray} (h : (itemOf li k).2 = false) : ∀ e ∈ li, e.key ≠ k := by
  unfold itemOf at h
  cases hf : li.find? (fun e => e.key.toList == k.toList) with
  | none =>
    intro e he q
    have := List.find?_eq_none.1 hf e he
    rw [q] at this
    simp at this
  | some e => rw [hf] at h; cases h
/-- putting in what is there already, or what is new -/
theorem len_putIn {α : Type} {lt : α → α → Bool} (l : List α) (x : α) : (putIn lt l x).length = (l.filter (fun a => lt a x)).length + (l.filter (fun a => lt x a)).length + 1 := by
  simp [putIn]; omega
theorem mem_putS {ls : List SessionD} {x y : SessionD} : y ∈ putIn tokenLt ls x ↔ y = x ∨ y ∈ ls ∧ y.token ≠ x.token := by
  rw [mem_putIn]
  constructor
  · rintro (h | ⟨h, q | q⟩)
    · exact Or.inl h
    · exact Or.inr ⟨h, tokenLt_ne q⟩
    · exact Or.inr ⟨h, (tokenLt_ne q).symm⟩
  · rintro (h | ⟨h, q⟩)
    · exact Or.inl h
    · exact Or.inr ⟨h, token_total q⟩
theorem mem_putK {li : List ItemD} {x y : ItemD} : y ∈ putIn keyLt li x ↔ y = x ∨ y ∈ li ∧ y.key ≠ x.key := by
  rw [mem_putIn]
  constructor
  · rintro (h | ⟨h, q | q⟩)
    · exact Or.inl h
    · exact Or.inr ⟨h, keyLt_ne q⟩
    · exact Or.inr ⟨h, (keyLt_ne q).symm⟩
  · rintro (h | ⟨h, q⟩)
    · exact Or.inl h
    · exact Or.inr ⟨h, key_total q⟩
theorem less_flip (a b : List UInt8) : Op.bytesLess b a = !(Op.bytesLess a b || a == b) := by
  have h1 := bytesLess_lt a b
  have h2 := bytesLess_lt b a
  rcases text_tri a b with q | q | q
  · rw [h1.2 q, Bool.true_or, Bool.not_true, ← Bool.not_eq_true, h2]
    exact fun q2 => List.lt_irrefl _ (List.lt_trans q q2)
  · subst q
    rw [beq_self_eq_true, Bool.or_true, Bool.not_true, ← Bool.not_eq_true, h2]
    exact List.lt_irrefl _
  · have e1 : Op.bytesLess a b = false := by
      rw [← Bool.not_eq_true, h1]
      exact fun q2 => List.lt_irrefl _ (List.lt_trans q q2)
    have e2 : (a == b) = false := by
      rw [beq_eq_false_iff_ne]
      intro e
      subst e
      exact List.lt_irrefl _ q
    rw [h2.2 q, e1, e2]
    rfl
/-- a list, and behind it those of the first k for which p holds -/
def rowsOf {α : Type} (P : List α) (p : α → Bool) (l : List α) (k : Nat) : List α := P ++ (l.take k).filter p
theorem rowsOf_step {α : Type} (P : List α) (p : α → Bool) (l : List α) (k : Nat) (hk : k < l.length) : rowsOf P p l (k + 1) = rowsOf P p l k ++ (if p l[k] = true then [l[k]] else []) := by
  rw [rowsOf, rowsOf, List.take_succ_eq_append_getElem hk, List.filter_append, List.append_assoc]
  cases h : p l[k] <;> simp [h]
theorem rowsOf_le {α : Type} (P : List α) (p : α → Bool) (l : List α) (k : Nat) : (rowsOf P p l k).length ≤ P.length + l.length := by
  have := List.length_filter_le p (l.take k)
  rw [List.length_take] at this
  rw [rowsOf, List.length_append]
  omega
theorem rowsOf_zero {α : Type} (P : List α) (p : α → Bool) (l : List α) : rowsOf P p l 0 = P := by simp [rowsOf]
theorem rowsOf_all {α : Type} (P : List α) (p : α → Bool) (l : List α) : rowsOf P p l l.length = P ++ l.filter p := by simp [rowsOf]
theorem putIn_rows {α : Type} (lt : α → α → Bool) (l : List α) (x : α) : putIn lt l x = rowsOf (rowsOf [] (fun a => lt a x) l l.length ++ [x]) (fun a => lt x a) l l.length := by
  rw [rowsOf_all, rowsOf_all, List.nil_append, putIn, List.append_assoc]
  rfl
end Go.Proofs.YtdgohbhffjinmaaDoor

namespace Go.Proofs.YtdgohbhffjinmaaDoor
open Go.RowKit Go.Sort

theorem asc_at {α : Type} {lt : α → α → Bool} {l : List α} (h : AscBy lt l) {i j : Nat} (hij : i < j) (hj : j < l.length) : lt (l[i]'(by omega)) l[j] = true := List.pairwise_iff_getElem.1 h i j (by omega) hj hij
theorem keep_facts {ls : List SessionD} {li : List ItemD} (h : keepOk ls li = true) : (AscBy tokenLt ls ∧ (∀ s ∈ ls, sessionFine s = true) ∧ ls.length ≤ 3) ∧ AscBy keyLt li ∧ (∀ e ∈ li, itemFine e = true) ∧ li.length ≤ 8 := by
  simp only [keepOk, sessionsRight, itemsRight, Bool.and_eq_true, decide_eq_true_eq] at h
  obtain ⟨⟨h1, h2⟩, h3, h4⟩ := h
  have a := rowOk_asc token_ordered h1
  have b := rowOk_asc key_ordered h3
  exact ⟨⟨a.1, a.2, by omega⟩, b.1, b.2, by omega⟩
theorem facts_keep {ls : List SessionD} {li : List ItemD} (h : (AscBy tokenLt ls ∧ (∀ s ∈ ls, sessionFine s = true) ∧ ls.length ≤ 3) ∧ AscBy keyLt li ∧ (∀ e ∈ li, itemFine e = true) ∧ li.length ≤ 8) : keepOk ls li = true := by
  obtain ⟨⟨h1, h2, h3⟩, h4, h5, h6⟩ := h
  simp only [keepOk, sessionsRight, itemsRight, Bool.and_eq_true, decide_eq_true_eq]
  exact ⟨⟨asc_rowOk h1 h2, by omega⟩, asc_rowOk h4 h5, by omega⟩
theorem asc_token {ls : List SessionD} (h : AscBy tokenLt ls) {i j : Nat} (hi : i < ls.length) (hj : j < ls.length) (e : ls[i].token = ls[j].token) : i = j := by
  rcases Nat.lt_trichotomy i j with q | q | q
  · exact absurd e (tokenLt_ne (asc_at h q hj))
  · exact q
  · exact absurd e.symm (tokenLt_ne (asc_at h q hi))
theorem asc_key {li : List ItemD} (h : AscBy keyLt li) {i j : Nat} (hi : i < li.length) (hj : j < li.length) (e : li[i].key = li[j].key) : i = j := by
  rcases Nat.lt_trichotomy i j with q | q | q
  · exact absurd e (keyLt_ne (asc_at h q hj))
  · exact q
  · exact absurd e.symm (keyLt_ne (asc_at h q hi))
theorem token_one {ls : List SessionD} (h : AscBy tokenLt ls) {a b : SessionD} (ha : a ∈ ls) (hb : b ∈ ls) (e : a.token = b.token) : a = b := by
  obtain ⟨i, hi, rfl⟩ := List.getElem_of_mem ha
  obtain ⟨j, hj, rfl⟩ := List.getElem_of_mem hb
  obtain rfl := asc_token h hi hj e
  rfl
theorem key_one {li : List ItemD} (h : AscBy keyLt li) {a b : ItemD} (ha : a ∈ li) (hb : b ∈ li) (e : a.key = b.key) : a = b := by
  obtain ⟨i, hi, rfl⟩ := List.getElem_of_mem ha
  obtain ⟨j, hj, rfl⟩ := List.getElem_of_mem hb
  obtain rfl := asc_key h hi hj e
  rfl
theorem sessOf_at {ls : List SessionD} (h : AscBy tokenLt ls) {p : Nat} (hp : p < ls.length) {t : Int} (ht : ls[p].token = t) : sessOf ls t = some ls[p] := by
  cases hs : sessOf ls t with
  | none => exact absurd ht (sessOf_none hs _ (List.getElem_mem hp))
  | some s =>
    obtain ⟨h1, h2⟩ := sessOf_some hs
    rw [token_one h h1 (List.getElem_mem hp) (by rw [h2, ht])]
theorem sessOf_not {ls : List SessionD} {t : Int} (h : ∀ j (hj : j < ls.length), ls[j].token ≠ t) : sessOf ls t = none := by
  rw [sessOf, List.find?_eq_none]
  intro x hx
  obtain ⟨j, hj, rfl⟩ := List.getElem_of_mem hx
  simpa using h j hj
theorem asc_set {ls : List SessionD} (h : AscBy tokenLt ls) {p : Nat} (hp : p < ls.length) {y : SessionD} (hy : y.token = ls[p].token) : AscBy tokenLt (ls.set p y) := by
  refine List.pairwise_iff_getElem.2 fun i j hi hj hij => ?_
  rw [List.length_set] at hi hj
  have q := asc_at h hij hj
  simp only [tokenLt, decide_eq_true_eq] at q ⊢
  rw [List.getElem_set, List.getElem_set]
  split
  · rename_i e
    subst e
    rw [if_neg (by omega), hy]
    exact q
  · split
    · rename_i e
      subst e
      rw [hy]
      exact q
    · exact q
theorem set_putIn {ls : List SessionD} (h : AscBy tokenLt ls) {p : Nat} (hp : p < ls.length) {y : SessionD} (hy : y.token = ls[p].token) : ls.set p y = putIn tokenLt ls y := by
  refine asc_same token_ordered (asc_set h hp hy) (asc_putIn token_ordered h y) fun x => ?_
  rw [mem_putS]
  constructor
  · intro hx
    obtain ⟨j, hj, rfl⟩ := List.getElem_of_mem hx
    rw [List.length_set] at hj
    rw [List.getElem_set]
    split
    · exact Or.inl rfl
    · rename_i e
      exact Or.inr ⟨List.getElem_mem hj, fun q => e (asc_token h hp hj (by rw [q, hy]))⟩
  · rintro (rfl | ⟨hx, hne⟩)
    · exact List.mem_set hp x
    · obtain ⟨j, hj, rfl⟩ := List.getElem_of_mem hx
      have hjp : p ≠ j := fun e => hne (by subst e; exact hy.symm)
      have : (ls.set p y)[j]'(by rw [List.length_set]; exact hj) = ls[j] := by rw [List.getElem_set, if_neg hjp]
      rw [← this]
      exact List.getElem_mem _
theorem cells_set2 {ls : List SessionD} {p : Nat} (hp : p < ls.length) (q : Int) (r : ByteArray) : ((sessionCells ls).set (p * 3 + 1) (.int .i64 q)).set (p * 3 + 2) (.string r) = sessionCells (ls.set p ⟨ls[p].token, q, r⟩) := by
  have e0 : ls.take p ++ ls[p] :: ls.drop (p + 1) = ls := by rw [← List.drop_eq_getElem_cons hp, List.take_append_drop]
  have e1 : sessionCells ls = sessionCells (ls.take p) ++ (.int .i64 ls[p].token :: .int .i64 ls[p].last :: .string ls[p].reply :: sessionCells (ls.drop (p + 1))) := by
    refine (congrArg sessionCells e0.symm).trans ?_
    rw [sessionCells, List.flatMap_append, List.flatMap_cons]
    rfl
  have e2 : ls.set p ⟨ls[p].token, q, r⟩ = ls.take p ++ ⟨ls[p].token, q, r⟩ :: ls.drop (p + 1) := by rw [List.set_eq_take_append_cons_drop, if_pos hp]
  have hlen : (sessionCells (ls.take p)).length = p * 3 := by rw [sessionCells_length, List.length_take]; omega
  rw [e1, e2, List.set_append_right _ _ (by omega), List.set_append_right _ _ (by omega), hlen, show p * 3 + 1 - p * 3 = 1 by omega, show p * 3 + 2 - p * 3 = 2 by omega]
  simp [sessionCells, sessionEnc]
/-- what a right command's fields are -/
theorem command_ops {x : CommandD} (h : commandOk x = true) : (x.op = 1 ∨ x.op = 2 ∨ x.op = 3 ∨ x.op = 4 ∨ x.op = 5) ∧ (0 ≤ x.token ∧ x.token ≤ 1000000) ∧ (0 ≤ x.seq ∧ x.seq ≤ 1000000) := by
  simp only [commandOk, within, Bool.and_eq_true, decide_eq_true_eq] at h
  omega
theorem command_key {x : CommandD} (h : commandOk x = true) : x.key.size ≤ 8 ∧ x.val.size ≤ 20 := by
  simp only [commandOk, within, Bool.and_eq_true, decide_eq_true_eq] at h
  obtain ⟨_, _, _, h⟩ := h
  split at h
  · simp only [Bool.and_eq_true, decide_eq_true_eq] at h
    omega
  · simp only [Bool.and_eq_true, decide_eq_true_eq] at h
    omega
theorem session_bounds {s : SessionD} (h : sessionFine s = true) : (1 ≤ s.token ∧ s.token ≤ 1000000) ∧ (0 ≤ s.last ∧ s.last ≤ 1000000) ∧ s.reply.size ≤ 40 := by
  simp only [sessionFine, within, Bool.and_eq_true, decide_eq_true_eq] at h
  omega
theorem item_bounds {e : ItemD} (h : itemFine e = true) : (1 ≤ e.key.size ∧ e.key.size ≤ 8) ∧ e.val.size ≤ 20 ∧ (1 ≤ e.ver ∧ e.ver ≤ 1000000000) := by
  simp only [itemFine, within, Bool.and_eq_true, decide_eq_true_eq] at h
  omega
theorem may_facts {ls : List SessionD} {li : List ItemD} {index : Int} {x : CommandD} (h : mayDo ls li index x = true) : (0 ≤ index ∧ index ≤ 400000) ∧ ((AscBy tokenLt ls ∧ (∀ s ∈ ls, sessionFine s = true) ∧ ls.length ≤ 3) ∧ AscBy keyLt li ∧ (∀ e ∈ li, itemFine e = true) ∧ li.length ≤ 8) ∧ commandOk x = true := by
  simp only [mayDo, within, Bool.and_eq_true, decide_eq_true_eq] at h
  exact ⟨by omega, keep_facts h.1, h.2.2⟩
theorem split_len {α : Type} {lt : α → α → Bool} (ho : Ordered lt) (x : α) : ∀ (l : List α), (l.filter (fun a => lt a x)).length + (l.filter (fun a => lt x a)).length + (l.filter (fun a => !(lt a x) && !(lt x a))).length = l.length
  | [] => rfl
  | a :: l => by
    have ih := split_len ho x l
    cases h1 : lt a x with
    | true =>
      have h2 : lt x a = false := by
        rw [← Bool.not_eq_true]
        intro h2
        have := ho.trans _ _ _ h1 h2
        rw [ho.irrefl] at this
        cases this
      simp [h1, h2]
      omega
    | false =>
      cases h2 : lt x a with
      | true => simp [h1, h2]; omega
      | false => simp [h1, h2]; omega
theorem one_len {α : Type} {lt : α → α → Bool} {l : List α} (h : AscBy lt l) {p : α → Bool} (hp : ∀ a b, p a = true → p b = true → lt a b = false) : (l.filter p).length ≤ 1 := by
  have hq := asc_filter h p
  match hm : l.filter p with
  | [] => simp
  | [_] => simp
  | a :: b :: r =>
    rw [hm] at hq
    have h1 := (List.pairwise_cons.1 hq).1 b (by simp)
    have ha : a ∈ l.filter p := by rw [hm]; simp
    have hb : b ∈ l.filter p := by rw [hm]; simp
    rw [hp a b (List.mem_filter.1 ha).2 (List.mem_filter.1 hb).2] at h1
    cases h1
/-- how many there are behind a put -/
theorem putK_len {li : List ItemD} (h : AscBy keyLt li) (x : ItemD) : (putIn keyLt li x).length = if (itemOf li x.key).2 = true then li.length else li.length + 1 := by
  have h1 := split_len key_ordered x li
  have same : ∀ a, (!(keyLt a x) && !(keyLt x a)) = true → a.key = x.key := by
    intro a ha
    simp only [Bool.and_eq_true, Bool.not_eq_true'] at ha
    rcases Decidable.em (a.key = x.key) with q | q
    · exact q
    · rcases key_total q with q | q
      · rw [ha.1] at q; cases q
      · rw [ha.2] at q; cases q
  have h2 := one_len h (p := fun a => !(keyLt a x) && !(keyLt x a)) (fun a b ha hb => by
    rw [← Bool.not_eq_true]
    intro q
    exact keyLt_ne q ((same a ha).trans (same b hb).symm))
  rw [len_putIn]
  cases hi : (itemOf li x.key).2 with
  | true =>
    obtain ⟨m1, m2⟩ := itemOf_true hi
    have h3 : 0 < (li.filter (fun a => !(keyLt a x) && !(keyLt x a))).length := by
      refine List.length_pos_of_mem (a := (itemOf li x.key).1) (List.mem_filter.2 ⟨m1, ?_⟩)
      have e1 : keyLt (itemOf li x.key).1 x = false := by rw [← Bool.not_eq_true]; exact fun q => keyLt_ne q m2
      have e2 : keyLt x (itemOf li x.key).1 = false := by rw [← Bool.not_eq_true]; exact fun q => keyLt_ne q m2.symm
      rw [e1, e2]
      rfl
    rw [if_pos rfl]
    omega
  | false =>
    have h3 : (li.filter (fun a => !(keyLt a x) && !(keyLt x a))).length = 0 := by
      rw [List.length_eq_zero_iff, List.filter_eq_nil_iff]
      intro a ha q
      exact itemOf_false hi a ha (same a q)
    rw [if_neg (by simp)]
    omega
end Go.Proofs.YtdgohbhffjinmaaDoor

namespace Go.Proofs.YtdgohbhffjinmaaDoor
open Go.RowKit

/-- what the low seven bits of the bytes make, the least first -/
def val : List UInt8 → Nat
  | [] => 0
  | b :: r => b.toNat % 128 + 128 * val r

theorem val_snoc (p : List UInt8) (b : UInt8) : val (p ++ [b]) = val p + b.toNat % 128 * 128 ^ p.length := by
  induction p with
  | nil => simp [val]
  | cons x p ih =>
    simp only [List.cons_append, val, ih, List.length_cons, Nat.pow_succ, Nat.mul_add]
    rw [show b.toNat % 128 * (128 ^ p.length * 128) = 128 * (b.toNat % 128 * 128 ^ p.length) from by rw [Nat.mul_comm (128 ^ p.length) 128, Nat.mul_left_comm]]
    omega

theorem val_lt (p : List UInt8) : val p < 128 ^ p.length := by
  induction p with
  | nil => simp [val]
  | cons x p ih =>
    simp only [val, List.length_cons, Nat.pow_succ]
    omega

theorem val_zero_last (p : List UInt8) (b : UInt8) (hb : b.toNat < 128) (h : val (p ++ [b]) = 0) : b = 0 := by
  rw [val_snoc] at h
  have h1 : b.toNat % 128 * 128 ^ p.length = 0 := by omega
  have h2 : 0 < 128 ^ p.length := Nat.pow_pos (by omega)
  rcases Nat.mul_eq_zero.1 h1 with h | h
  · apply UInt8.toNat_inj.1
    rw [Nat.mod_eq_of_lt hb] at h
    simpa using h
  · omega

/-- bytes that go on, then one that ends: they are just what would be written, unless the last is a needless nought -/
theorem vb_val (p : List UInt8) (b : UInt8) (hp : ∀ x ∈ p, 128 ≤ x.toNat) (hb : b.toNat < 128) : (vb (val (p ++ [b])) = p ++ [b]) ↔ ¬ (b = 0 ∧ p ≠ []) := by
  induction p with
  | nil =>
    have : vb (val [b]) = [b] := by
      have e : val [b] = b.toNat := by simp [val]; omega
      rw [e, vb_small (by omega)]; simp
    simp [this]
  | cons x p ih =>
    have hx := hp x (by simp)
    have hx2 := x.toNat_lt
    have ih' := ih fun y hy => hp y (by simp [hy])
    simp only [List.cons_append, val]
    by_cases hv : val (p ++ [b]) = 0
    · have hb0 := val_zero_last p b hb hv
      rw [hv, vb_small (by omega)]
      constructor
      · intro h
        have := congrArg List.length h
        simp at this
      · intro h
        exact absurd ⟨hb0, by simp⟩ h
    · rw [vb_big (by omega)]
      have e1 : (x.toNat % 128 + 128 * val (p ++ [b])) % 128 + 128 = x.toNat := by omega
      have e2 : (x.toNat % 128 + 128 * val (p ++ [b])) / 128 = val (p ++ [b]) := by omega
      rw [e1, e2]
      simp only [UInt8.ofNat_toNat, List.cons.injEq, true_and]
      rw [ih']
      constructor
      · rintro h ⟨h1, _⟩
        apply h
        refine ⟨h1, ?_⟩
        rintro rfl
        apply hv
        simp [val, h1]
      · rintro h ⟨h1, _⟩
        exact h ⟨h1, by simp⟩

/-- reading on: p has been read, l is what is left -/
def rvFrom (p : List UInt8) : List UInt8 → Option (Nat × Nat)
  | [] => none
  | b :: r => if 5 ≤ p.length then none else if b.toNat < 128 then (if 1000000000 < val (p ++ [b]) ∨ (b = 0 ∧ p ≠ []) then none else some (val (p ++ [b]), p.length + 1)) else rvFrom (p ++ [b]) r

def rv (l : List UInt8) : Option (Nat × Nat) := rvFrom [] l

theorem rvFrom_full (p l : List UInt8) (h : 5 ≤ p.length) : rvFrom p l = none := by cases l <;> simp [rvFrom, h]
theorem rvFrom_on (p r : List UInt8) (b : UInt8) (h : p.length < 5) (hb : 128 ≤ b.toNat) : rvFrom p (b :: r) = rvFrom (p ++ [b]) r := by
  rw [rvFrom, if_neg (by omega), if_neg (by omega)]
theorem rvFrom_no (p r : List UInt8) (b : UInt8) (h : p.length < 5) (hb : b.toNat < 128) (hv : 1000000000 < val (p ++ [b]) ∨ (b = 0 ∧ p ≠ [])) : rvFrom p (b :: r) = none := by
  rw [rvFrom, if_neg (by omega), if_pos hb, if_pos hv]
theorem rvFrom_yes (p r : List UInt8) (b : UInt8) (h : p.length < 5) (hb : b.toNat < 128) (hv : ¬ (1000000000 < val (p ++ [b]) ∨ (b = 0 ∧ p ≠ []))) : rvFrom p (b :: r) = some (val (p ++ [b]), p.length + 1) := by
  rw [rvFrom, if_neg (by omega), if_pos hb, if_neg hv]

theorem rvFrom_some {p l : List UInt8} {n c : Nat} (h : rvFrom p l = some (n, c)) : n ≤ 1000000000 ∧ p.length < c ∧ c ≤ p.length + l.length := by
  induction l generalizing p with
  | nil => simp [rvFrom] at h
  | cons b r ih =>
    rw [rvFrom] at h
    split at h
    · cases h
    · split at h
      · split at h
        · cases h
        · simp only [Option.some.injEq, Prod.mk.injEq] at h
          obtain ⟨rfl, rfl⟩ := h
          simp only [List.length_cons]
          omega
      · have := ih h
        simp only [List.length_append, List.length_cons, List.length_nil] at this ⊢
        omega

/-- what both readers answer -/
def rvAns (a : Nat) : Option (Nat × Nat) → Value
  | none => .tuple #[.int .i64 0, .int .i64 0, .bool false]
  | some (n, c) => .tuple #[.int .i64 n, .int .i64 ((a + c : Nat) : Int), .bool true]

/-- the round's state: k bytes of the text from a on have been read, all of them go on -/
structure RvAt (s : ByteArray) (a k : Nat) (p : List UInt8) : Prop where
  lo : a ≤ k
  hi : k ≤ s.size
  five : k ≤ a + 5
  len : p.length = k - a
  on : ∀ x ∈ p, 128 ≤ x.toNat
  left : p = (s.data.toList.drop a).take (k - a)
  rv : rv (s.data.toList.drop a) = rvFrom p (s.data.toList.drop k)

theorem RvAt.start (s : ByteArray) (a : Nat) (h : a ≤ s.size) : RvAt s a a [] :=
  ⟨Nat.le_refl _, h, by omega, by simp, by simp, by simp, rfl⟩

theorem drop_cons (s : ByteArray) (k : Nat) (h : k < s.size) : s.data.toList.drop k = s[k] :: s.data.toList.drop (k + 1) := by
  rw [List.drop_eq_getElem_cons (by simpa using h)]; rfl

theorem RvAt.take {s : ByteArray} {a k : Nat} {p : List UInt8} (h : RvAt s a k p) (hk : k < s.size) : p ++ [s[k]] = (s.data.toList.drop a).take (k + 1 - a) := by
  have h1 := h.lo
  have e : k + 1 - a = (k - a) + 1 := by omega
  rw [e, List.take_succ_eq_append_getElem (by simp only [List.length_drop, Array.length_toList]; have : s.data.size = s.size := rfl; omega), ← h.left]
  congr 2
  simp only [List.getElem_drop, Array.getElem_toList, show a + (k - a) = k by omega]
  rfl

theorem RvAt.step {s : ByteArray} {a k : Nat} {p : List UInt8} (h : RvAt s a k p) (hk : k < s.size) (h5 : k < a + 5) (hb : 128 ≤ s[k].toNat) : RvAt s a (k + 1) (p ++ [s[k]]) := by
  have h1 := h.lo
  have h2 := h.len
  refine ⟨by omega, by omega, by omega, by simp; omega, ?_, h.take hk, ?_⟩
  · intro x hx
    rcases List.mem_append.1 hx with hx | hx
    · exact h.on x hx
    · simp at hx; subst hx; exact hb
  · rw [h.rv, drop_cons s k hk, rvFrom_on _ _ _ (by omega) hb]

theorem RvAt.none_end {s : ByteArray} {a k : Nat} {p : List UInt8} (h : RvAt s a k p) (he : s.size ≤ k ∨ a + 5 ≤ k) : Go.Proofs.YtdgohbhffjinmaaDoor.rv (s.data.toList.drop a) = none := by
  rw [h.rv]
  rcases he with he | he
  · have : s.data.toList.drop k = [] := List.drop_eq_nil_of_le (by simpa using he)
    rw [this]; rfl
  · exact rvFrom_full _ _ (by have := h.len; omega)

theorem RvAt.no {s : ByteArray} {a k : Nat} {p : List UInt8} (h : RvAt s a k p) (hk : k < s.size) (h5 : k < a + 5) (hb : s[k].toNat < 128) (hv : 1000000000 < val (p ++ [s[k]]) ∨ (s[k] = 0 ∧ a < k)) :
    Go.Proofs.YtdgohbhffjinmaaDoor.rv (s.data.toList.drop a) = none := by
  have h1 := h.lo
  have h2 := h.len
  rw [h.rv, drop_cons s k hk]
  refine rvFrom_no _ _ _ (by omega) hb ?_
  rcases hv with hv | ⟨hv, hk'⟩
  · exact Or.inl hv
  · exact Or.inr ⟨hv, by rintro rfl; simp at h2; omega⟩

theorem RvAt.yes {s : ByteArray} {a k : Nat} {p : List UInt8} (h : RvAt s a k p) (hk : k < s.size) (h5 : k < a + 5) (hb : s[k].toNat < 128) (hv : val (p ++ [s[k]]) ≤ 1000000000) (hz : ¬ (s[k] = 0 ∧ a < k)) :
    Go.Proofs.YtdgohbhffjinmaaDoor.rv (s.data.toList.drop a) = some (val (p ++ [s[k]]), k + 1 - a) := by
  have h1 := h.lo
  have h2 := h.len
  rw [h.rv, drop_cons s k hk, rvFrom_yes _ _ _ (by omega) hb, show k + 1 - a = p.length + 1 by omega]
  rintro (h | ⟨h, h'⟩)
  · omega
  · exact hz ⟨h, by rcases Nat.lt_or_ge a k with q | q; exact q; exact absurd (List.eq_nil_of_length_eq_zero (by omega)) h'⟩

/-- the bounds of a round -/
theorem RvAt.bounds {s : ByteArray} {a k : Nat} {p : List UInt8} (h : RvAt s a k p) (h5 : k < a + 5) (b : Nat) : val p < 268435456 ∧ 1 ≤ 128 ^ (k - a) ∧ 128 ^ (k - a) ≤ 268435456 ∧ b % 128 * 128 ^ (k - a) ≤ 34091302912 := by
  have h1 := h.lo
  have h2 : 128 ^ (k - a) ≤ 128 ^ 4 := Nat.pow_le_pow_right (by omega) (by omega)
  have h3 : 0 < 128 ^ (k - a) := Nat.pow_pos (by omega)
  have h4 := val_lt p
  rw [h.len] at h4
  have h6 : b % 128 * 128 ^ (k - a) ≤ 127 * 128 ^ 4 := Nat.mul_le_mul (by omega) h2
  simp only [show (128 : Nat) ^ 4 = 268435456 from rfl] at h2 h6
  omega

theorem RvAt.val_step {s : ByteArray} {a k W : Nat} {p : List UInt8} (h : RvAt s a k p) (hW : W = 128 ^ (k - a)) (b : UInt8) : ((val (p ++ [b]) : Nat) : Int) = (val p : Int) + (b.toNat : Int) % 128 * (W : Int) := by
  rw [val_snoc, h.len, ← hW]
  simp

theorem RvAt.W_step {s : ByteArray} {a k W : Nat} {p : List UInt8} (h : RvAt s a k p) (hW : W = 128 ^ (k - a)) : W * 128 = 128 ^ (k + 1 - a) := by
  have := h.lo
  rw [hW, show k + 1 - a = (k - a) + 1 by omega, Nat.pow_succ]

theorem RvAt.same {s : ByteArray} {a k : Nat} {p : List UInt8} (h : RvAt s a k p) (hk : k < s.size) (hb : s[k].toNat < 128) : (vb (val (p ++ [s[k]])) = (s.extract a (k + 1)).toList) ↔ ¬ (s[k] = 0 ∧ a < k) := by
  rw [ByteArray.toList_eq, extract_eq, ← h.take hk, vb_val _ _ h.on hb]
  have h1 := h.lo
  have h2 := h.len
  constructor
  · rintro h3 ⟨h4, h5⟩
    exact h3 ⟨h4, by rintro rfl; simp at h2; omega⟩
  · rintro h3 ⟨h4, h5⟩
    exact h3 ⟨h4, by rcases Nat.lt_or_ge a k with q | q; exact q; exact absurd (List.eq_nil_of_length_eq_zero (by omega)) h5⟩
theorem RvAt.differs {s : ByteArray} {a k : Nat} {p : List UInt8} (h : RvAt s a k p) (hk : k < s.size) (hb : s[k].toNat < 128) (hn : (!vb (val (p ++ [s[k]])) == (s.extract a (k + 1)).toList) = true) : s[k] = 0 ∧ a < k := by
  simp only [Bool.not_eq_true', beq_eq_false_iff_ne, ne_eq] at hn
  exact Decidable.byContradiction fun h3 => hn ((h.same hk hb).2 h3)
theorem RvAt.meets {s : ByteArray} {a k : Nat} {p : List UInt8} (h : RvAt s a k p) (hk : k < s.size) (hb : s[k].toNat < 128) (hn : (!vb (val (p ++ [s[k]])) == (s.extract a (k + 1)).toList) = false) : ¬ (s[k] = 0 ∧ a < k) := by
  simp only [Bool.not_eq_false', beq_iff_eq] at hn
  exact (h.same hk hb).1 hn

theorem rvAns_none {a : Nat} {o : Option (Nat × Nat)} (h : o = none) : Ending.returned (.tuple #[.int .i64 0, .int .i64 0, .bool false]) = .returned (rvAns a o) := by subst h; rfl
theorem rvAns_some {a k n : Nat} {x y : Int} {o : Option (Nat × Nat)} (h : o = some (n, k + 1 - a)) (hk : a ≤ k) (hx : (n : Int) = x) (hy : (k : Int) + 1 = y) : Ending.returned (.tuple #[.int .i64 x, .int .i64 y, .bool true]) = .returned (rvAns a o) := by
  subst h hx hy
  simp only [rvAns]
  rw [show ((a + (k + 1 - a) : Nat) : Int) = (k : Int) + 1 by omega]
theorem zero_of_toNat {b : UInt8} (h : (b.toNat : Int) ≤ 0) : b = 0 := by
  apply UInt8.toNat_inj.1
  simp
  omega
theorem not_zero {b : UInt8} (h : ¬ (b.toNat : Int) ≤ 0) : b ≠ 0 := by
  rintro rfl
  simp at h
end Go.Proofs.YtdgohbhffjinmaaDoor

namespace Go.Proofs.YtdgohbhffjinmaaDoor
open Go.RowKit

theorem val_append (p q : List UInt8) : val (p ++ q) = val p + val q * 128 ^ p.length := by
  induction p with
  | nil => simp [val]
  | cons x p ih =>
    simp only [List.cons_append, val, ih, List.length_cons, Nat.pow_succ, Nat.mul_add]
    rw [show val q * (128 ^ p.length * 128) = 128 * (val q * 128 ^ p.length) from by rw [Nat.mul_comm (128 ^ p.length) 128, Nat.mul_left_comm]]
    omega

theorem val_vb (n : Nat) : val (vb n) = n := by
  induction n using Nat.strongRecOn with
  | _ n ih =>
    by_cases h : n ≤ 127
    · rw [vb_small h]; simp [val]; omega
    · rw [vb_big (by omega)]
      simp only [val, ih (n / 128) (by omega), UInt8.toNat_ofNat']
      omega

theorem vb_len {n : Nat} (h : n ≤ 1000000000) : (vb n).length ≤ 5 := by
  by_cases h1 : n ≤ 127
  · rw [vb_small h1]; simp
  rw [vb_big (by omega)]
  by_cases h2 : n / 128 ≤ 127
  · rw [vb_small h2]; simp
  rw [vb_big (by omega)]
  by_cases h3 : n / 128 / 128 ≤ 127
  · rw [vb_small h3]; simp
  rw [vb_big (by omega)]
  by_cases h4 : n / 128 / 128 / 128 ≤ 127
  · rw [vb_small h4]; simp
  rw [vb_big (by omega), vb_small (by omega)]; simp

theorem rvFrom_vb (m : Nat) : ∀ (p r : List UInt8), p.length + (vb m).length ≤ 5 → val (p ++ vb m) ≤ 1000000000 → (p = [] ∨ 0 < m) → rvFrom p (vb m ++ r) = some (val (p ++ vb m), p.length + (vb m).length) := by
  induction m using Nat.strongRecOn with
  | _ m ih =>
    intro p r h5 hv hp
    by_cases h : m ≤ 127
    · rw [vb_small h] at h5 hv ⊢
      have hb : (UInt8.ofNat m).toNat = m := by rw [UInt8.toNat_ofNat']; omega
      simp only [List.length_cons, List.length_nil] at h5 ⊢
      simp only [List.cons_append, List.nil_append]
      rw [rvFrom_yes _ _ _ (by omega) (by omega)]
      rintro (q | ⟨q1, q2⟩)
      · omega
      · rcases hp with hp | hp
        · exact q2 hp
        · have := congrArg UInt8.toNat q1
          rw [hb] at this
          simp at this
          omega
    · have e := vb_big (n := m) (by omega)
      have hb : (UInt8.ofNat (m % 128 + 128)).toNat = m % 128 + 128 := by rw [UInt8.toNat_ofNat']; omega
      have hp1 := vb_pos (m / 128)
      rw [e] at h5 hv ⊢
      simp only [List.length_cons] at h5 ⊢
      simp only [List.cons_append]
      have e2 : p ++ UInt8.ofNat (m % 128 + 128) :: vb (m / 128) = (p ++ [UInt8.ofNat (m % 128 + 128)]) ++ vb (m / 128) := by simp
      rw [e2] at hv ⊢
      rw [rvFrom_on _ _ _ (by omega) (by omega), ih (m / 128) (by omega) _ r (by simp; omega) hv (Or.inr (by omega))]
      simp only [List.length_append, List.length_cons, List.length_nil]
      congr 2
      omega

theorem rv_vb {n : Nat} (h : n ≤ 1000000000) (r : List UInt8) : rv (vb n ++ r) = some (n, (vb n).length) := by
  have := rvFrom_vb n [] r (by simpa using vb_len h) (by simpa [val_vb] using h) (Or.inl rfl)
  simpa [rv, val_vb] using this
end Go.Proofs.YtdgohbhffjinmaaDoor

namespace Go.Proofs.YtdgohbhffjinmaaDoor
open Go.RowKit

def sessB (d : SessionD) : List UInt8 := vb d.token.toNat ++ (vb d.last.toNat ++ (vb d.reply.size ++ d.reply.data.toList))
def itemB (d : ItemD) : List UInt8 := (vb d.key.size ++ d.key.data.toList) ++ ((vb d.val.size ++ d.val.data.toList) ++ vb d.ver.toNat)
def keepB (ls : List SessionD) (li : List ItemD) : List UInt8 := vb ls.length ++ (ls.flatMap sessB ++ (vb li.length ++ li.flatMap itemB))
def keepText (ls : List SessionD) (li : List ItemD) : ByteArray := ⟨(keepB ls li).toArray⟩
def keepAns (ls : List SessionD) (li : List ItemD) : Value := if keepOk ls li = true then .tuple #[.string (keepText ls li), .bool true] else .tuple #[.string ByteArray.empty, .bool false]
theorem sessB_len {d : SessionD} (h : sessionFine d = true) : (sessB d).length ≤ 60 := by
  obtain ⟨h1, h2, h3⟩ := session_bounds h
  have := vb_len (n := d.token.toNat) (by omega)
  have := vb_len (n := d.last.toNat) (by omega)
  have := vb_len (n := d.reply.size) (by omega)
  have : d.reply.data.toList.length = d.reply.size := Array.length_toList
  simp only [sessB, List.length_append]
  omega
theorem itemB_len {d : ItemD} (h : itemFine d = true) : (itemB d).length ≤ 60 := by
  obtain ⟨h1, h2, h3⟩ := item_bounds h
  have := vb_len (n := d.key.size) (by omega)
  have := vb_len (n := d.val.size) (by omega)
  have := vb_len (n := d.ver.toNat) (by omega)
  have : d.key.data.toList.length = d.key.size := Array.length_toList
  have : d.val.data.toList.length = d.val.size := Array.length_toList
  simp only [itemB, List.length_append]
  omega
theorem flat_take {α : Type} (f : α → List UInt8) (l : List α) (k : Nat) (h : k < l.length) : (l.take (k + 1)).flatMap f = (l.take k).flatMap f ++ f l[k] := by
  rw [List.take_succ_eq_append_getElem h, List.flatMap_append]
  simp
end Go.Proofs.YtdgohbhffjinmaaDoor

namespace Go.Proofs.YtdgohbhffjinmaaDoor
open Go.RowKit

def varB (n : Nat) : ByteArray := ⟨(vb n).toArray⟩
def shortB (s : ByteArray) : ByteArray := varB s.size ++ s
def cmdText (d : CommandD) : ByteArray := (⟨#[UInt8.ofNat d.op.toNat]⟩ : ByteArray) ++ varB d.token.toNat ++ varB d.seq.toNat ++ shortB d.key ++ shortB d.val ++ varB d.ver.toNat
def cmdAns (d : CommandD) : Value := if commandOk d = true then .tuple #[.string (cmdText d), .bool true] else .tuple #[.string ByteArray.empty, .bool false]
theorem cmd_bounds {x : CommandD} (h : commandOk x = true) : (1 ≤ x.op ∧ x.op ≤ 5) ∧ (0 ≤ x.token ∧ x.token ≤ 1000000) ∧ (0 ≤ x.seq ∧ x.seq ≤ 1000000) ∧ x.key.size ≤ 8 ∧ x.val.size ≤ 20 ∧ (0 ≤ x.ver ∧ x.ver ≤ 1000000000) := by
  simp only [commandOk, within, Bool.and_eq_true, decide_eq_true_eq] at h
  obtain ⟨h1, h2, h3, h4⟩ := h
  refine ⟨h3, h1, h2, ?_⟩
  by_cases e1 : x.op = 1
  · simp only [e1, if_true, Bool.and_eq_true, decide_eq_true_eq] at h4
    omega
  · simp only [e1, if_false, Bool.and_eq_true, decide_eq_true_eq] at h4
    obtain ⟨a, b, c⟩ := h4
    by_cases e2 : x.op = 2
    · simp only [e2, if_true, decide_eq_true_eq] at c
      omega
    · by_cases e5 : x.op = 5
      · rw [if_neg e2, if_pos e5] at c
        first | omega | (simp only [Bool.and_eq_true, decide_eq_true_eq] at c; omega)
      · rw [if_neg e2, if_neg e5] at c
        first | omega | (simp only [Bool.and_eq_true, decide_eq_true_eq] at c; omega)
theorem varB_list (n : Nat) : (varB n).data.toList = vb n := by simp [varB]
theorem cmdText_list (d : CommandD) : (cmdText d).data.toList = UInt8.ofNat d.op.toNat :: (vb d.token.toNat ++ (vb d.seq.toNat ++ ((vb d.key.size ++ d.key.data.toList) ++ ((vb d.val.size ++ d.val.data.toList) ++ vb d.ver.toNat)))) := by
  simp [cmdText, shortB, ByteArray.data_append, Array.toList_append, varB_list]
end Go.Proofs.YtdgohbhffjinmaaDoor
