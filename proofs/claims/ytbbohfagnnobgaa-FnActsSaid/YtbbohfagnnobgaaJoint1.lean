/-
  Plain facts on the bytes of a number in sevens and on rows of bytes in memory; nothing of the program stands here.
  Plain facts on rows that a call owns; nothing of the program stands here.
  A block of memory of the call's own: its cells as a list; rows of elements of so many cells each.
  Acts as data.
  Rows of the call's own that grow: what stands behind an append.
  Files as data, in memory.
  A number within bounds; nothing of the program stands here.
  Disks as plain data: when one is right.
  Numbers in memory, one behind the other.
  What the power leaves of a disk, as plain data.
  Plain facts on figures; nothing of the program stands here.
  Plain facts on the values of figures; nothing of the program stands here.
  Plain facts on decimal figures; nothing of the program stands here.
  Plain facts on check sums of 32 bits; nothing of the program stands here.
-/
import Derived.WalkKit
import Derived.Maps.AppendAt
import Derived.RowKit
import Derived.WalkSmall
import Derived.Test.YtbbohfagnnobgaaRows
import Derived.BigQuiet
import Derived.Deep.LoopGhost
import Derived.Laws.AppendOwn
namespace Go.Proofs.Ytbbohfagnnobgaa
open Go.RowKit

/-- the bytes of n, seven bits a byte, the least first (with so many steps at the most) -/
def vbF : Nat → Nat → List UInt8
  | 0, n => [UInt8.ofNat n]
  | f + 1, n => if n ≤ 127 then [UInt8.ofNat n] else UInt8.ofNat (n % 128 + 128) :: vbF f (n / 128)
/-- the bytes of n, seven bits a byte, the least first -/
def vb (n : Nat) : List UInt8 := vbF n n

theorem vbF_eq : ∀ (f g n : Nat), n ≤ f → n ≤ g → vbF f n = vbF g n
  | 0, 0, _, _, _ => rfl
  | 0, g + 1, n, h, _ => by
    obtain rfl : n = 0 := by omega
    rw [vbF, vbF, if_pos (by omega)]
  | f + 1, 0, n, _, h => by
    obtain rfl : n = 0 := by omega
    rw [vbF, vbF, if_pos (by omega)]
  | f + 1, g + 1, n, h1, h2 => by
    rw [vbF, vbF]
    by_cases h : n ≤ 127
    · rw [if_pos h, if_pos h]
    · rw [if_neg h, if_neg h, vbF_eq f g (n / 128) (by omega) (by omega)]
theorem vb_small {n : Nat} (h : n ≤ 127) : vb n = [UInt8.ofNat n] := by
  rw [vb, vbF_eq n (n + 1) n (Nat.le_refl _) (by omega), vbF, if_pos h]
theorem vb_big {n : Nat} (h : 127 < n) : vb n = UInt8.ofNat (n % 128 + 128) :: vb (n / 128) := by
  rw [vb, vbF_eq n (n + 1) n (Nat.le_refl _) (by omega), vbF, if_neg (by omega), vb, vbF_eq n (n / 128) (n / 128) (by omega) (Nat.le_refl _)]

theorem vb_pos (n : Nat) : 0 < (vb n).length := by
  by_cases h : n ≤ 127
  · rw [vb_small h]; simp
  · rw [vb_big (by omega)]; simp

theorem vb_le (n : Nat) : (vb n).length ≤ n + 1 := by
  induction n using Nat.strongRecOn with
  | _ n ih =>
    by_cases h : n ≤ 127
    · rw [vb_small h]; simp
    · rw [vb_big (by omega)]
      have := ih (n / 128) (by omega)
      simp only [List.length_cons]
      omega

/-- bytes as the cells of a row -/
def cs (l : List UInt8) : List Value := l.map fun b => Value.int .u8 (b.toNat : Int)

theorem cs_append (l r : List UInt8) : cs (l ++ r) = cs l ++ cs r := by simp [cs]
theorem cs_length (l : List UInt8) : (cs l).length = l.length := by simp [cs]
theorem cs_one {x : Int} (h0 : 0 ≤ x) (h1 : x ≤ 255) : [Value.int .u8 x] = cs [UInt8.ofNat x.toNat] := by
  simp [cs]
  omega

/-- a row that the call owns, turned into a text -/
theorem text_of_row {P : Program} {w : World} {base : Nat} {v : Value} {l : List UInt8} {src dst e : TypeId} (hs : P.underlying src = some (.slice e)) (he : P.underlying e = some (.int .u8)) (hd : P.underlying dst = some .string)
    (h : w.ownsRow base e 1 v l.length (cs l)) : (convert src dst v).run P w = .ok (.string ⟨l.toArray⟩) w := by
  obtain ⟨h1, h2⟩ := h
  rcases h2 with ⟨hv, hn⟩ | ⟨g, cap, cur, hv, hg, hh, hle, hm, hsz, hx⟩
  · have hl : l = [] := by cases l with | nil => rfl | cons a r => simp at hn
    subst hl hv
    exact run_convert_bytes_nil w src e hs he 0 0 dst hd
  · subst hv
    refine run_convert_bytes_back w src dst e ⟨g, 0, none⟩ cap l hs he hd fun j hj => ?_
    have hu : (cs l)[j]? = some (.int .u8 (l[j].toNat : Int)) := by simp [cs, hj]
    exact World.ownsRow.cells (w := w) (base := base) (e := e) (size := 1) ⟨h1, Or.inr ⟨g, cap, cur, rfl, hg, hh, hle, hm, hsz, hx⟩⟩ rfl j _ hu

/-- a piece of a text, its bounds as whole numbers -/
theorem slice_nat {P : Program} {t : TypeId} (h : P.underlying t = some .string) (s : ByteArray) (a b : Nat) (x y : Int) (hx : x = a) (hy : y = b) (hab : a ≤ b) (hb : b ≤ s.size) (w : World) :
    (Instr.slice t (.string s) (some (.int .i64 x)) (some (.int .i64 y)) none).run P w = .ok (.string (s.extract a b)) w := by
  subst hx hy
  rw [run_slice_string w t s .i64 .i64 a b h (by omega) (by omega) (by omega)]
  simp

theorem extract_eq (s : ByteArray) (a b : Nat) : (s.extract a b).data.toList = (s.data.toList.drop a).take (b - a) := by
  simp [ByteArray.extract, ByteArray.copySlice]

theorem var_step {n m : Nat} {acc : List UInt8} {w wr w1 : World} {v v' : Value} (hm : 127 < m) (hacc : acc ++ vb m = vb n) (hown : wr.ownsRow w.heap.size 5 1 v acc.length (cs acc))
    (hown' : w1.ownsRow w.heap.size 5 1 v' (acc.length + 1) (cs acc ++ [.int .u8 ((m : Int) % 128 + 128)])) (hgrow : (wr.alloc (.cells #[.int .u8 ((m : Int) % 128 + 128)] 5)).grownBy w1 v.ownBlock) (hb : Below w.heap.size w wr) :
    (acc ++ [UInt8.ofNat (m % 128 + 128)]) ++ vb (m / 128) = vb n ∧ w1.ownsRow w.heap.size 5 1 v' (acc ++ [UInt8.ofNat (m % 128 + 128)]).length (cs (acc ++ [UInt8.ofNat (m % 128 + 128)])) ∧ Below w.heap.size w w1 := by
  refine ⟨by rw [← hacc, vb_big hm]; simp, ?_, (hb.alloc hb.size _).grown hgrow (by have := hb.size; simp; omega) (fun k hk => (hown.lt k hk).1)⟩
  have e : [Value.int .u8 ((m : Int) % 128 + 128)] = cs [UInt8.ofNat (m % 128 + 128)] := by
    rw [cs_one (by omega) (by omega)]
    have : ((m : Int) % 128 + 128).toNat = m % 128 + 128 := by omega
    rw [this]
  rw [e, ← cs_append] at hown'
  simpa using hown'

theorem var_end {n m : Nat} {acc : List UInt8} {w wr w1 : World} {v v' : Value} (hm : m ≤ 127) (hacc : acc ++ vb m = vb n) (hown : wr.ownsRow w.heap.size 5 1 v acc.length (cs acc))
    (hown' : w1.ownsRow w.heap.size 5 1 v' (acc.length + 1) (cs acc ++ [.int .u8 (m : Int)])) (hgrow : (wr.alloc (.cells #[.int .u8 (m : Int)] 5)).grownBy w1 v.ownBlock) (hb : Below w.heap.size w wr) :
    w1.ownsRow w.heap.size 5 1 v' (vb n).length (cs (vb n)) ∧ Below w.heap.size w w1 := by
  refine ⟨?_, (hb.alloc hb.size _).grown hgrow (by have := hb.size; simp; omega) (fun k hk => (hown.lt k hk).1)⟩
  have e : [Value.int .u8 (m : Int)] = cs [UInt8.ofNat m] := by
    rw [cs_one (by omega) (by omega)]
    simp
  rw [e, ← cs_append, ← vb_small hm, hacc] at hown'
  have hl : acc.length + 1 = (vb n).length := by rw [← hacc, vb_small hm]; simp
  rw [hl] at hown'
  exact hown'

end Go.Proofs.Ytbbohfagnnobgaa

namespace Go.Proofs.Ytbbohfagnnobgaa
open Go.RowKit

theorem grown_of_below {w w' : World} (h : Below w.heap.size w w') (row : Option Nat) : w.grownBy w' row := ⟨h.os, h.tape, h.output, h.size, fun k hk _ => h.block k hk⟩

theorem add_at (g j : Nat) : (⟨g, 0, none⟩ : Addr).add j = ⟨g, j, none⟩ := by
  simp only [Addr.add]
  split
  · simp_all
  · simp

/-- where an owned row lies -/
theorem row_lie {w : World} {base : Nat} {e : TypeId} {v : Value} {n : Nat} {xs : List Value} (h : w.ownsRow base e 1 v n xs) :
    xs.length = n ∧ ∃ ao cap, v = .slice ao n cap ∧ (0 < n → ∃ g, ao = some ⟨g, 0, none⟩ ∧ base ≤ g ∧ g < w.heap.size ∧ n ≤ cap ∧ v.ownBlock = some g ∧ (∀ (j : Nat) u, xs[j]? = some u → w.cell? ⟨g, j, none⟩ = some u) ∧ ∀ j, w.frozen? ⟨g, j, none⟩ = false) := by
  have h' := h
  obtain ⟨h1, h2⟩ := h
  refine ⟨by omega, ?_⟩
  rcases h2 with ⟨hv, hn⟩ | ⟨g, cap, cur, hv, hgb, hh, hle, hmx, hsz, hx⟩
  · exact ⟨none, 0, by rw [hv, hn], fun h0 => by omega⟩
  · refine ⟨_, cap, hv, fun _ => ⟨g, rfl, hgb, (h'.lt g (by rw [hv]; rfl)).2, hle, by rw [hv]; rfl, fun j u hu => ?_, fun j => ?_⟩⟩
    · have := h'.cells (g := g) (by rw [hv]; rfl) j _ hu
      rw [add_at] at this
      exact this
    · simp [World.frozen?, hh]

/-- an owned row, one of its cells written -/
theorem ownsRow_set {w : World} {base : Nat} {e : TypeId} {v : Value} {n : Nat} {xs : List Value} (h : w.ownsRow base e 1 v n xs) {g : Nat} (hg : v.ownBlock = some g) (k : Nat) (u : Value) :
    (w.setCell ⟨g, k, none⟩ u).ownsRow base e 1 v n (xs.set k u) := by
  obtain ⟨h1, h2⟩ := h
  rcases h2 with ⟨hv, hn⟩ | ⟨g', cap, cur, hv, hgb, hh, hle, hmx, hsz, hx⟩
  · rw [hv] at hg; cases hg
  · rw [hv] at hg
    simp only [Value.ownBlock, Option.some.injEq] at hg
    subst hg
    refine ⟨by simpa using h1, Or.inr ⟨g', cap, cur.setIfInBounds k u, hv, hgb, ?_, hle, hmx, by simpa using hsz, ?_⟩⟩
    · simp only [World.setCell]
      rw [Array.getElem?_modify, if_pos rfl, hh]
      rfl
    · rw [Array.toList_setIfInBounds, ← hx, List.take_set]

/-- a place of an owned row may be written -/
theorem at_row {w : World} {base : Nat} {e : TypeId} {g n c : Nat} {xs : List Value} (h : w.ownsRow base e 1 (.slice (some ⟨g, 0, none⟩) n c) n xs) (k : Nat) (hk : k < n) : ∃ u, w.cell? ⟨g, k, none⟩ = some u ∧ w.frozen? ⟨g, k, none⟩ = false := by
  obtain ⟨hl, ao, cap, hv, hf⟩ := row_lie h
  obtain ⟨g', e1, _, _, _, _, hc, hz⟩ := hf (by omega)
  simp only [Value.slice.injEq] at hv
  obtain ⟨rfl, _, _⟩ := hv
  simp only [Option.some.injEq, Addr.mk.injEq, and_true] at e1
  subst e1
  have hk' : k < xs.length := by omega
  exact ⟨xs[k], hc k _ (List.getElem?_eq_getElem hk'), hz k⟩

theorem grownBy_set (w : World) (g k : Nat) (u : Value) : w.grownBy (w.setCell ⟨g, k, none⟩ u) (some g) :=
  ⟨rfl, rfl, rfl, by simp [World.setCell], fun j _ hj => Below.heap_setCell _ _ _ _ (fun e => hj (by simp [e]))⟩

/-- the one cell of a new block -/
theorem one_new (w : World) (x : Value) (t : TypeId) : ∀ (j : Nat) u, [x][j]? = some u → (w.alloc (.cells #[x] t)).cell? ((⟨w.heap.size, 0, none⟩ : Addr).add j) = some u := by
  intro j u hj
  match j, hj with
  | 0, hj => simp at hj; subst hj; simp [Addr.add]

/-- texts as the cells of a row -/
def st (l : List ByteArray) : List Value := l.map Value.string
theorem st_append (l r : List ByteArray) : st (l ++ r) = st l ++ st r := by simp [st]
theorem st_length (l : List ByteArray) : (st l).length = l.length := by simp [st]
theorem st_at (l : List ByteArray) (k : Nat) (h : k < l.length) : (st l)[k]? = some (.string l[k]) := by simp [st, h]
end Go.Proofs.Ytbbohfagnnobgaa

namespace Go.Proofs.Ytbbohfagnnobgaa
open Go.RowKit

/-- hidden from the walk -/
theorem hid {p : Prop} (h : p) : Hid p := h
theorem below_more {w w' : World} (h : Below w.heap.size w w') (o : Obj) : Below w.heap.size w (w'.alloc o) := h.alloc h.size o
theorem below_via {w w1 w2 : World} (h : Below w.heap.size w w1) (h2 : Below w1.heap.size w1 w2) : Below w.heap.size w w2 := h.trans (h2.mono h.size)

/-- block g holds just these cells, of elements of type t -/
def BlockIs (w : World) (g : Nat) (t : TypeId) (cs : List Value) : Prop := w.heap[g]? = some (.cells cs.toArray t (0, 0))

theorem BlockIs.lt {w : World} {g : Nat} {t : TypeId} {cs : List Value} (h : BlockIs w g t cs) : g < w.heap.size := by
  rcases Nat.lt_or_ge g w.heap.size with q | q
  · exact q
  · rw [BlockIs, Array.getElem?_eq_none q] at h; cases h
theorem BlockIs.cell {w : World} {g : Nat} {t : TypeId} {cs : List Value} (h : BlockIs w g t cs) {j : Nat} {v : Value} (hj : cs[j]? = some v) : w.cell? ⟨g, j, none⟩ = some v := by
  unfold BlockIs at h
  simp [World.cell?, h, hj]
theorem BlockIs.thaw {w : World} {g : Nat} {t : TypeId} {cs : List Value} (h : BlockIs w g t cs) (j : Nat) : w.frozen? ⟨g, j, none⟩ = false := by
  unfold BlockIs at h
  simp [World.frozen?, h]
theorem BlockIs.set {w : World} {g : Nat} {t : TypeId} {cs : List Value} (h : BlockIs w g t cs) (j : Nat) (v : Value) : BlockIs (w.setCell ⟨g, j, none⟩ v) g t (cs.set j v) := by
  unfold BlockIs at h ⊢
  simp only [World.setCell]
  rw [Array.getElem?_modify, if_pos rfl, h]
  simp [Array.setIfInBounds]
  exact fun hj => (List.set_eq_of_length_le hj).symm
theorem BlockIs.far {w : World} {g : Nat} {t : TypeId} {cs : List Value} (h : BlockIs w g t cs) {b j : Nat} (hb : b ≠ g) (v : Value) : BlockIs (w.setCell ⟨b, j, none⟩ v) g t cs := by
  unfold BlockIs at h ⊢
  simp only [World.setCell]
  rw [Array.getElem?_modify, if_neg hb]
  exact h
theorem BlockIs.on {w w' : World} {g : Nat} {t : TypeId} {cs : List Value} (h : BlockIs w g t cs) {B : Nat} (hb : Below B w w') (hg : g < B) : BlockIs w' g t cs := by
  unfold BlockIs
  rw [hb.block g hg]
  exact h
theorem BlockIs.made {w' : World} {g base : Nat} {t : TypeId} {n size : Nat} {xs : List Value} (h : w'.ownsRow base t size (.slice (some ⟨g, 0, none⟩) n n) n xs) : BlockIs w' g t xs := by
  obtain ⟨hx, (⟨h1, _⟩ | ⟨g', cap, cur, h1, _, hg, _, _, hs, ht⟩)⟩ := h
  · cases h1
  · cases h1
    unfold BlockIs
    rw [hg]
    have : cur.toList = xs := by rw [← ht, List.take_of_length_le (by simp [hs])]
    rw [← this]

/-- a cell of a row of elements of m cells each -/
theorem row_at {α : Type} (enc : α → List Value) (m : Nat) (hm : ∀ a, (enc a).length = m) (l : List α) (r : List Value) (j c : Nat) (hj : j < l.length) (hc : c < m) : (l.flatMap enc ++ r)[j * m + c]? = (enc l[j])[c]? := by
  induction l generalizing j with
  | nil => simp at hj
  | cons a l ih =>
    cases j with
    | zero =>
      simp only [List.flatMap_cons, Nat.zero_mul, Nat.zero_add, List.getElem_cons_zero, List.append_assoc]
      rw [List.getElem?_append_left (by rw [hm]; exact hc)]
    | succ j =>
      simp only [List.flatMap_cons, List.getElem_cons_succ, List.append_assoc]
      rw [List.getElem?_append_right (by rw [hm, Nat.succ_mul]; omega), hm, show (j + 1) * m + c - m = j * m + c by rw [Nat.succ_mul]; omega]
      exact ih j (by simpa using hj)
theorem row_length {α : Type} (enc : α → List Value) (m : Nat) (hm : ∀ a, (enc a).length = m) (l : List α) : (l.flatMap enc).length = l.length * m := by
  induction l with
  | nil => simp
  | cons a l ih => simp only [List.flatMap_cons, List.length_append, hm, ih, List.length_cons, Nat.succ_mul]; omega
/-- three cells of a list, written -/
theorem set_three (p : List Value) (a b c x y z : Value) (r : List Value) : (((p ++ x :: y :: z :: r).set p.length a).set (p.length + 1) b).set (p.length + 2) c = p ++ a :: b :: c :: r := by
  rw [List.set_append_right _ _ (Nat.le_refl _), List.set_append_right _ _ (by omega), List.set_append_right _ _ (by omega)]
  simp
end Go.Proofs.Ytbbohfagnnobgaa

namespace Go.Proofs.Ytbbohfagnnobgaa
open Go.RowKit

/-- an act as data -/
structure ActD where
  kind : Int
  name : ByteArray
  text : ByteArray
  to : ByteArray
def ActD.value (a : ActD) : Value := .agg #[.int .i64 a.kind, .string a.name, .string a.text, .string a.to]
def actEnc (a : ActD) : List Value := [.int .i64 a.kind, .string a.name, .string a.text, .string a.to]
def ActD.bulk (a : ActD) : Int := a.name.size + a.text.size + a.to.size
def ActD.Fits (a : ActD) : Prop := a.name.size ≤ 9223372036854775807 ∧ a.text.size ≤ 9223372036854775807 ∧ a.to.size ≤ 9223372036854775807
end Go.Proofs.Ytbbohfagnnobgaa

namespace Go.Proofs.Ytbbohfagnnobgaa
open Go.RowKit

theorem row_shape {w : World} {base size n : Nat} {t : TypeId} {v : Value} {xs : List Value} (h : w.ownsRow base t size v n xs) : ∃ a c, v = .slice a n c := by
  obtain ⟨_, (⟨rfl, rfl⟩ | ⟨g, cap, _, rfl, _⟩)⟩ := h
  · exact ⟨_, _, rfl⟩
  · exact ⟨_, _, rfl⟩
theorem row_down {w : World} {base base' size n : Nat} {t : TypeId} {v : Value} {xs : List Value} (h : w.ownsRow base t size v n xs) (hb : base' ≤ base) : w.ownsRow base' t size v n xs :=
  ⟨h.1, h.2.imp id fun ⟨g, cap, cur, a, b, r⟩ => ⟨g, cap, cur, a, Nat.le_trans hb b, r⟩⟩
/-- behind an append to a row of the call's own: all that was there ahead of the row stands -/
theorem behind_append {w wr w1 : World} {v : Value} {base n : Nat} {t : TypeId} {size : Nat} {xs : List Value} {o : Obj} (hB : w.heap.size ≤ base) (BR : Below w.heap.size w wr) (OR : wr.ownsRow base t size v n xs) (hz : base ≤ wr.heap.size) (hg : (wr.alloc o).drew.grownBy w1 v.ownBlock) :
    Below w.heap.size w w1 ∧ base ≤ w1.heap.size ∧ ∀ j tj cs, j < base → BlockIs wr j tj cs → BlockIs w1 j tj cs := by
  have hown : ∀ j, v.ownBlock = some j → base ≤ j := fun j hj => (OR.lt j hj).1
  have hd : Below wr.heap.size wr (wr.alloc o).drew := below_drewN (below_more (Below.refl _ wr) o) 1
  have h1 : Below base wr w1 := ((hd.mono hz).grown hg (Nat.le_trans hz hd.size) hown)
  refine ⟨BR.trans (h1.mono hB), Nat.le_trans hz h1.size, fun j tj cs hj hb => hb.on h1 hj⟩
end Go.Proofs.Ytbbohfagnnobgaa

namespace Go.Proofs.Ytbbohfagnnobgaa
open Go.RowKit

/-- a file as data -/
structure FileD where
  name : ByteArray
  text : ByteArray
  kept : Int

def FileD.value (f : FileD) : Value := .agg #[.string f.name, .string f.text, .int .i64 f.kept]

/-- the cells of files -/
def fileEnc (f : FileD) : List Value := [.string f.name, .string f.text, .int .i64 f.kept]
def fileCells (l : List FileD) : List Value := l.flatMap fileEnc
theorem fileCells_length (l : List FileD) : (fileCells l).length = l.length * 3 := row_length fileEnc 3 (fun _ => rfl) l
theorem fileCells_take (l : List FileD) (k : Nat) (h : k < l.length) : fileCells (l.take (k + 1)) = fileCells (l.take k) ++ fileEnc l[k] := by
  rw [List.take_succ_eq_append_getElem h, fileCells, fileCells, List.flatMap_append]
  simp
/-- how many letters and files -/
def fileBulk : List FileD → Int
  | [] => 0
  | f :: l => f.name.size + f.text.size + fileBulk l
theorem fileBulk_nonneg (l : List FileD) : 0 ≤ fileBulk l := by
  induction l with
  | nil => exact Int.le_refl 0
  | cons f l ih => simp only [fileBulk]; omega
theorem fileBulk_take (l : List FileD) (k : Nat) (h : k < l.length) : fileBulk (l.take (k + 1)) = fileBulk (l.take k) + l[k].name.size + l[k].text.size := by
  induction l generalizing k with
  | nil => simp at h
  | cons f l ih =>
    cases k with
    | zero => simp [fileBulk]
    | succ k =>
      have := ih k (by simpa using h)
      simp only [List.take_succ_cons, fileBulk, List.getElem_cons_succ] at this ⊢
      omega

theorem fileBulk_le (l : List FileD) (k : Nat) : fileBulk (l.take k) ≤ fileBulk l := by
  induction l generalizing k with
  | nil => simp [fileBulk]
  | cons f l ih =>
    cases k with
    | zero => have := fileBulk_nonneg (f :: l); simpa [fileBulk] using this
    | succ k => have := ih k; simp only [List.take_succ_cons, fileBulk]; omega

theorem file_le_bulk {l : List FileD} {f : FileD} (h : f ∈ l) : (f.name.size : Int) + f.text.size ≤ fileBulk l := by
  induction l with
  | nil => cases h
  | cons g l ih =>
    simp only [fileBulk]
    have := fileBulk_nonneg l
    rcases List.mem_cons.1 h with e | e
    · subst e; omega
    · have := ih e; omega
theorem filesSmall {l : List FileD} (h : 0 ≤ (1048576 : Int) - l.length - fileBulk l) : l.length ≤ 1048576 ∧ ∀ f ∈ l, f.name.size ≤ 1048576 ∧ f.text.size ≤ 1048576 := by
  have := fileBulk_nonneg l
  exact ⟨by omega, fun f hf => by have := file_le_bulk hf; omega⟩

/-- files lie at an address, one behind the other -/
def FilesAt (w : World) (ao : Option Addr) (l : List FileD) : Prop :=
  l ≠ [] → ∃ b off, ao = some ⟨b, off, none⟩ ∧ ∀ j (hj : j < l.length), w.cell? ⟨b, off + j * 3, none⟩ = some (.string l[j].name) ∧ w.cell? ⟨b, off + j * 3 + 1, none⟩ = some (.string l[j].text) ∧ w.cell? ⟨b, off + j * 3 + 2, none⟩ = some (.int .i64 l[j].kept)
theorem filesAt_of {w : World} {g : Nat} {t : TypeId} {l : List FileD} {r : List Value} (h : BlockIs w g t (fileCells l ++ r)) : FilesAt w (some ⟨g, 0, none⟩) l := by
  intro _
  refine ⟨g, 0, rfl, fun j hj => ?_⟩
  rw [Nat.zero_add]
  exact ⟨h.cell (row_at fileEnc 3 (fun _ => rfl) l r j 0 hj (by omega)), h.cell (row_at fileEnc 3 (fun _ => rfl) l r j 1 hj (by omega)), h.cell (row_at fileEnc 3 (fun _ => rfl) l r j 2 hj (by omega))⟩
/-- texts that fit -/
def FilesFit (l : List FileD) : Prop := ∀ j (hj : j < l.length), l[j].name.size ≤ 9223372036854775807 ∧ l[j].text.size ≤ 9223372036854775807
theorem FilesAt.on {w w' : World} {ao : Option Addr} {l : List FileD} (h : FilesAt w ao l) (hb : Below w.heap.size w w') : FilesAt w' ao l := by
  intro h0
  obtain ⟨b, off, e1, e2⟩ := h h0
  refine ⟨b, off, e1, fun j hj => ?_⟩
  obtain ⟨x, y, z⟩ := e2 j hj
  exact ⟨(hb.cell (p := ⟨b, off + j * 3, none⟩) (World.block_lt_of_cell? w _ x)).trans x, (hb.cell (p := ⟨b, off + j * 3 + 1, none⟩) (World.block_lt_of_cell? w _ y)).trans y, (hb.cell (p := ⟨b, off + j * 3 + 2, none⟩) (World.block_lt_of_cell? w _ z)).trans z⟩
end Go.Proofs.Ytbbohfagnnobgaa

namespace Go.Proofs.Ytbbohfagnnobgaa
open Go.RowKit

/-- a number within bounds -/
def within (x a b : Int) : Bool := decide (a ≤ x) && decide (x ≤ b)
theorem within_yes {x a b : Int} (h1 : a ≤ x) (h2 : x ≤ b) : within x a b = true := by simp [within, h1, h2]
theorem within_no {x a b : Int} (h : x < a ∨ b < x) : within x a b = false := by
  simp only [within, Bool.and_eq_false_imp, decide_eq_true_eq, decide_eq_false_iff_not]
  omega
theorem within_iff {x a b : Int} : within x a b = true ↔ a ≤ x ∧ x ≤ b := by simp [within]
end Go.Proofs.Ytbbohfagnnobgaa

namespace Go.Proofs.Ytbbohfagnnobgaa
open Go.RowKit

def nameOk (s : ByteArray) : Bool := within s.size 1 8
def fileOk (f : FileD) : Bool := nameOk f.name && decide (f.text.size ≤ 20000) && within f.kept 0 f.text.size
/-- is a text less than another one -/
def textLt (s t : ByteArray) : Bool := Op.bytesLess s.toList t.toList
/-- a file stands behind the one ahead of it -/
def behind (l : List FileD) (k : Nat) (f : FileD) : Bool := match k with
  | 0 => true
  | j + 1 => match l[j]? with
    | none => true
    | some g => textLt g.name f.name
/-- the first k files are right, and ascend -/
def rightTo (l : List FileD) : Nat → Bool
  | 0 => true
  | k + 1 => rightTo l k && match l[k]? with
    | none => true
    | some f => fileOk f && behind l k f
def diskOk (l : List FileD) : Bool := decide (l.length ≤ 30) && rightTo l l.length

theorem rightTo_step {l : List FileD} {k : Nat} (hk : k < l.length) : rightTo l (k + 1) = (rightTo l k && (fileOk l[k] && behind l k l[k])) := by
  rw [rightTo, List.getElem?_eq_getElem hk]
theorem behind_step {l : List FileD} {j : Nat} (hj : j + 1 < l.length) : behind l (j + 1) l[j + 1] = textLt l[j].name l[j + 1].name := by
  rw [behind, List.getElem?_eq_getElem (show j < l.length by omega)]
theorem rightTo_down {l : List FileD} {n k : Nat} (h : rightTo l n = true) (hk : k ≤ n) : rightTo l k = true := by
  induction n with
  | zero => obtain rfl : k = 0 := by omega
            rfl
  | succ n ih =>
    rcases Nat.lt_or_ge k (n + 1) with q | q
    · rw [rightTo, Bool.and_eq_true] at h
      exact ih h.1 (by omega)
    · obtain rfl : k = n + 1 := by omega
      exact h
theorem diskOk_of {l : List FileD} (h : l.length ≤ 30) (hr : rightTo l l.length = true) : diskOk l = true := by
  rw [diskOk, hr]
  simpa using h
theorem not_diskOk {l : List FileD} {k : Nat} (hk : k < l.length) (h : (fileOk l[k] && behind l k l[k]) = false) : diskOk l = false := by
  cases hd : diskOk l with
  | false => rfl
  | true =>
    rw [diskOk, Bool.and_eq_true] at hd
    have := rightTo_down hd.2 (show k + 1 ≤ l.length by omega)
    rw [rightTo_step hk, h] at this
    simp at this
end Go.Proofs.Ytbbohfagnnobgaa

namespace Go.Proofs.Ytbbohfagnnobgaa
open Go.RowKit

/-- numbers lie at an address, one behind the other -/
def IntsAt (w : World) (ao : Option Addr) (zs : List Int) : Prop := zs ≠ [] → ∃ b off, ao = some ⟨b, off, none⟩ ∧ ∀ j (hj : j < zs.length), w.cell? ⟨b, off + j, none⟩ = some (.int .i64 zs[j])
theorem IntsAt.on {w w' : World} {ao : Option Addr} {zs : List Int} (h : IntsAt w ao zs) (hb : Below w.heap.size w w') : IntsAt w' ao zs := by
  intro h0
  obtain ⟨b, off, e1, e2⟩ := h h0
  exact ⟨b, off, e1, fun j hj => (hb.cell (p := ⟨b, off + j, none⟩) (World.block_lt_of_cell? w _ (e2 j hj))).trans (e2 j hj)⟩
/-- numbers in their cells -/
def intCells (zs : List Int) : List Value := zs.map (Value.int .i64)
theorem intsAt_of {w : World} {g : Nat} {t : TypeId} {zs : List Int} {r : List Value} (h : BlockIs w g t (intCells zs ++ r)) : IntsAt w (some ⟨g, 0, none⟩) zs := by
  intro _
  refine ⟨g, 0, rfl, fun j hj => ?_⟩
  rw [Nat.zero_add]
  refine h.cell ?_
  rw [List.getElem?_append_left (by simpa [intCells] using hj)]
  simp [intCells, hj]
/-- a cell of a list, written -/
theorem set_one (p : List Value) (a x : Value) (r : List Value) : (p ++ x :: r).set p.length a = p ++ a :: r := by
  rw [List.set_append_right _ _ (Nat.le_refl _)]
  simp
end Go.Proofs.Ytbbohfagnnobgaa

namespace Go.Proofs.Ytbbohfagnnobgaa
open Go.RowKit

/-- how much is left of a file -/
def leftOf (f : FileD) (n : Int) : Int := if (if (f.text.size : Int) < n then (f.text.size : Int) else n) < f.kept then f.kept else (if (f.text.size : Int) < n then (f.text.size : Int) else n)
def lostOf (f : FileD) (n : Int) : FileD := ⟨f.name, f.text.extract 0 (leftOf f n).toNat, leftOf f n⟩
def loseTo (l : List FileD) (zs : List Int) : Nat → List FileD
  | 0 => []
  | k + 1 => loseTo l zs k ++ match l[k]? with
    | none => []
    | some f => [lostOf f (zs.getD k 0)]
theorem loseTo_step {l : List FileD} {zs : List Int} {k : Nat} (hk : k < l.length) : loseTo l zs (k + 1) = loseTo l zs k ++ [lostOf l[k] (zs.getD k 0)] := by
  rw [loseTo, List.getElem?_eq_getElem hk]
theorem loseTo_length {l : List FileD} {zs : List Int} {k : Nat} (hk : k ≤ l.length) : (loseTo l zs k).length = k := by
  induction k with
  | zero => rfl
  | succ k ih => rw [loseTo_step (by omega), List.length_append, ih (by omega)]; rfl
theorem diskOk_kept {l : List FileD} (h : diskOk l = true) {k : Nat} (hk : k < l.length) : 0 ≤ l[k].kept ∧ l[k].kept ≤ l[k].text.size ∧ l[k].text.size ≤ 20000 := by
  rw [diskOk, Bool.and_eq_true] at h
  have h2 := rightTo_down h.2 (show k + 1 ≤ l.length by omega)
  rw [rightTo_step hk] at h2
  simp only [Bool.and_eq_true, fileOk, within, decide_eq_true_eq] at h2
  omega
/-- a right disk is small -/
theorem diskOk_small {l : List FileD} (h : diskOk l = true) : ∀ f ∈ l, f.name.size ≤ 1048576 ∧ f.text.size ≤ 1048576 := by
  intro f hf
  obtain ⟨k, hk, rfl⟩ := List.getElem_of_mem hf
  rw [diskOk, Bool.and_eq_true] at h
  have h2 := rightTo_down h.2 (show k + 1 ≤ l.length by omega)
  rw [rightTo_step hk] at h2
  simp only [Bool.and_eq_true, fileOk, nameOk, within, decide_eq_true_eq] at h2
  omega
end Go.Proofs.Ytbbohfagnnobgaa

namespace Go.Proofs.Ytbbohfagnnobgaa
open Go.RowKit

/-- the figure of x, as a byte -/
def fig (x : Int) : Int := if x < 10 then 48 + x else 87 + x

theorem fig_bd {x : Int} (h0 : 0 ≤ x) (h1 : x ≤ 15) : 48 ≤ fig x ∧ fig x ≤ 102 := by unfold fig; split <;> omega

def hexOf : List UInt8 → List UInt8
  | [] => []
  | b :: r => UInt8.ofNat (fig (b.toNat / 16)).toNat :: UInt8.ofNat (fig (b.toNat % 16)).toNat :: hexOf r

theorem hexOf_append (l r : List UInt8) : hexOf (l ++ r) = hexOf l ++ hexOf r := by
  induction l with
  | nil => rfl
  | cons b l ih => simp [hexOf, ih]

theorem hexOf_length (l : List UInt8) : (hexOf l).length = 2 * l.length := by
  induction l with
  | nil => rfl
  | cons b l ih => simp [hexOf, ih]; omega

theorem take_snoc (s : ByteArray) (k : Nat) (h : k < s.size) : s.data.toList.take (k + 1) = s.data.toList.take k ++ [s[k]] := by
  rw [List.take_succ_eq_append_getElem (by simpa using h)]; rfl

theorem take_len (s : ByteArray) (k : Nat) (h : k ≤ s.size) : (s.data.toList.take k).length = k := by
  have : s.data.toList.length = s.size := by simp
  rw [List.length_take]; omega

theorem two_cs (b : UInt8) : [Value.int .u8 (fig ((b.toNat : Int) / 16)), .int .u8 (fig ((b.toNat : Int) % 16))] = cs (hexOf [b]) := by
  have hb := b.toNat_lt
  have h1 := fig_bd (x := (b.toNat : Int) / 16) (by omega) (by omega)
  have h2 := fig_bd (x := (b.toNat : Int) % 16) (by omega) (by omega)
  simp only [hexOf, cs, List.map_cons, List.map_nil, UInt8.toNat_ofNat', List.cons.injEq, and_true, Value.int.injEq, true_and]
  omega

theorem hex_step {s : ByteArray} {k : Nat} {w wr w1 : World} {v : Value} {g cap : Nat} {B : Obj} (hk : k < s.size) (hown : wr.ownsRow w.heap.size 5 1 v (2 * k) (cs (hexOf (s.data.toList.take k))))
    (hown' : w1.ownsRow w.heap.size 5 1 (.slice (some ⟨g, 0, none⟩) (2 * k + 2) cap) (2 * k + 2) (cs (hexOf (s.data.toList.take k)) ++ [.int .u8 (fig ((s[k].toNat : Int) / 16)), .int .u8 (fig ((s[k].toNat : Int) % 16))]))
    (hgrow : (wr.alloc B).drew.grownBy w1 v.ownBlock) (hb : Below w.heap.size w wr) :
    w1.ownsRow w.heap.size 5 1 (.slice (some ⟨g, 0, none⟩) (2 * k + 2) cap) (2 * (k + 1)) (cs (hexOf (s.data.toList.take (k + 1)))) ∧ Below w.heap.size w w1 := by
  refine ⟨?_, ((hb.alloc hb.size _).drew).grown hgrow (by have := hb.size; simp; omega) (fun j hj => (hown.lt j hj).1)⟩
  rw [two_cs, ← cs_append, ← hexOf_append, ← take_snoc s k hk] at hown'
  exact hown'

theorem i64_id {x : Int} (h0 : -9223372036854775808 ≤ x) (h1 : x ≤ 9223372036854775807) : IntKind.i64.wrap x = x := by
  simp [IntKind.wrap, IntKind.signed, IntKind.bits]; omega
theorem u8_id {x : Int} (h0 : 0 ≤ x) (h1 : x ≤ 255) : IntKind.u8.wrap x = x := by
  simp [IntKind.wrap, IntKind.signed, IntKind.bits]; omega

theorem wrap_quo (b : UInt8) : IntKind.i64.wrap ((IntKind.i64.wrap (b.toNat : Int)).tdiv 16) = (b.toNat : Int) / 16 := by
  have hb := b.toNat_lt
  have e : IntKind.i64.wrap (b.toNat : Int) = (b.toNat : Int) := by simp [IntKind.wrap, IntKind.signed, IntKind.bits]; omega
  rw [e, Int.tdiv_eq_ediv_of_nonneg (by omega)]
  simp [IntKind.wrap, IntKind.signed, IntKind.bits]; omega
theorem wrap_rem (b : UInt8) : (IntKind.i64.wrap (b.toNat : Int)).tmod 16 = (b.toNat : Int) % 16 := by
  have hb := b.toNat_lt
  have e : IntKind.i64.wrap (b.toNat : Int) = (b.toNat : Int) := by simp [IntKind.wrap, IntKind.signed, IntKind.bits]; omega
  rw [e, Int.tmod_eq_emod_of_nonneg (by omega)]
end Go.Proofs.Ytbbohfagnnobgaa

namespace Go.Proofs.Ytbbohfagnnobgaa
open Go.RowKit

/-- what the byte c counts as a figure; -1 where it is none -/
def lv (c : Int) : Int := if 48 ≤ c ∧ c ≤ 57 then c - 48 else if 97 ≤ c ∧ c ≤ 102 then c - 87 else -1

theorem lv_bd (c : Int) : -1 ≤ lv c ∧ lv c ≤ 15 := by unfold lv; split <;> (try split) <;> omega

theorem fig_lv {c j : Int} (h0 : 0 ≤ j) (h1 : j ≤ 15) : c = fig j ↔ lv c = j := by
  unfold lv fig
  split <;> split <;> (try split) <;> omega

/-- the values of a text's figures -/
def lvs (l : List UInt8) : List Int := l.map fun c => lv (c.toNat : Int)

def Figs (b : Nat) (l : List UInt8) : Prop := ∀ c ∈ l, 0 ≤ lv (c.toNat : Int) ∧ lv (c.toNat : Int) < b

theorem Figs.snoc {b : Nat} {l : List UInt8} {c : UInt8} (h : Figs b l) (hc : 0 ≤ lv (c.toNat : Int) ∧ lv (c.toNat : Int) < b) : Figs b (l ++ [c]) := by
  intro x hx
  rcases List.mem_append.1 hx with hx | hx
  · exact h x hx
  · simp at hx; subst hx; exact hc

/-- ints as the cells of a row -/
def ns (l : List Int) : List Value := l.map (Value.int .i64)

theorem mem_at (s : ByteArray) (k : Nat) (h : k < s.size) : s[k] ∈ s.data.toList := by
  have h1 : k < s.data.toList.length := by simpa using h
  have h2 := List.getElem_mem h1
  have h3 : s.data.toList[k] = s[k] := by rw [Array.getElem_toList]; rfl
  rw [h3] at h2
  exact h2

theorem lvs_append (l r : List UInt8) : lvs (l ++ r) = lvs l ++ lvs r := by simp [lvs]
theorem lvs_length (l : List UInt8) : (lvs l).length = l.length := by simp [lvs]
theorem ns_append (l r : List Int) : ns (l ++ r) = ns l ++ ns r := by simp [ns]

theorem fv_step {s : ByteArray} {k : Nat} {w wr w1 : World} {v v' : Value} {B : Obj} {j : Int} (hk : k < s.size) (hj : lv (s[k].toNat : Int) = j) (hown : wr.ownsRow w.heap.size 3 1 v k (ns (lvs (s.data.toList.take k))))
    (hown' : w1.ownsRow w.heap.size 3 1 v' (k + 1) (ns (lvs (s.data.toList.take k)) ++ [.int .i64 j])) (hgrow : (wr.alloc B).grownBy w1 v.ownBlock) (hb : Below w.heap.size w wr) :
    w1.ownsRow w.heap.size 3 1 v' (k + 1) (ns (lvs (s.data.toList.take (k + 1)))) ∧ Below w.heap.size w w1 := by
  refine ⟨?_, (hb.alloc hb.size _).grown hgrow (by have := hb.size; simp; omega) (fun j hj => (hown.lt j hj).1)⟩
  have e : [Value.int .i64 j] = ns (lvs [s[k]]) := by simp [ns, lvs, hj]
  rw [e, ← ns_append, ← lvs_append, ← take_snoc s k hk] at hown'
  exact hown'

/-- where the values lie -/
theorem values_lie {w w1 : World} {s : ByteArray} {v : Value} (h : w1.ownsRow w.heap.size 3 1 v s.size (ns (lvs s.data.toList))) :
    ∃ ao cap, v = .slice ao s.size cap ∧ (0 < s.size → ∃ g, ao = some ⟨g, 0, none⟩ ∧ g < w1.heap.size ∧ s.size ≤ cap ∧ ∀ j (hj : j < s.size), w1.cell? ⟨g, j, none⟩ = some (.int .i64 (lv (s[j].toNat : Int)))) := by
  have h' := h
  obtain ⟨h1, h2⟩ := h
  rcases h2 with ⟨hv, hn⟩ | ⟨g, cap, cur, hv, hgb, hh, hle, hmx, hsz, hx⟩
  · exact ⟨none, 0, by rw [hv, hn], fun h0 => by omega⟩
  · refine ⟨_, cap, hv, fun _ => ⟨g, rfl, (h'.lt g (by rw [hv]; rfl)).2, hle, fun j hj => ?_⟩⟩
    have hu : (ns (lvs s.data.toList))[j]? = some (.int .i64 (lv (s[j].toNat : Int))) := by
      have hj' : j < s.data.toList.length := by simpa using hj
      have e : s.data.toList[j] = s[j] := by rw [Array.getElem_toList]; rfl
      simp only [ns, lvs, List.getElem?_map, List.getElem?_eq_getElem hj', Option.map_some, e]
    have := h'.cells (g := g) (by rw [hv]; rfl) j _ hu
    have ea : (⟨g, 0, none⟩ : Addr).add j = ⟨g, j, none⟩ := by
      simp only [Addr.add]
      split
      · simp_all
      · simp
    rw [ea] at this
    exact this
end Go.Proofs.Ytbbohfagnnobgaa

namespace Go.Proofs.Ytbbohfagnnobgaa
open Go.RowKit

/-- the decimal figures of n, none for 0 (with so many steps at the most) -/
def ddF : Nat → Nat → List UInt8
  | 0, _ => []
  | f + 1, n => if n = 0 then [] else ddF f (n / 10) ++ [UInt8.ofNat (48 + n % 10)]
/-- the decimal figures of n, none for 0 -/
def dd (n : Nat) : List UInt8 := ddF n n

theorem ddF_eq : ∀ (f g n : Nat), n ≤ f → n ≤ g → ddF f n = ddF g n
  | 0, 0, _, _, _ => rfl
  | 0, g + 1, n, h, _ => by
    obtain rfl : n = 0 := by omega
    rw [ddF, ddF, if_pos rfl]
  | f + 1, 0, n, _, h => by
    obtain rfl : n = 0 := by omega
    rw [ddF, ddF, if_pos rfl]
  | f + 1, g + 1, n, h1, h2 => by
    rw [ddF, ddF]
    by_cases h : n = 0
    · rw [if_pos h, if_pos h]
    · rw [if_neg h, if_neg h, ddF_eq f g (n / 10) (by omega) (by omega)]
theorem dd_zero : dd 0 = [] := rfl
theorem dd_pos {n : Nat} (h : 0 < n) : dd n = dd (n / 10) ++ [UInt8.ofNat (48 + n % 10)] := by
  rw [dd, ddF_eq n (n + 1) n (Nat.le_refl _) (by omega), ddF, if_neg (by omega), dd, ddF_eq n (n / 10) (n / 10) (by omega) (Nat.le_refl _)]

theorem dd_len (k : Nat) : ∀ n, n < 10 ^ k → (dd n).length ≤ k := by
  induction k with
  | zero => intro n h; have : n = 0 := by simp at h; omega
            subst this; rw [dd_zero]; simp
  | succ k ih =>
    intro n h
    by_cases h0 : n = 0
    · subst h0; rw [dd_zero]; simp
    · rw [dd_pos (by omega), List.length_append]
      have := ih (n / 10) (by rw [Nat.pow_succ] at h; omega)
      simp only [List.length_cons, List.length_nil]
      omega

/-- n in decimal -/
def dec (n : Int) : List UInt8 := if n = 0 then [48] else if n < 0 then 45 :: dd n.natAbs else dd n.natAbs

/-- what figures make -/
def num (l : List UInt8) : Nat := l.foldl (fun n c => 10 * n + (c.toNat - 48)) 0

theorem num_nil : num [] = 0 := rfl
theorem num_snoc (l : List UInt8) (c : UInt8) : num (l ++ [c]) = 10 * num l + (c.toNat - 48) := by simp [num, List.foldl_append]

def Digits (l : List UInt8) : Prop := ∀ c ∈ l, 48 ≤ c.toNat ∧ c.toNat ≤ 57

theorem Digits.init {l : List UInt8} {c : UInt8} (h : Digits (l ++ [c])) : Digits l ∧ 48 ≤ c.toNat ∧ c.toNat ≤ 57 :=
  ⟨fun x hx => h x (List.mem_append.2 (Or.inl hx)), h c (by simp)⟩
theorem Digits.snoc {l : List UInt8} {c : UInt8} (h : Digits l) (hc : 48 ≤ c.toNat ∧ c.toNat ≤ 57) : Digits (l ++ [c]) := by
  intro x hx
  rcases List.mem_append.1 hx with hx | hx
  · exact h x hx
  · simp at hx; subst hx; exact hc

theorem snoc_cases (l : List UInt8) : l = [] ∨ ∃ r c, l = r ++ [c] := by
  rcases h : l.reverse with _ | ⟨c, r⟩
  · exact Or.inl (by simpa using h)
  · exact Or.inr ⟨r.reverse, c, by have := congrArg List.reverse h; simpa using this⟩

theorem num_lt : ∀ (k : Nat) (l : List UInt8), l.length = k → Digits l → num l < 10 ^ k
  | 0, l, h, _ => by
    have : l = [] := List.eq_nil_of_length_eq_zero h
    subst this; simp [num]
  | k + 1, l, h, hd => by
    rcases snoc_cases l with rfl | ⟨r, c, rfl⟩
    · simp at h
    · have h1 := hd.init
      have := num_lt k r (by simpa using h) h1.1
      rw [num_snoc, Nat.pow_succ]
      omega

theorem num_lead (c : UInt8) (hc : c ≠ 48) (hc1 : 48 ≤ c.toNat ∧ c.toNat ≤ 57) : ∀ (k : Nat) (r : List UInt8), r.length = k → Digits r → 0 < num (c :: r) ∧ dd (num (c :: r)) = c :: r
  | 0, r, h, _ => by
    have : r = [] := List.eq_nil_of_length_eq_zero h
    subst this
    have h48 : c.toNat ≠ 48 := fun e => hc (UInt8.toNat_inj.1 (by simpa using e))
    have e : num [c] = c.toNat - 48 := by simp [num]
    rw [e]
    refine ⟨by omega, ?_⟩
    rw [dd_pos (by omega), show (c.toNat - 48) / 10 = 0 by omega, dd_zero, show 48 + (c.toNat - 48) % 10 = c.toNat by omega]
    simp
  | k + 1, r, h, hd => by
    rcases snoc_cases r with rfl | ⟨r', x, rfl⟩
    · simp at h
    · have h1 := hd.init
      obtain ⟨i1, i2⟩ := num_lead c hc hc1 k r' (by simpa using h) h1.1
      have e : num (c :: (r' ++ [x])) = 10 * num (c :: r') + (x.toNat - 48) := num_snoc (c :: r') x
      rw [e]
      refine ⟨by omega, ?_⟩
      rw [dd_pos (by omega), show (10 * num (c :: r') + (x.toNat - 48)) / 10 = num (c :: r') by omega, show 48 + (10 * num (c :: r') + (x.toNat - 48)) % 10 = x.toNat by omega, i2]
      simp

/-- figures of a number do not begin with a nought -/
theorem dd_head : ∀ (n : Nat), 0 < n → ∃ c r, dd n = c :: r ∧ c ≠ 48 := by
  intro n
  induction n using Nat.strongRecOn with
  | _ n ih =>
    intro h
    rw [dd_pos h]
    by_cases h1 : n / 10 = 0
    · rw [h1, dd_zero]
      refine ⟨_, [], rfl, ?_⟩
      intro e
      have := congrArg UInt8.toNat e
      simp only [UInt8.toNat_ofNat', UInt8.toNat_ofNat] at this
      omega
    · obtain ⟨c, r, e, hc⟩ := ih (n / 10) (by omega) (by omega)
      exact ⟨c, r ++ [UInt8.ofNat (48 + n % 10)], by rw [e]; rfl, hc⟩

/-- a text of figures is how its number is written, just when it has some and no needless nought ahead -/
theorem dec_num (l : List UInt8) (hd : Digits l) : dec (num l : Int) = l ↔ l ≠ [] ∧ ¬ (l.head? = some 48 ∧ 1 < l.length) := by
  match l, hd with
  | [], _ => simp [num, dec]
  | c :: r, hd =>
    have hc := hd c (by simp)
    have hr : Digits r := fun x hx => hd x (by simp [hx])
    by_cases h48 : c = 48
    · subst h48
      match r, hr with
      | [], _ => simp [num, dec]
      | x :: r', hr =>
        simp only [List.head?_cons, List.length_cons, ne_eq, reduceCtorEq, not_false_eq_true, true_and]
        constructor
        · intro e
          unfold dec at e
          split at e
          · simp at e
          · rename_i hz
            rw [if_neg (by omega), Int.natAbs_natCast] at e
            obtain ⟨y, q, e1, e2⟩ := dd_head (num (48 :: x :: r')) (by omega)
            rw [e1] at e
            simp only [List.cons.injEq] at e
            exact absurd e.1 e2
        · intro h
          exact absurd (by omega) h
    · obtain ⟨i1, i2⟩ := num_lead c h48 hc r.length r rfl hr
      unfold dec
      rw [if_neg (by omega), if_neg (by omega), Int.natAbs_natCast, i2]
      simp [h48]

theorem digits_figs (l : List UInt8) : Digits l ↔ Figs 10 l := by
  constructor
  · intro h c hc
    have := h c hc
    unfold lv
    rw [if_pos (by omega)]
    omega
  · intro h c hc
    have := h c hc
    unfold lv at this
    split at this
    · omega
    · split at this <;> omega
theorem lv_digit {c : UInt8} (h : 48 ≤ c.toNat ∧ c.toNat ≤ 57) : lv (c.toNat : Int) = ((c.toNat - 48 : Nat) : Int) := by
  unfold lv; rw [if_pos (by omega)]; omega

/-- a text that ReadDecimal takes -/
def DecOk (l : List UInt8) : Prop := Digits l ∧ num l ≤ 1000000000 ∧ l ≠ [] ∧ ¬ (l.head? = some 48 ∧ 1 < l.length)

theorem digits_at {s : ByteArray} {k : Nat} (hk : k < s.size) (h : ¬ (48 ≤ s[k].toNat ∧ s[k].toNat ≤ 57)) : ¬ DecOk s.data.toList := fun hd => h (hd.1 s[k] (mem_at s k hk))

theorem num_step {s : ByteArray} {k : Nat} (hk : k < s.size) (h : 48 ≤ (s[k].toNat : Int)) : ((num (s.data.toList.take (k + 1)) : Nat) : Int) = 10 * (num (s.data.toList.take k) : Int) + (s[k].toNat : Int) - 48 := by
  rw [take_snoc s k hk, num_snoc]
  omega

theorem ret_num {a b : Nat} (h : a = b) : Ending.returned (.tuple #[.int .i64 a, .bool true]) = .returned (.tuple #[.int .i64 b, .bool true]) := by rw [h]

theorem same_dec {s : ByteArray} {l : List UInt8} : (!l == s.toList) = false ↔ l = s.data.toList := by
  rw [ByteArray.toList_eq]; simp
end Go.Proofs.Ytbbohfagnnobgaa

namespace Go.Proofs.Ytbbohfagnnobgaa
open Go.RowKit

/-- one of the eight steps -/
def half (x : Nat) : Nat := if x % 2 = 1 then x / 2 ^^^ 3558460437 else x / 2

theorem half_lt {x : Nat} (h : x < 4294967296) : half x < 4294967296 := by
  unfold half
  split
  · exact Nat.xor_lt_two_pow (n := 32) (by omega) (by omega)
  · omega

theorem top_bit {a : Nat} (h : a < 2147483648) : 2147483648 ≤ a ^^^ 3558460437 := by
  have h1 : (a ^^^ 3558460437).testBit 31 = true := by
    rw [Nat.testBit_xor, Nat.testBit_lt_two_pow (x := a) (i := 31) (by omega)]
    decide
  exact Nat.ge_two_pow_of_testBit h1

theorem xor_cancel {a b c : Nat} (h : a ^^^ c = b ^^^ c) : a = b := by
  have := congrArg (· ^^^ c) h
  simpa [Nat.xor_assoc] using this

theorem half_inj {x y : Nat} (hx : x < 4294967296) (hy : y < 4294967296) (h : half x = half y) : x = y := by
  unfold half at h
  have tx := top_bit (a := x / 2) (by omega)
  have ty := top_bit (a := y / 2) (by omega)
  split at h <;> split at h
  · have := xor_cancel h; omega
  · omega
  · omega
  · omega

/-- k steps -/
def hsN : Nat → Nat → Nat
  | 0, x => x
  | k + 1, x => half (hsN k x)

theorem hsN_lt (k : Nat) {x : Nat} (h : x < 4294967296) : hsN k x < 4294967296 := by
  induction k with
  | zero => exact h
  | succ k ih => exact half_lt ih
theorem hsN_inj (k : Nat) {x y : Nat} (hx : x < 4294967296) (hy : y < 4294967296) (h : hsN k x = hsN k y) : x = y := by
  induction k with
  | zero => exact h
  | succ k ih => exact ih (half_inj (hsN_lt k hx) (hsN_lt k hy) h)

/-- a sum and one byte more -/
def crc1 (s : Nat) (b : UInt8) : Nat := hsN 8 (s ^^^ b.toNat)

theorem xb_lt {s : Nat} (h : s < 4294967296) (b : UInt8) : s ^^^ b.toNat < 4294967296 := Nat.xor_lt_two_pow (n := 32) (by omega) (by have := b.toNat_lt; omega)
theorem crc1_lt {s : Nat} (h : s < 4294967296) (b : UInt8) : crc1 s b < 4294967296 := hsN_lt 8 (xb_lt h b)
theorem crc1_inj {s t : Nat} (hs : s < 4294967296) (ht : t < 4294967296) {b : UInt8} (h : crc1 s b = crc1 t b) : s = t :=
  xor_cancel (hsN_inj 8 (xb_lt hs b) (xb_lt ht b) h)
theorem crc1_byte {s : Nat} (hs : s < 4294967296) {b c : UInt8} (h : crc1 s b = crc1 s c) : b = c := by
  have h1 := hsN_inj 8 (xb_lt hs b) (xb_lt hs c) h
  rw [Nat.xor_comm s, Nat.xor_comm s] at h1
  exact UInt8.toNat_inj.1 (xor_cancel h1)

/-- a sum and more bytes -/
def crc (s : Nat) (l : List UInt8) : Nat := l.foldl crc1 s

theorem crc_append (s : Nat) (l r : List UInt8) : crc s (l ++ r) = crc (crc s l) r := by simp [crc]
theorem crc_snoc (s : Nat) (l : List UInt8) (b : UInt8) : crc s (l ++ [b]) = crc1 (crc s l) b := by simp [crc]
theorem crc_lt {s : Nat} (h : s < 4294967296) (l : List UInt8) : crc s l < 4294967296 := by
  induction l generalizing s with
  | nil => exact h
  | cons b l ih => exact ih (crc1_lt h b)
theorem crc_inj {s t : Nat} (hs : s < 4294967296) (ht : t < 4294967296) (l : List UInt8) (h : crc s l = crc t l) : s = t := by
  induction l generalizing s t with
  | nil => exact h
  | cons b l ih => exact crc1_inj hs ht (ih (crc1_lt hs b) (crc1_lt ht b) h)
/-- one byte turned turns the sum -/
theorem crc_turned {s : Nat} (hs : s < 4294967296) (p q : List UInt8) {b c : UInt8} (h : crc s (p ++ b :: q) = crc s (p ++ c :: q)) : b = c := by
  rw [crc_append, crc_append] at h
  have hp := crc_lt hs p
  have h1 : crc (crc1 (crc s p) b) q = crc (crc1 (crc s p) c) q := h
  exact crc1_byte hp (crc_inj (crc1_lt hp b) (crc1_lt hp c) q h1)

/-- a sum in four bytes, the highest first -/
def four (x : Nat) : List UInt8 := [UInt8.ofNat (x / 16777216), UInt8.ofNat (x / 65536), UInt8.ofNat (x / 256), UInt8.ofNat x]
theorem four_length (x : Nat) : (four x).length = 4 := rfl
theorem four_inj {x y : Nat} (hx : x < 4294967296) (hy : y < 4294967296) (h : four x = four y) : x = y := by
  simp only [four, List.cons.injEq, and_true] at h
  obtain ⟨h1, h2, h3, h4⟩ := h
  have e1 := congrArg UInt8.toNat h1
  have e2 := congrArg UInt8.toNat h2
  have e3 := congrArg UInt8.toNat h3
  have e4 := congrArg UInt8.toNat h4
  simp only [UInt8.toNat_ofNat'] at e1 e2 e3 e4
  omega

def sumOf (l : List UInt8) : Nat := crc 4294967295 l
theorem sumOf_lt (l : List UInt8) : sumOf l < 4294967296 := crc_lt (by omega) l

/-- a sealed text with one byte turned is the sealed text of none of its length -/
theorem seal_turned (l m : List UInt8) (p q : List UInt8) (b c : UInt8) (h1 : l ++ four (sumOf l) = p ++ b :: q) (h2 : m ++ four (sumOf m) = p ++ c :: q) : b = c := by
  have hlen : l.length = m.length := by
    have e1 := congrArg List.length h1
    have e2 := congrArg List.length h2
    simp only [List.length_append, List.length_cons, four_length] at e1 e2
    omega
  have tl : l = (p ++ b :: q).take l.length := by rw [← h1, List.take_left]
  have tm : m = (p ++ c :: q).take l.length := by rw [← h2, hlen, List.take_left]
  have dl : four (sumOf l) = (p ++ b :: q).drop l.length := by rw [← h1, List.drop_left]
  have dm : four (sumOf m) = (p ++ c :: q).drop l.length := by rw [← h2, hlen, List.drop_left]
  rw [List.take_append] at tl tm
  rw [List.drop_append] at dl dm
  rcases Nat.lt_or_ge p.length l.length with hp | hp
  · -- the byte lies in the text: the sums' bytes are alike
    obtain ⟨k, hk⟩ : ∃ k, l.length - p.length = k + 1 := ⟨l.length - p.length - 1, by omega⟩
    rw [hk, List.take_of_length_le (by omega), List.take_succ_cons] at tl tm
    rw [hk, List.drop_of_length_le (by omega), List.drop_succ_cons] at dl dm
    have hs := four_inj (sumOf_lt l) (sumOf_lt m) (dl.trans dm.symm)
    rw [tl, tm] at hs
    exact crc_turned (by omega) p (q.take k) hs
  · -- the byte lies in the sum: the texts are alike
    have hk : l.length - p.length = 0 := by omega
    rw [hk, List.take_zero, List.append_nil] at tl tm
    have e : l = m := tl.trans tm.symm
    have h3 : p ++ b :: q = p ++ c :: q := by rw [← h1, ← h2, e]
    have h4 := List.append_cancel_left h3
    simp only [List.cons.injEq] at h4
    exact h4.1

/-- a text that is sealed -/
def Uns (s : ByteArray) : Prop := 4 ≤ s.size ∧ s.size ≤ 20004 ∧ s.data.toList.drop (s.size - 4) = four (sumOf (s.data.toList.take (s.size - 4)))

theorem slice_from {P : Program} {t : TypeId} (h : P.underlying t = some .string) (s : ByteArray) (a : Nat) (x : Int) (hx : x = a) (ha : a ≤ s.size) (w : World) :
    (Instr.slice t (.string s) (some (.int .i64 x)) none none).run P w = .ok (.string (s.extract a s.size)) w := by
  subst hx
  rw [run_slice_string_l w t s h .i64 a (by omega) (by omega)]
  simp
theorem slice_upto {P : Program} {t : TypeId} (h : P.underlying t = some .string) (s : ByteArray) (a : Nat) (x : Int) (hx : x = a) (ha : a ≤ s.size) (w : World) :
    (Instr.slice t (.string s) none (some (.int .i64 x)) none).run P w = .ok (.string (s.extract 0 a)) w := by
  subst hx
  rw [run_slice_string_h w t s h .i64 a (by omega) (by omega)]
  simp

theorem head_list (s : ByteArray) (a : Nat) : (s.extract 0 a).data.toList = s.data.toList.take a := by rw [extract_eq]; simp
theorem tail_list (s : ByteArray) (a : Nat) : (s.extract a s.size).data.toList = s.data.toList.drop a := by
  rw [extract_eq, List.take_of_length_le (by simp)]

theorem uns_same {s : ByteArray} (h4 : 4 ≤ s.size) (h2 : s.size ≤ 20004) : (s.extract (s.size - 4) s.size).toList = four (sumOf (s.extract 0 (s.size - 4)).data.toList) ↔ Uns s := by
  rw [ByteArray.toList_eq, tail_list s _, head_list]
  exact ⟨fun h => ⟨h4, h2, h⟩, fun h => h.2.2⟩
end Go.Proofs.Ytbbohfagnnobgaa
