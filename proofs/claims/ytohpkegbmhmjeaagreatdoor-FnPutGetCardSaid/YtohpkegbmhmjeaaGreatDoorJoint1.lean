/-
  Plain facts on the bytes of a number in sevens and on rows of bytes in memory; nothing of the program stands here.
  Plain facts on rows that a call owns; nothing of the program stands here.
  A block of memory of the call's own: its cells as a list; rows of elements of so many cells each.
  Session as data; rows of them in memory, one behind the other.
  An element of a row of Session, written; a row that was just made.
  Rows of the call's own that grow: what stands behind an append.
  Rows of the call's own between two sizes of memory; blocks laid one behind the other.
  Rows of Session of the call's own: they grow.
  Item as data; rows of them in memory, one behind the other.
  An element of a row of Item, written; a row that was just made.
  Rows of Item of the call's own: they grow.
  Rows of a keep in memory of the call's own.
  The first item of a Key; nothing of the program stands here.
  A number within bounds; nothing of the program stands here.
  Command as data; rows of them in memory, one behind the other.
  A command that is right; nothing of the program stands here.
  A keep that is right; nothing of the program stands here.
  Plain facts on figures; nothing of the program stands here.
  Plain facts on the values of figures; nothing of the program stands here.
  Plain facts on decimal figures; nothing of the program stands here.
  What a command does to a right keep; nothing of the program stands here.
  Facts on right keeps and on what a command does; nothing of the program stands here.
  A right keep stays right; nothing of the program stands here.
  A keep behind few commands: its Tokens and Lasts are small; nothing of the program stands here.
  What Perform answers.
  Maps of the call's own whose values are kept as they are: what they hold, by a list.
  The two maps of a shelf: sessions by their Tokens, items by their Keys; what is put in and taken out.
  The keys of a shelf's maps, in a row of the call's own.
  The shelf's contracts on slices.Sorted, slices.Collect of maps.Keys(m) and slices.Min at int keys, laid at this seat.
  What is answered behind one command: asked again, with a gap, of a Token that is none; nothing of the program stands here.
  What is put into a keep is got; swapped with another version it stays; dropped it is gone; nothing of the program stands here.
  Lists that are alike, one by one; nothing of the program stands here.
-/
import Derived.WalkKit
import Derived.Maps.AppendAt
import Derived.RowKit
import Derived.WalkSmall
import Derived.BigQuiet
import Derived.Deep.LoopGhost
import Derived.Test.YtohpkegbmhmjeaaGreatDoorRows
import Derived.OwnWalk
import Derived.Laws.AppendOwn
import Derived.Sort.Walk0
import Derived.Maps.OwnSet
import Derived.Maps.OwnOps
import Derived.Sort.KeysCollected
import Derived.Lib.SlKeysI
import Derived.Deep.AppendLies
import Derived.WalkArith
import Derived.Lib.Slices
import Derived.Shelf.SlIterI.Nil
import Derived.Shelf.SlIterI.Collect
import Derived.Shelf.SortM.Plain
import Derived.Shelf.SortM.SortNone
import Derived.Ground.GgzProg
import Derived.Ground.SlgmProg
import Derived.Shelf.SlicesG.Turned
import Derived.Shelf.SlGeneric
import Derived.Ground.SlgnProg
import Derived.Test.YtohpkegbmhmjeaaGreatDoorProg
namespace Go.Proofs.YtohpkegbmhmjeaaGreatDoor
open Go.RowKit

/-- the bytes of n, seven bits a byte, the least first (with so many steps at the most) -/
def vbF : Nat → Nat → List UInt8
  | 0, n => [UInt8.ofNat n]
  | f + 1, n => if n ≤ 127 then [UInt8.ofNat n] else UInt8.ofNat (n % 128 + 128) :: vbF f (n / 128)
/-- the bytes of n, seven bits a byte, the least first -/
def vb (n : Nat) : List UInt8 := vbF n n

theorem vbF_eq : ∀ (f g n : Nat), n ≤ f → n ≤ g → vbF f n = vbF g n
  | 0, 0, _, _, _ => rfl
  | 0, g + 1, n, h, _ => by
    obtain rfl : n = 0 := by omega
    rw [vbF, vbF, if_pos (by omega)]
  | f + 1, 0, n, _, h => by
    obtain rfl : n = 0 := by omega
    rw [vbF, vbF, if_pos (by omega)]
  | f + 1, g + 1, n, h1, h2 => by
    rw [vbF, vbF]
    by_cases h : n ≤ 127
    · rw [if_pos h, if_pos h]
    · rw [if_neg h, if_neg h, vbF_eq f g (n / 128) (by omega) (by omega)]
theorem vb_small {n : Nat} (h : n ≤ 127) : vb n = [UInt8.ofNat n] := by
  rw [vb, vbF_eq n (n + 1) n (Nat.le_refl _) (by omega), vbF, if_pos h]
theorem vb_big {n : Nat} (h : 127 < n) : vb n = UInt8.ofNat (n % 128 + 128) :: vb (n / 128) := by
  rw [vb, vbF_eq n (n + 1) n (Nat.le_refl _) (by omega), vbF, if_neg (by omega), vb, vbF_eq n (n / 128) (n / 128) (by omega) (Nat.le_refl _)]

theorem vb_pos (n : Nat) : 0 < (vb n).length := by
  by_cases h : n ≤ 127
  · rw [vb_small h]; simp
  · rw [vb_big (by omega)]; simp

theorem vb_le (n : Nat) : (vb n).length ≤ n + 1 := by
  induction n using Nat.strongRecOn with
  | _ n ih =>
    by_cases h : n ≤ 127
    · rw [vb_small h]; simp
    · rw [vb_big (by omega)]
      have := ih (n / 128) (by omega)
      simp only [List.length_cons]
      omega

/-- bytes as the cells of a row -/
def cs (l : List UInt8) : List Value := l.map fun b => Value.int .u8 (b.toNat : Int)

theorem cs_append (l r : List UInt8) : cs (l ++ r) = cs l ++ cs r := by simp [cs]
theorem cs_length (l : List UInt8) : (cs l).length = l.length := by simp [cs]
theorem cs_one {x : Int} (h0 : 0 ≤ x) (h1 : x ≤ 255) : [Value.int .u8 x] = cs [UInt8.ofNat x.toNat] := by
  simp [cs]
  omega

/-- a row that the call owns, turned into a text -/
theorem text_of_row {P : Program} {w : World} {base : Nat} {v : Value} {l : List UInt8} {src dst e : TypeId} (hs : P.underlying src = some (.slice e)) (he : P.underlying e = some (.int .u8)) (hd : P.underlying dst = some .string)
    (h : w.ownsRow base e 1 v l.length (cs l)) : (convert src dst v).run P w = .ok (.string ⟨l.toArray⟩) w := by
  obtain ⟨h1, h2⟩ := h
  rcases h2 with ⟨hv, hn⟩ | ⟨g, cap, cur, hv, hg, hh, hle, hm, hsz, hx⟩
  · have hl : l = [] := by cases l with | nil => rfl | cons a r => simp at hn
    subst hl hv
    exact run_convert_bytes_nil w src e hs he 0 0 dst hd
  · subst hv
    refine run_convert_bytes_back w src dst e ⟨g, 0, none⟩ cap l hs he hd fun j hj => ?_
    have hu : (cs l)[j]? = some (.int .u8 (l[j].toNat : Int)) := by simp [cs, hj]
    exact World.ownsRow.cells (w := w) (base := base) (e := e) (size := 1) ⟨h1, Or.inr ⟨g, cap, cur, rfl, hg, hh, hle, hm, hsz, hx⟩⟩ rfl j _ hu

/-- a piece of a text, its bounds as whole numbers -/
theorem slice_nat {P : Program} {t : TypeId} (h : P.underlying t = some .string) (s : ByteArray) (a b : Nat) (x y : Int) (hx : x = a) (hy : y = b) (hab : a ≤ b) (hb : b ≤ s.size) (w : World) :
    (Instr.slice t (.string s) (some (.int .i64 x)) (some (.int .i64 y)) none).run P w = .ok (.string (s.extract a b)) w := by
  subst hx hy
  rw [run_slice_string w t s .i64 .i64 a b h (by omega) (by omega) (by omega)]
  simp

theorem extract_eq (s : ByteArray) (a b : Nat) : (s.extract a b).data.toList = (s.data.toList.drop a).take (b - a) := by
  simp [ByteArray.extract, ByteArray.copySlice]

theorem var_step {n m : Nat} {acc : List UInt8} {w wr w1 : World} {v v' : Value} (hm : 127 < m) (hacc : acc ++ vb m = vb n) (hown : wr.ownsRow w.heap.size 5 1 v acc.length (cs acc))
    (hown' : w1.ownsRow w.heap.size 5 1 v' (acc.length + 1) (cs acc ++ [.int .u8 ((m : Int) % 128 + 128)])) (hgrow : (wr.alloc (.cells #[.int .u8 ((m : Int) % 128 + 128)] 5)).grownBy w1 v.ownBlock) (hb : Below w.heap.size w wr) :
    (acc ++ [UInt8.ofNat (m % 128 + 128)]) ++ vb (m / 128) = vb n ∧ w1.ownsRow w.heap.size 5 1 v' (acc ++ [UInt8.ofNat (m % 128 + 128)]).length (cs (acc ++ [UInt8.ofNat (m % 128 + 128)])) ∧ Below w.heap.size w w1 := by
  refine ⟨by rw [← hacc, vb_big hm]; simp, ?_, (hb.alloc hb.size _).grown hgrow (by have := hb.size; simp; omega) (fun k hk => (hown.lt k hk).1)⟩
  have e : [Value.int .u8 ((m : Int) % 128 + 128)] = cs [UInt8.ofNat (m % 128 + 128)] := by
    rw [cs_one (by omega) (by omega)]
    have : ((m : Int) % 128 + 128).toNat = m % 128 + 128 := by omega
    rw [this]
  rw [e, ← cs_append] at hown'
  simpa using hown'

theorem var_end {n m : Nat} {acc : List UInt8} {w wr w1 : World} {v v' : Value} (hm : m ≤ 127) (hacc : acc ++ vb m = vb n) (hown : wr.ownsRow w.heap.size 5 1 v acc.length (cs acc))
    (hown' : w1.ownsRow w.heap.size 5 1 v' (acc.length + 1) (cs acc ++ [.int .u8 (m : Int)])) (hgrow : (wr.alloc (.cells #[.int .u8 (m : Int)] 5)).grownBy w1 v.ownBlock) (hb : Below w.heap.size w wr) :
    w1.ownsRow w.heap.size 5 1 v' (vb n).length (cs (vb n)) ∧ Below w.heap.size w w1 := by
  refine ⟨?_, (hb.alloc hb.size _).grown hgrow (by have := hb.size; simp; omega) (fun k hk => (hown.lt k hk).1)⟩
  have e : [Value.int .u8 (m : Int)] = cs [UInt8.ofNat m] := by
    rw [cs_one (by omega) (by omega)]
    simp
  rw [e, ← cs_append, ← vb_small hm, hacc] at hown'
  have hl : acc.length + 1 = (vb n).length := by rw [← hacc, vb_small hm]; simp
  rw [hl] at hown'
  exact hown'

end Go.Proofs.YtohpkegbmhmjeaaGreatDoor

namespace Go.Proofs.YtohpkegbmhmjeaaGreatDoor
open Go.RowKit

theorem grown_of_below {w w' : World} (h : Below w.heap.size w w') (row : Option Nat) : w.grownBy w' row := ⟨h.os, h.tape, h.output, h.size, fun k hk _ => h.block k hk⟩

theorem add_at (g j : Nat) : (⟨g, 0, none⟩ : Addr).add j = ⟨g, j, none⟩ := by
  simp only [Addr.add]
  split
  · simp_all
  · simp

/-- where an owned row lies -/
theorem row_lie {w : World} {base : Nat} {e : TypeId} {v : Value} {n : Nat} {xs : List Value} (h : w.ownsRow base e 1 v n xs) :
    xs.length = n ∧ ∃ ao cap, v = .slice ao n cap ∧ (0 < n → ∃ g, ao = some ⟨g, 0, none⟩ ∧ base ≤ g ∧ g < w.heap.size ∧ n ≤ cap ∧ v.ownBlock = some g ∧ (∀ (j : Nat) u, xs[j]? = some u → w.cell? ⟨g, j, none⟩ = some u) ∧ ∀ j, w.frozen? ⟨g, j, none⟩ = false) := by
  have h' := h
  obtain ⟨h1, h2⟩ := h
  refine ⟨by omega, ?_⟩
  rcases h2 with ⟨hv, hn⟩ | ⟨g, cap, cur, hv, hgb, hh, hle, hmx, hsz, hx⟩
  · exact ⟨none, 0, by rw [hv, hn], fun h0 => by omega⟩
  · refine ⟨_, cap, hv, fun _ => ⟨g, rfl, hgb, (h'.lt g (by rw [hv]; rfl)).2, hle, by rw [hv]; rfl, fun j u hu => ?_, fun j => ?_⟩⟩
    · have := h'.cells (g := g) (by rw [hv]; rfl) j _ hu
      rw [add_at] at this
      exact this
    · simp [World.frozen?, hh]

/-- an owned row, one of its cells written -/
theorem ownsRow_set {w : World} {base : Nat} {e : TypeId} {v : Value} {n : Nat} {xs : List Value} (h : w.ownsRow base e 1 v n xs) {g : Nat} (hg : v.ownBlock = some g) (k : Nat) (u : Value) :
    (w.setCell ⟨g, k, none⟩ u).ownsRow base e 1 v n (xs.set k u) := by
  obtain ⟨h1, h2⟩ := h
  rcases h2 with ⟨hv, hn⟩ | ⟨g', cap, cur, hv, hgb, hh, hle, hmx, hsz, hx⟩
  · rw [hv] at hg; cases hg
  · rw [hv] at hg
    simp only [Value.ownBlock, Option.some.injEq] at hg
    subst hg
    refine ⟨by simpa using h1, Or.inr ⟨g', cap, cur.setIfInBounds k u, hv, hgb, ?_, hle, hmx, by simpa using hsz, ?_⟩⟩
    · simp only [World.setCell]
      rw [Array.getElem?_modify, if_pos rfl, hh]
      rfl
    · rw [Array.toList_setIfInBounds, ← hx, List.take_set]

/-- a place of an owned row may be written -/
theorem at_row {w : World} {base : Nat} {e : TypeId} {g n c : Nat} {xs : List Value} (h : w.ownsRow base e 1 (.slice (some ⟨g, 0, none⟩) n c) n xs) (k : Nat) (hk : k < n) : ∃ u, w.cell? ⟨g, k, none⟩ = some u ∧ w.frozen? ⟨g, k, none⟩ = false := by
  obtain ⟨hl, ao, cap, hv, hf⟩ := row_lie h
  obtain ⟨g', e1, _, _, _, _, hc, hz⟩ := hf (by omega)
  simp only [Value.slice.injEq] at hv
  obtain ⟨rfl, _, _⟩ := hv
  simp only [Option.some.injEq, Addr.mk.injEq, and_true] at e1
  subst e1
  have hk' : k < xs.length := by omega
  exact ⟨xs[k], hc k _ (List.getElem?_eq_getElem hk'), hz k⟩

theorem grownBy_set (w : World) (g k : Nat) (u : Value) : w.grownBy (w.setCell ⟨g, k, none⟩ u) (some g) :=
  ⟨rfl, rfl, rfl, by simp [World.setCell], fun j _ hj => Below.heap_setCell _ _ _ _ (fun e => hj (by simp [e]))⟩

/-- the one cell of a new block -/
theorem one_new (w : World) (x : Value) (t : TypeId) : ∀ (j : Nat) u, [x][j]? = some u → (w.alloc (.cells #[x] t)).cell? ((⟨w.heap.size, 0, none⟩ : Addr).add j) = some u := by
  intro j u hj
  match j, hj with
  | 0, hj => simp at hj; subst hj; simp [Addr.add]

/-- texts as the cells of a row -/
def st (l : List ByteArray) : List Value := l.map Value.string
theorem st_append (l r : List ByteArray) : st (l ++ r) = st l ++ st r := by simp [st]
theorem st_length (l : List ByteArray) : (st l).length = l.length := by simp [st]
theorem st_at (l : List ByteArray) (k : Nat) (h : k < l.length) : (st l)[k]? = some (.string l[k]) := by simp [st, h]
end Go.Proofs.YtohpkegbmhmjeaaGreatDoor

namespace Go.Proofs.YtohpkegbmhmjeaaGreatDoor
open Go.RowKit

/-- hidden from the walk -/
theorem hid {p : Prop} (h : p) : Hid p := h
theorem below_more {w w' : World} (h : Below w.heap.size w w') (o : Obj) : Below w.heap.size w (w'.alloc o) := h.alloc h.size o
theorem below_via {w w1 w2 : World} (h : Below w.heap.size w w1) (h2 : Below w1.heap.size w1 w2) : Below w.heap.size w w2 := h.trans (h2.mono h.size)

/-- block g holds just these cells, of elements of type t -/
def BlockIs (w : World) (g : Nat) (t : TypeId) (cs : List Value) : Prop := w.heap[g]? = some (.cells cs.toArray t (0, 0))

theorem BlockIs.lt {w : World} {g : Nat} {t : TypeId} {cs : List Value} (h : BlockIs w g t cs) : g < w.heap.size := by
  rcases Nat.lt_or_ge g w.heap.size with q | q
  · exact q
  · rw [BlockIs, Array.getElem?_eq_none q] at h; cases h
theorem BlockIs.cell {w : World} {g : Nat} {t : TypeId} {cs : List Value} (h : BlockIs w g t cs) {j : Nat} {v : Value} (hj : cs[j]? = some v) : w.cell? ⟨g, j, none⟩ = some v := by
  unfold BlockIs at h
  simp [World.cell?, h, hj]
theorem BlockIs.thaw {w : World} {g : Nat} {t : TypeId} {cs : List Value} (h : BlockIs w g t cs) (j : Nat) : w.frozen? ⟨g, j, none⟩ = false := by
  unfold BlockIs at h
  simp [World.frozen?, h]
theorem BlockIs.set {w : World} {g : Nat} {t : TypeId} {cs : List Value} (h : BlockIs w g t cs) (j : Nat) (v : Value) : BlockIs (w.setCell ⟨g, j, none⟩ v) g t (cs.set j v) := by
  unfold BlockIs at h ⊢
  simp only [World.setCell]
  rw [Array.getElem?_modify, if_pos rfl, h]
  simp [Array.setIfInBounds]
  exact fun hj => (List.set_eq_of_length_le hj).symm
theorem BlockIs.far {w : World} {g : Nat} {t : TypeId} {cs : List Value} (h : BlockIs w g t cs) {b j : Nat} (hb : b ≠ g) (v : Value) : BlockIs (w.setCell ⟨b, j, none⟩ v) g t cs := by
  unfold BlockIs at h ⊢
  simp only [World.setCell]
  rw [Array.getElem?_modify, if_neg hb]
  exact h
theorem BlockIs.on {w w' : World} {g : Nat} {t : TypeId} {cs : List Value} (h : BlockIs w g t cs) {B : Nat} (hb : Below B w w') (hg : g < B) : BlockIs w' g t cs := by
  unfold BlockIs
  rw [hb.block g hg]
  exact h
theorem BlockIs.made {w' : World} {g base : Nat} {t : TypeId} {n size : Nat} {xs : List Value} (h : w'.ownsRow base t size (.slice (some ⟨g, 0, none⟩) n n) n xs) : BlockIs w' g t xs := by
  obtain ⟨hx, (⟨h1, _⟩ | ⟨g', cap, cur, h1, _, hg, _, _, hs, ht⟩)⟩ := h
  · cases h1
  · cases h1
    unfold BlockIs
    rw [hg]
    have : cur.toList = xs := by rw [← ht, List.take_of_length_le (by simp [hs])]
    rw [← this]

/-- a cell of a row of elements of m cells each -/
theorem row_at {α : Type} (enc : α → List Value) (m : Nat) (hm : ∀ a, (enc a).length = m) (l : List α) (r : List Value) (j c : Nat) (hj : j < l.length) (hc : c < m) : (l.flatMap enc ++ r)[j * m + c]? = (enc l[j])[c]? := by
  induction l generalizing j with
  | nil => simp at hj
  | cons a l ih =>
    cases j with
    | zero =>
      simp only [List.flatMap_cons, Nat.zero_mul, Nat.zero_add, List.getElem_cons_zero, List.append_assoc]
      rw [List.getElem?_append_left (by rw [hm]; exact hc)]
    | succ j =>
      simp only [List.flatMap_cons, List.getElem_cons_succ, List.append_assoc]
      rw [List.getElem?_append_right (by rw [hm, Nat.succ_mul]; omega), hm, show (j + 1) * m + c - m = j * m + c by rw [Nat.succ_mul]; omega]
      exact ih j (by simpa using hj)
theorem row_length {α : Type} (enc : α → List Value) (m : Nat) (hm : ∀ a, (enc a).length = m) (l : List α) : (l.flatMap enc).length = l.length * m := by
  induction l with
  | nil => simp
  | cons a l ih => simp only [List.flatMap_cons, List.length_append, hm, ih, List.length_cons, Nat.succ_mul]; omega
/-- three cells of a list, written -/
theorem set_three (p : List Value) (a b c x y z : Value) (r : List Value) : (((p ++ x :: y :: z :: r).set p.length a).set (p.length + 1) b).set (p.length + 2) c = p ++ a :: b :: c :: r := by
  rw [List.set_append_right _ _ (Nat.le_refl _), List.set_append_right _ _ (by omega), List.set_append_right _ _ (by omega)]
  simp
end Go.Proofs.YtohpkegbmhmjeaaGreatDoor

namespace Go.Proofs.YtohpkegbmhmjeaaGreatDoor
open Go.RowKit

structure SessionD where
  token : Int
  last : Int
  reply : ByteArray
/-- numbers that are numbers, texts that are texts -/
def SessionD.Fits (e : SessionD) : Prop := (-9223372036854775808 ≤ e.token ∧ e.token ≤ 9223372036854775807) ∧ (-9223372036854775808 ≤ e.last ∧ e.last ≤ 9223372036854775807) ∧ e.reply.size ≤ maxLen
def sessionEnc (e : SessionD) : List Value := [.int .i64 e.token, .int .i64 e.last, .string e.reply]
/-- the cells of a row -/
def sessionCells (l : List SessionD) : List Value := l.flatMap sessionEnc
theorem sessionCells_length (l : List SessionD) : (sessionCells l).length = l.length * 3 := row_length sessionEnc 3 (fun _ => rfl) l
theorem sessionCells_take (l : List SessionD) (k : Nat) (h : k < l.length) : sessionCells (l.take (k + 1)) = sessionCells (l.take k) ++ sessionEnc l[k] := by
  rw [List.take_succ_eq_append_getElem h, sessionCells, sessionCells, List.flatMap_append]
  simp
/-- how many letters -/
def sessionOne (e : SessionD) : Int := (e.reply.size : Int)
theorem sessionOne_nonneg (e : SessionD) : 0 ≤ sessionOne e := by unfold sessionOne; omega
def sessionBulk : List SessionD → Int
  | [] => 0
  | f :: l => sessionOne f + sessionBulk l
theorem sessionBulk_nonneg (l : List SessionD) : 0 ≤ sessionBulk l := by
  induction l with
  | nil => exact Int.le_refl 0
  | cons f l ih => have := sessionOne_nonneg f; simp only [sessionBulk]; omega
theorem sessionBulk_take (l : List SessionD) (k : Nat) (h : k < l.length) : sessionBulk (l.take (k + 1)) = sessionBulk (l.take k) + sessionOne l[k] := by
  induction l generalizing k with
  | nil => simp at h
  | cons f l ih =>
    cases k with
    | zero => simp [sessionBulk]
    | succ k =>
      have := ih k (by simpa using h)
      simp only [List.take_succ_cons, sessionBulk, List.getElem_cons_succ] at this ⊢
      omega
theorem sessionBulk_le (l : List SessionD) (k : Nat) : sessionBulk (l.take k) ≤ sessionBulk l := by
  induction l generalizing k with
  | nil => simp [sessionBulk]
  | cons f l ih =>
    cases k with
    | zero => have := sessionBulk_nonneg (f :: l); simpa [sessionBulk] using this
    | succ k => have := ih k; simp only [List.take_succ_cons, sessionBulk]; omega
theorem session_le_bulk {l : List SessionD} {f : SessionD} (h : f ∈ l) : sessionOne f ≤ sessionBulk l := by
  induction l with
  | nil => cases h
  | cons g l ih =>
    simp only [sessionBulk]
    have := sessionBulk_nonneg l
    have := sessionOne_nonneg g
    rcases List.mem_cons.1 h with e | e
    · subst e; omega
    · have := ih e; omega
/-- few and short -/
def SessionsSmall (l : List SessionD) : Prop := l.length ≤ 1048576 ∧ ∀ f ∈ l, sessionOne f ≤ 1048576
theorem sessionsSmall {l : List SessionD} (h : 0 ≤ (1048576 : Int) - l.length - sessionBulk l) : SessionsSmall l := by
  have := sessionBulk_nonneg l
  exact ⟨by omega, fun f hf => by have := session_le_bulk hf; omega⟩
/-- they lie at an address, one behind the other -/
def SessionsAt (w : World) (ao : Option Addr) (l : List SessionD) : Prop :=
  l ≠ [] → ∃ b off, ao = some ⟨b, off, none⟩ ∧ ∀ j (hj : j < l.length), w.cell? ⟨b, off + j * 3, none⟩ = some (.int .i64 l[j].token) ∧ w.cell? ⟨b, off + j * 3 + 1, none⟩ = some (.int .i64 l[j].last) ∧ w.cell? ⟨b, off + j * 3 + 2, none⟩ = some (.string l[j].reply)
theorem sessionsAt_of {w : World} {g : Nat} {t : TypeId} {l : List SessionD} {r : List Value} (h : BlockIs w g t (sessionCells l ++ r)) : SessionsAt w (some ⟨g, 0, none⟩) l := by
  intro _
  refine ⟨g, 0, rfl, fun j hj => ?_⟩
  rw [Nat.zero_add]
  exact ⟨h.cell (row_at sessionEnc 3 (fun _ => rfl) l r j 0 hj (by omega)), h.cell (row_at sessionEnc 3 (fun _ => rfl) l r j 1 hj (by omega)), h.cell (row_at sessionEnc 3 (fun _ => rfl) l r j 2 hj (by omega))⟩
def SessionsFit (l : List SessionD) : Prop := ∀ j (hj : j < l.length), l[j].Fits
theorem SessionsAt.on {w w' : World} {ao : Option Addr} {l : List SessionD} (h : SessionsAt w ao l) (hb : Below w.heap.size w w') : SessionsAt w' ao l := by
  intro h0
  obtain ⟨b, off, e1, e2⟩ := h h0
  refine ⟨b, off, e1, fun j hj => ?_⟩
  obtain ⟨x0, x1, x2⟩ := e2 j hj
  exact ⟨(hb.cell (p := ⟨b, off + j * 3, none⟩) (World.block_lt_of_cell? w _ x0)).trans x0, (hb.cell (p := ⟨b, off + j * 3 + 1, none⟩) (World.block_lt_of_cell? w _ x1)).trans x1, (hb.cell (p := ⟨b, off + j * 3 + 2, none⟩) (World.block_lt_of_cell? w _ x2)).trans x2⟩
/-- cells of a list, written -/
theorem session_sets (p : List Value) (a0 a1 a2 o0 o1 o2 : Value) (r : List Value) : (((p ++ o0 :: o1 :: o2 :: r).set (p.length) a0).set (p.length + 1) a1).set (p.length + 2) a2 = p ++ a0 :: a1 :: a2 :: r := by
  rw [List.set_append_right _ _ (Nat.le_refl _), List.set_append_right _ _ (by omega), List.set_append_right _ _ (by omega)]
  simp
theorem session_set_other {cs : List Value} {i j : Nat} {v u : Value} (h : cs[j]? = some u) (hij : i ≠ j) : (cs.set i v)[j]? = some u := by
  rw [List.getElem?_set_ne hij]; exact h
end Go.Proofs.YtohpkegbmhmjeaaGreatDoor

namespace Go.Proofs.YtohpkegbmhmjeaaGreatDoor
open Go.RowKit

theorem toSession_info : (Tryz.prog.info? 36).map (fun i => (i.zero, i.size, i.bytes)) = some (some (.agg #[.int .i64 0, .int .i64 0, .string ByteArray.empty]), 3, 32) := by kernel_rfl
/-- an element's cells are written -/
theorem put_session {w w2 : World} {g k : Nat} {t : TypeId} {l : List SessionD} {r : List Value} (hk : k < l.length) (h : BlockIs w g t (sessionCells (l.take k) ++ r)) (hr : r.length = (l.length - k) * 3) {B : Nat} (hb : Below B w w2) (hg : g < B) :
    (∃ o0 o1 o2, w2.cell? ⟨g, k * 3, none⟩ = some o0 ∧ w2.cell? ⟨g, k * 3 + 1, none⟩ = some o1 ∧ w2.cell? ⟨g, k * 3 + 2, none⟩ = some o2) ∧ (∀ j, w2.frozen? ⟨g, j, none⟩ = false) ∧
    ∃ r', r'.length = (l.length - (k + 1)) * 3 ∧ BlockIs (((w2.setCell ⟨g, k * 3, none⟩ (.int .i64 l[k].token)).setCell ⟨g, k * 3 + 1, none⟩ (.int .i64 l[k].last)).setCell ⟨g, k * 3 + 2, none⟩ (.string l[k].reply)) g t (sessionCells (l.take (k + 1)) ++ r') := by
  have h2 := h.on hb hg
  have hlen : (sessionCells (l.take k)).length = k * 3 := by rw [sessionCells_length, List.length_take]; omega
  match r, hr with
  | z0 :: z1 :: z2 :: r', hr =>
    have hs := ((h2.set (k * 3) (.int .i64 l[k].token)).set (k * 3 + 1) (.int .i64 l[k].last)).set (k * 3 + 2) (.string l[k].reply)
    have e3 := session_sets (sessionCells (l.take k)) (.int .i64 l[k].token) (.int .i64 l[k].last) (.string l[k].reply) z0 z1 z2 r'
    rw [hlen] at e3
    rw [e3] at hs
    refine ⟨⟨z0, z1, z2, h2.cell ?_, h2.cell ?_, h2.cell ?_⟩, fun j => h2.thaw j, r', ?_, ?_⟩
    · rw [List.getElem?_append_right (by omega), hlen, Nat.sub_self]; rfl
    · rw [List.getElem?_append_right (by omega), hlen, show k * 3 + 1 - k * 3 = 1 by omega]; rfl
    · rw [List.getElem?_append_right (by omega), hlen, show k * 3 + 2 - k * 3 = 2 by omega]; rfl
    · simp at hr; omega
    · rw [sessionCells_take l k hk, List.append_assoc]
      exact hs
  | [], hr => simp at hr; omega
  | [_], hr => simp at hr; omega
  | [_, _], hr => simp at hr; omega

theorem made_session (n : Nat) : (madeCells (Value.agg #[.int .i64 0, .int .i64 0, .string ByteArray.empty]).cells (n * 3)).toList.length = n * 3 := by
  simp [madeCells]
end Go.Proofs.YtohpkegbmhmjeaaGreatDoor

namespace Go.Proofs.YtohpkegbmhmjeaaGreatDoor
open Go.RowKit

theorem row_shape {w : World} {base size n : Nat} {t : TypeId} {v : Value} {xs : List Value} (h : w.ownsRow base t size v n xs) : ∃ a c, v = .slice a n c := by
  obtain ⟨_, (⟨rfl, rfl⟩ | ⟨g, cap, _, rfl, _⟩)⟩ := h
  · exact ⟨_, _, rfl⟩
  · exact ⟨_, _, rfl⟩
theorem row_down {w : World} {base base' size n : Nat} {t : TypeId} {v : Value} {xs : List Value} (h : w.ownsRow base t size v n xs) (hb : base' ≤ base) : w.ownsRow base' t size v n xs :=
  ⟨h.1, h.2.imp id fun ⟨g, cap, cur, a, b, r⟩ => ⟨g, cap, cur, a, Nat.le_trans hb b, r⟩⟩
/-- behind an append to a row of the call's own: all that was there ahead of the row stands -/
theorem behind_append {w wr w1 : World} {v : Value} {base n : Nat} {t : TypeId} {size : Nat} {xs : List Value} {o : Obj} (hB : w.heap.size ≤ base) (BR : Below w.heap.size w wr) (OR : wr.ownsRow base t size v n xs) (hz : base ≤ wr.heap.size) (hg : (wr.alloc o).drew.grownBy w1 v.ownBlock) :
    Below w.heap.size w w1 ∧ base ≤ w1.heap.size ∧ ∀ j tj cs, j < base → BlockIs wr j tj cs → BlockIs w1 j tj cs := by
  have hown : ∀ j, v.ownBlock = some j → base ≤ j := fun j hj => (OR.lt j hj).1
  have hd : Below wr.heap.size wr (wr.alloc o).drew := below_drewN (below_more (Below.refl _ wr) o) 1
  have h1 : Below base wr w1 := ((hd.mono hz).grown hg (Nat.le_trans hz hd.size) hown)
  refine ⟨BR.trans (h1.mono hB), Nat.le_trans hz h1.size, fun j tj cs hj hb => hb.on h1 hj⟩
end Go.Proofs.YtohpkegbmhmjeaaGreatDoor

namespace Go.Proofs.YtohpkegbmhmjeaaGreatDoor
open Go.RowKit

/-- four blocks laid one behind the other -/
theorem four_log (w : World) (o p q : Obj) : Below w.heap.size w (((w.alloc o).alloc p).alloc q) ∧ (((w.alloc o).alloc p).alloc q).heap[w.heap.size]? = some o ∧ (((w.alloc o).alloc p).alloc q).heap[w.heap.size + 1]? = some p ∧ (((w.alloc o).alloc p).alloc q).heap[w.heap.size + 1 + 1]? = some q := by
  refine ⟨below_more (below_more (below_more (Below.refl _ w) _) _) _, ?_, ?_, ?_⟩
  · show (((w.heap.push o).push p).push q)[w.heap.size]? = some o
    rw [Array.getElem?_push, if_neg (by simp; omega), Array.getElem?_push, if_neg (by simp), Array.getElem?_push, if_pos rfl]
  · show (((w.heap.push o).push p).push q)[w.heap.size + 1]? = some p
    rw [Array.getElem?_push, if_neg (by simp), Array.getElem?_push, if_pos (by simp)]
  · show (((w.heap.push o).push p).push q)[w.heap.size + 1 + 1]? = some q
    rw [Array.getElem?_push, if_pos (by simp)]

/-- a row of the call's own, made between two sizes of memory -/
def OwnAt (w : World) (t : TypeId) (cs : List Value) (n : Nat) (va : Option Addr) (lo hi : Nat) : Prop :=
  n = 0 ∨ ∃ g r, va = some ⟨g, 0, none⟩ ∧ lo ≤ g ∧ g < hi ∧ BlockIs w g t (cs ++ r)
theorem OwnAt.on {w w' : World} {t : TypeId} {cs : List Value} {n : Nat} {va : Option Addr} {lo hi : Nat} (h : OwnAt w t cs n va lo hi) (hb : Below w.heap.size w w') : OwnAt w' t cs n va lo hi :=
  h.imp id fun ⟨g, r, a, b, c, d⟩ => ⟨g, r, a, b, c, d.on hb d.lt⟩
theorem OwnAt.down {w : World} {t : TypeId} {cs : List Value} {n : Nat} {va : Option Addr} {lo hi lo' hi' : Nat} (h : OwnAt w t cs n va lo hi) (h1 : lo' ≤ lo) (h2 : hi ≤ hi') : OwnAt w t cs n va lo' hi' :=
  h.imp id fun ⟨g, r, a, b, c, d⟩ => ⟨g, r, a, Nat.le_trans h1 b, Nat.lt_of_lt_of_le c h2, d⟩
/-- a cell below is written -/
theorem OwnAt.far {w : World} {t : TypeId} {cs : List Value} {n : Nat} {va : Option Addr} {lo b j : Nat} (h : OwnAt w t cs n va lo w.heap.size) (hb : b < lo) (v : Value) : OwnAt (w.setCell ⟨b, j, none⟩ v) t cs n va lo (w.setCell ⟨b, j, none⟩ v).heap.size := by
  rw [World.size_setCell]
  exact h.imp id fun ⟨g, r, a, c, d, e⟩ => ⟨g, r, a, c, d, e.far (by omega) v⟩
/-- nothing but blocks between two sizes has turned -/
def KeptBut (lo hi : Nat) (w w' : World) : Prop := ∀ j t cs, ¬ (lo ≤ j ∧ j < hi) → BlockIs w j t cs → BlockIs w' j t cs
theorem OwnAt.kept {w w' : World} {t : TypeId} {cs : List Value} {n : Nat} {va : Option Addr} {lo hi lo2 hi2 : Nat} (h : OwnAt w t cs n va lo hi) (hk : KeptBut lo2 hi2 w w') (ho : hi ≤ lo2 ∨ hi2 ≤ lo) : OwnAt w' t cs n va lo hi :=
  h.imp id fun ⟨g, r, a, b, c, d⟩ => ⟨g, r, a, b, c, hk _ _ _ (by omega) d⟩
theorem BlockIs.kept {w w' : World} {g lo hi : Nat} {t : TypeId} {cs : List Value} (h : BlockIs w g t cs) (hk : KeptBut lo hi w w') (ho : g < lo ∨ hi ≤ g) : BlockIs w' g t cs := hk _ _ _ (by omega) h
theorem row_ext {x y : World} {base size n : Nat} {t : TypeId} {v : Value} {xs : List Value} (h : x.ownsRow base t size v n xs) (hb : ∀ g cs, BlockIs x g t cs → BlockIs y g t cs) : y.ownsRow base t size v n xs := by
  refine ⟨h.1, h.2.imp id ?_⟩
  rintro ⟨g, cap, cur, a, b, c, r⟩
  have := hb g cur.toList (by unfold BlockIs; rw [c])
  unfold BlockIs at this
  exact ⟨g, cap, cur, a, b, by rw [this], r⟩
theorem OwnAt.ext {x y : World} {t : TypeId} {cs : List Value} {n : Nat} {va : Option Addr} {lo : Nat} (h : OwnAt x t cs n va lo x.heap.size) (hs : x.heap.size ≤ y.heap.size) (hb : ∀ g r, BlockIs x g t (cs ++ r) → BlockIs y g t (cs ++ r)) : OwnAt y t cs n va lo y.heap.size :=
  h.imp id fun ⟨g, r, a, b, c, d⟩ => ⟨g, r, a, b, Nat.lt_of_lt_of_le c hs, hb g r d⟩
theorem row_block {w : World} {base size n : Nat} {t : TypeId} {v : Value} {xs : List Value} (h : w.ownsRow base t size v n xs) {g : Nat} (hg : v.ownBlock = some g) : ∃ cs, BlockIs w g t cs ∧ base ≤ g := by
  obtain ⟨_, (⟨rfl, _⟩ | ⟨g', cap, cur, rfl, hb, hc, _⟩)⟩ := h
  · cases hg
  · cases hg
    exact ⟨cur.toList, by unfold BlockIs; rw [hc], hb⟩
theorem block_one {w : World} {g : Nat} {t t' : TypeId} {cs cs' : List Value} (h : BlockIs w g t cs) (h' : BlockIs w g t' cs') : t = t' ∧ cs = cs' := by
  unfold BlockIs at h h'
  rw [h] at h'
  simp only [Option.some.injEq, Obj.cells.injEq] at h'
  exact ⟨h'.2.1, by simpa using h'.1⟩
end Go.Proofs.YtohpkegbmhmjeaaGreatDoor

namespace Go.Proofs.YtohpkegbmhmjeaaGreatDoor
open Go.RowKit

theorem sessionR_one (a : SessionD) : ∀ u ∈ sessionEnc a, u.oneCell' = true := by
  intro u hu
  simp only [sessionEnc, List.mem_cons, List.not_mem_nil, or_false] at hu
  rcases hu with rfl | rfl | rfl <;> rfl
theorem sessionR_all (l : List SessionD) : ∀ u ∈ sessionCells l, u.oneCell' = true := by
  intro u hu
  obtain ⟨a, _, h⟩ := List.mem_flatMap.1 hu
  exact sessionR_one a u h
theorem sessionR_snoc (l : List SessionD) (a : SessionD) : sessionCells (l ++ [a]) = sessionCells l ++ sessionEnc a := by simp [sessionCells]
theorem sessionR_append (l m : List SessionD) : sessionCells (l ++ m) = sessionCells l ++ sessionCells m := by simp [sessionCells]
/-- the cells of a list that lies at an address -/
theorem sessions_cells {w : World} {b off : Nat} {l : List SessionD} (h : ∀ j (hj : j < l.length), w.cell? ⟨b, off + j * 3, none⟩ = some (.int .i64 l[j].token) ∧ w.cell? ⟨b, off + j * 3 + 1, none⟩ = some (.int .i64 l[j].last) ∧ w.cell? ⟨b, off + j * 3 + 2, none⟩ = some (.string l[j].reply)) :
    ∀ j u, (sessionCells l)[j]? = some u → w.cell? ((⟨b, off, none⟩ : Addr).add j) = some u := by
  intro j u hu
  have hlt : j < (sessionCells l).length := (List.getElem?_eq_some_iff.1 hu).1
  rw [sessionCells_length] at hlt
  have hj : j / 3 < l.length := by omega
  have hr := row_at sessionEnc 3 (fun _ => rfl) l [] (j / 3) (j % 3) hj (Nat.mod_lt _ (by omega))
  rw [List.append_nil, show j / 3 * 3 + j % 3 = j by omega] at hr
  have hu' : (sessionEnc l[j / 3])[j % 3]? = some u := by rw [← hr]; exact hu
  have hadd : (⟨b, off, none⟩ : Addr).add j = ⟨b, off + j, none⟩ := Addr.add_lit _ _ _
  rw [hadd]
  obtain ⟨h0, h1, h2⟩ := h (j / 3) hj
  have h3 : j % 3 = 0 ∨ j % 3 = 1 ∨ j % 3 = 2 := by omega
  rcases h3 with e | e | e
  · rw [e] at hu'
    rw [show off + j = off + j / 3 * 3 by omega, h0]
    exact hu'
  · rw [e] at hu'
    rw [show off + j = off + j / 3 * 3 + 1 by omega, h1]
    exact hu'
  · rw [e] at hu'
    rw [show off + j = off + j / 3 * 3 + 2 by omega, h2]
    exact hu'
theorem sessionR_below {w w2 : World} {base n : Nat} {v : Value} {xs : List Value} (h : w.ownsRow base 36 3 v n xs) (hb : Below w.heap.size w w2) : w2.ownsRow base 36 3 v n xs := by
  refine h.kept (grown_of_below hb none) ?_
  cases v.ownBlock with
  | none => exact Or.inl rfl
  | some g => exact Or.inr (by simp)
theorem sessionR_block {w : World} {base n j : Nat} {v : Value} {xs : List Value} (h : w.ownsRow base 36 3 v n xs) (hv : v.ownBlock = some j) : base ≤ j ∧ ∃ cs, BlockIs w j 36 cs := by
  rcases h.2 with ⟨rfl, _⟩ | ⟨g, cap, cur, rfl, hb, hh, _⟩
  · simp [Value.ownBlock] at hv
  · have : g = j := by simpa [Value.ownBlock] using hv
    subst this
    exact ⟨hb, cur.toList, by unfold BlockIs; rw [hh]⟩
/-- a block of another type stands where a row grows -/
theorem sessionR_other {w w1 : World} {base n g : Nat} {t : TypeId} {v : Value} {xs cs : List Value} (h : BlockIs w g t cs) (hr : w.ownsRow base 36 3 v n xs) (hg : w.grownBy w1 v.ownBlock) (ht : t ≠ 36) : BlockIs w1 g t cs := by
  have hlt := h.lt
  unfold BlockIs at h ⊢
  rw [hg.block g hlt ?_]
  · exact h
  · intro e
    obtain ⟨_, cs2, h2⟩ := sessionR_block hr e.symm
    unfold BlockIs at h2
    rw [h] at h2
    simp only [Option.some.injEq, Obj.cells.injEq] at h2
    exact ht h2.2.1
theorem sessionR_down {w w1 w2 : World} {m base n : Nat} {v : Value} {xs : List Value} (h : Below m w w1) (hr : w1.ownsRow base 36 3 v n xs) (hg : w1.grownBy w2 v.ownBlock) (hb : m ≤ base) (hm : m ≤ w1.heap.size) : Below m w w2 :=
  h.grown hg hm (fun k e => by have := (sessionR_block hr e).1; omega)
theorem sessionR_nil (w : World) (m : Nat) (hm : m ≤ w.heap.size) : World.ownsRow (w.alloc (.cells #[] 36)) m 36 3 (.slice (some ⟨w.heap.size, 0, none⟩) 0 0) 0 (sessionCells []) :=
  row_down (World.ownsRow_made w (size := 3) (e := 36) #[] 0 (Nat.le_refl _) (Nat.zero_le _) rfl) hm
/-- one that is laid by itself -/
theorem sessionR_new (w : World) (a : SessionD) : ∀ j u, (sessionEnc a)[j]? = some u → (w.alloc (.cells #[.int .i64 a.token, .int .i64 a.last, .string a.reply] 36)).cell? ((⟨w.heap.size, 0, none⟩ : Addr).add j) = some u := by
  intro j u hu
  rw [Addr.add_lit, Nat.zero_add]
  exact (show BlockIs _ _ 36 (sessionEnc a) from heap_alloc_new w _).cell hu
/-- a list behind a row of the call's own -/
theorem append_sessions {W : World} {v : Value} {base c : Nat} {L M : List SessionD} {ao : Option Addr} (hn : L.length + M.length ≤ 2097153) (hbase : base ≤ W.heap.size) (hr : W.ownsRow base 36 3 v L.length (sessionCells L)) (hM : SessionsAt W ao M) :
    ∃ v' W', (Builtin.append_ #[24, 24] 24 #[v, .slice ao M.length c]).run Tryz.prog W = .ok v' W' ∧ W'.ownsRow base 36 3 v' (L ++ M).length (sessionCells (L ++ M)) ∧ W.grownBy W' v.ownBlock := by
  obtain ⟨i0, hi, hz0, hz1, hz2⟩ := info_parts toSession_info
  rw [List.length_append, sessionR_append]
  cases ao with
  | none =>
    have hM0 : M = [] := by
      by_cases hne : M = []
      · exact hne
      · obtain ⟨b, off, e, _⟩ := hM hne
        cases e
    subst hM0
    refine ⟨v, W, ?_, by simpa [sessionCells] using hr, World.grownBy.refl _ _⟩
    obtain ⟨va, vc, rfl⟩ := row_shape hr
    have hlc : L.length ≤ vc := by
      rcases hr.2 with ⟨hq, hz⟩ | ⟨_, cp, _, hq, _, _, hle, _⟩
      · omega
      · simp only [Value.slice.injEq] at hq
        omega
    cases va <;> simp [Builtin.append_, run_underlying Tryz.underlying24, sizeOf, typeInfo, hi, Builtin.lenOf, Builtin.firstCells, storeCells, hlc]
  | some ad =>
    have hnews : ∀ j u, (sessionCells M)[j]? = some u → W.cell? (ad.add j) = some u := by
      by_cases hne : M = []
      · subst hne
        intro j u hu
        simp [sessionCells] at hu
      · obtain ⟨b, off, e, hc⟩ := hM hne
        cases e
        exact sessions_cells hc
    obtain ⟨v', W', h1, h2, h3, _⟩ := run_append_own (P := Tryz.prog) W base 24 24 36 i0 _ 3 32 Tryz.underlying24 hi hz0 hz1 hz2 rfl (by decide) v L.length _ hr ad M.length c (sessionCells M) (sessionCells_length M) hnews (sessionR_all M) (by unfold maxLen; omega) (by omega) hbase
    exact ⟨v', W', h1, h2, h3⟩
theorem wpList_append_sessions {w : World} {ops : Array Oper} {rest : List Oper} {o : Oper} {a : Act} {Q : Exit → Act → World → Prop} (hgd : o.guard = none) (s x : Operand)
    (ho : o.op = .call { callee := .builtin .append, args := #[s, x], argTypes := #[24, 24] }) (hty : o.type = 24) {v : Value} {base c m N : Nat} {L M : List SessionD} {ao : Option Addr} (hs : a.eval s = v) (hx : a.eval x = .slice ao m c)
    (hm : M.length = m) (hN : (L ++ M).length = N) (hn : N ≤ 2097153) (hbase : base ≤ w.heap.size) (hr : w.ownsRow base 36 3 v L.length (sessionCells L)) (hM : SessionsAt w ao M)
    (h : ∀ va vc w1, w1.ownsRow base 36 3 (.slice va N vc) N (sessionCells (L ++ M)) → w.grownBy w1 v.ownBlock → wpList Tryz.prog ops Q rest (a.put o.dst (.slice va N vc)) w1) : wpList Tryz.prog ops Q (o :: rest) a w := by
  subst hm hN
  obtain ⟨v', W', hrun, h2, h3⟩ := append_sessions (c := c) (by rw [← List.length_append]; exact hn) hbase hr hM
  obtain ⟨va, vc, rfl⟩ := row_shape h2
  refine wpList_plain hgd fun K hK => ?_
  unfold Oper.wp
  simp [execOp, ho, hty, resolve, invoke, builtin, hs, hx, hrun, Result.andThen]
  have h4 := h va vc W' h2 h3
  rw [List.length_append] at h4
  exact hK _ _ h4
/-- they lie there -/
theorem sessionR_at {w : World} {base : Nat} {va : Option Addr} {vc : Nat} {l : List SessionD} (h : w.ownsRow base 36 3 (.slice va l.length vc) l.length (sessionCells l)) : SessionsAt w va l := by
  rcases h.2 with ⟨hv, h0⟩ | ⟨g, cp, cur, hv, _, hh, _, _, _, ht⟩
  · exact fun hne => absurd (List.length_eq_zero_iff.1 h0) hne
  · simp only [Value.slice.injEq] at hv
    obtain ⟨rfl, _, rfl⟩ := hv
    have hcur : cur.toList = sessionCells l ++ cur.toList.drop (l.length * 3) := by rw [← ht, List.take_append_drop]
    exact sessionsAt_of (r := cur.toList.drop (l.length * 3)) (by unfold BlockIs; rw [hh, ← hcur])
end Go.Proofs.YtohpkegbmhmjeaaGreatDoor

namespace Go.Proofs.YtohpkegbmhmjeaaGreatDoor
open Go.RowKit

structure ItemD where
  key : ByteArray
  val : ByteArray
  ver : Int
/-- numbers that are numbers, texts that are texts -/
def ItemD.Fits (e : ItemD) : Prop := e.key.size ≤ maxLen ∧ e.val.size ≤ maxLen ∧ (-9223372036854775808 ≤ e.ver ∧ e.ver ≤ 9223372036854775807)
def itemEnc (e : ItemD) : List Value := [.string e.key, .string e.val, .int .i64 e.ver]
/-- the cells of a row -/
def itemCells (l : List ItemD) : List Value := l.flatMap itemEnc
theorem itemCells_length (l : List ItemD) : (itemCells l).length = l.length * 3 := row_length itemEnc 3 (fun _ => rfl) l
theorem itemCells_take (l : List ItemD) (k : Nat) (h : k < l.length) : itemCells (l.take (k + 1)) = itemCells (l.take k) ++ itemEnc l[k] := by
  rw [List.take_succ_eq_append_getElem h, itemCells, itemCells, List.flatMap_append]
  simp
/-- how many letters -/
def itemOne (e : ItemD) : Int := (e.key.size : Int) + (e.val.size : Int)
theorem itemOne_nonneg (e : ItemD) : 0 ≤ itemOne e := by unfold itemOne; omega
def itemBulk : List ItemD → Int
  | [] => 0
  | f :: l => itemOne f + itemBulk l
theorem itemBulk_nonneg (l : List ItemD) : 0 ≤ itemBulk l := by
  induction l with
  | nil => exact Int.le_refl 0
  | cons f l ih => have := itemOne_nonneg f; simp only [itemBulk]; omega
theorem itemBulk_take (l : List ItemD) (k : Nat) (h : k < l.length) : itemBulk (l.take (k + 1)) = itemBulk (l.take k) + itemOne l[k] := by
  induction l generalizing k with
  | nil => simp at h
  | cons f l ih =>
    cases k with
    | zero => simp [itemBulk]
    | succ k =>
      have := ih k (by simpa using h)
      simp only [List.take_succ_cons, itemBulk, List.getElem_cons_succ] at this ⊢
      omega
theorem itemBulk_le (l : List ItemD) (k : Nat) : itemBulk (l.take k) ≤ itemBulk l := by
  induction l generalizing k with
  | nil => simp [itemBulk]
  | cons f l ih =>
    cases k with
    | zero => have := itemBulk_nonneg (f :: l); simpa [itemBulk] using this
    | succ k => have := ih k; simp only [List.take_succ_cons, itemBulk]; omega
theorem item_le_bulk {l : List ItemD} {f : ItemD} (h : f ∈ l) : itemOne f ≤ itemBulk l := by
  induction l with
  | nil => cases h
  | cons g l ih =>
    simp only [itemBulk]
    have := itemBulk_nonneg l
    have := itemOne_nonneg g
    rcases List.mem_cons.1 h with e | e
    · subst e; omega
    · have := ih e; omega
/-- few and short -/
def ItemsSmall (l : List ItemD) : Prop := l.length ≤ 1048576 ∧ ∀ f ∈ l, itemOne f ≤ 1048576
theorem itemsSmall {l : List ItemD} (h : 0 ≤ (1048576 : Int) - l.length - itemBulk l) : ItemsSmall l := by
  have := itemBulk_nonneg l
  exact ⟨by omega, fun f hf => by have := item_le_bulk hf; omega⟩
/-- they lie at an address, one behind the other -/
def ItemsAt (w : World) (ao : Option Addr) (l : List ItemD) : Prop :=
  l ≠ [] → ∃ b off, ao = some ⟨b, off, none⟩ ∧ ∀ j (hj : j < l.length), w.cell? ⟨b, off + j * 3, none⟩ = some (.string l[j].key) ∧ w.cell? ⟨b, off + j * 3 + 1, none⟩ = some (.string l[j].val) ∧ w.cell? ⟨b, off + j * 3 + 2, none⟩ = some (.int .i64 l[j].ver)
theorem itemsAt_of {w : World} {g : Nat} {t : TypeId} {l : List ItemD} {r : List Value} (h : BlockIs w g t (itemCells l ++ r)) : ItemsAt w (some ⟨g, 0, none⟩) l := by
  intro _
  refine ⟨g, 0, rfl, fun j hj => ?_⟩
  rw [Nat.zero_add]
  exact ⟨h.cell (row_at itemEnc 3 (fun _ => rfl) l r j 0 hj (by omega)), h.cell (row_at itemEnc 3 (fun _ => rfl) l r j 1 hj (by omega)), h.cell (row_at itemEnc 3 (fun _ => rfl) l r j 2 hj (by omega))⟩
def ItemsFit (l : List ItemD) : Prop := ∀ j (hj : j < l.length), l[j].Fits
theorem ItemsAt.on {w w' : World} {ao : Option Addr} {l : List ItemD} (h : ItemsAt w ao l) (hb : Below w.heap.size w w') : ItemsAt w' ao l := by
  intro h0
  obtain ⟨b, off, e1, e2⟩ := h h0
  refine ⟨b, off, e1, fun j hj => ?_⟩
  obtain ⟨x0, x1, x2⟩ := e2 j hj
  exact ⟨(hb.cell (p := ⟨b, off + j * 3, none⟩) (World.block_lt_of_cell? w _ x0)).trans x0, (hb.cell (p := ⟨b, off + j * 3 + 1, none⟩) (World.block_lt_of_cell? w _ x1)).trans x1, (hb.cell (p := ⟨b, off + j * 3 + 2, none⟩) (World.block_lt_of_cell? w _ x2)).trans x2⟩
/-- cells of a list, written -/
theorem item_sets (p : List Value) (a0 a1 a2 o0 o1 o2 : Value) (r : List Value) : (((p ++ o0 :: o1 :: o2 :: r).set (p.length) a0).set (p.length + 1) a1).set (p.length + 2) a2 = p ++ a0 :: a1 :: a2 :: r := by
  rw [List.set_append_right _ _ (Nat.le_refl _), List.set_append_right _ _ (by omega), List.set_append_right _ _ (by omega)]
  simp
theorem item_set_other {cs : List Value} {i j : Nat} {v u : Value} (h : cs[j]? = some u) (hij : i ≠ j) : (cs.set i v)[j]? = some u := by
  rw [List.getElem?_set_ne hij]; exact h
end Go.Proofs.YtohpkegbmhmjeaaGreatDoor

namespace Go.Proofs.YtohpkegbmhmjeaaGreatDoor
open Go.RowKit

theorem toItem_info : (Tryz.prog.info? 41).map (fun i => (i.zero, i.size, i.bytes)) = some (some (.agg #[.string ByteArray.empty, .string ByteArray.empty, .int .i64 0]), 3, 40) := by kernel_rfl
/-- an element's cells are written -/
theorem put_item {w w2 : World} {g k : Nat} {t : TypeId} {l : List ItemD} {r : List Value} (hk : k < l.length) (h : BlockIs w g t (itemCells (l.take k) ++ r)) (hr : r.length = (l.length - k) * 3) {B : Nat} (hb : Below B w w2) (hg : g < B) :
    (∃ o0 o1 o2, w2.cell? ⟨g, k * 3, none⟩ = some o0 ∧ w2.cell? ⟨g, k * 3 + 1, none⟩ = some o1 ∧ w2.cell? ⟨g, k * 3 + 2, none⟩ = some o2) ∧ (∀ j, w2.frozen? ⟨g, j, none⟩ = false) ∧
    ∃ r', r'.length = (l.length - (k + 1)) * 3 ∧ BlockIs (((w2.setCell ⟨g, k * 3, none⟩ (.string l[k].key)).setCell ⟨g, k * 3 + 1, none⟩ (.string l[k].val)).setCell ⟨g, k * 3 + 2, none⟩ (.int .i64 l[k].ver)) g t (itemCells (l.take (k + 1)) ++ r') := by
  have h2 := h.on hb hg
  have hlen : (itemCells (l.take k)).length = k * 3 := by rw [itemCells_length, List.length_take]; omega
  match r, hr with
  | z0 :: z1 :: z2 :: r', hr =>
    have hs := ((h2.set (k * 3) (.string l[k].key)).set (k * 3 + 1) (.string l[k].val)).set (k * 3 + 2) (.int .i64 l[k].ver)
    have e3 := item_sets (itemCells (l.take k)) (.string l[k].key) (.string l[k].val) (.int .i64 l[k].ver) z0 z1 z2 r'
    rw [hlen] at e3
    rw [e3] at hs
    refine ⟨⟨z0, z1, z2, h2.cell ?_, h2.cell ?_, h2.cell ?_⟩, fun j => h2.thaw j, r', ?_, ?_⟩
    · rw [List.getElem?_append_right (by omega), hlen, Nat.sub_self]; rfl
    · rw [List.getElem?_append_right (by omega), hlen, show k * 3 + 1 - k * 3 = 1 by omega]; rfl
    · rw [List.getElem?_append_right (by omega), hlen, show k * 3 + 2 - k * 3 = 2 by omega]; rfl
    · simp at hr; omega
    · rw [itemCells_take l k hk, List.append_assoc]
      exact hs
  | [], hr => simp at hr; omega
  | [_], hr => simp at hr; omega
  | [_, _], hr => simp at hr; omega

theorem made_item (n : Nat) : (madeCells (Value.agg #[.string ByteArray.empty, .string ByteArray.empty, .int .i64 0]).cells (n * 3)).toList.length = n * 3 := by
  simp [madeCells]
end Go.Proofs.YtohpkegbmhmjeaaGreatDoor

namespace Go.Proofs.YtohpkegbmhmjeaaGreatDoor
open Go.RowKit

theorem itemR_one (a : ItemD) : ∀ u ∈ itemEnc a, u.oneCell' = true := by
  intro u hu
  simp only [itemEnc, List.mem_cons, List.not_mem_nil, or_false] at hu
  rcases hu with rfl | rfl | rfl <;> rfl
theorem itemR_all (l : List ItemD) : ∀ u ∈ itemCells l, u.oneCell' = true := by
  intro u hu
  obtain ⟨a, _, h⟩ := List.mem_flatMap.1 hu
  exact itemR_one a u h
theorem itemR_snoc (l : List ItemD) (a : ItemD) : itemCells (l ++ [a]) = itemCells l ++ itemEnc a := by simp [itemCells]
theorem itemR_append (l m : List ItemD) : itemCells (l ++ m) = itemCells l ++ itemCells m := by simp [itemCells]
/-- the cells of a list that lies at an address -/
theorem items_cells {w : World} {b off : Nat} {l : List ItemD} (h : ∀ j (hj : j < l.length), w.cell? ⟨b, off + j * 3, none⟩ = some (.string l[j].key) ∧ w.cell? ⟨b, off + j * 3 + 1, none⟩ = some (.string l[j].val) ∧ w.cell? ⟨b, off + j * 3 + 2, none⟩ = some (.int .i64 l[j].ver)) :
    ∀ j u, (itemCells l)[j]? = some u → w.cell? ((⟨b, off, none⟩ : Addr).add j) = some u := by
  intro j u hu
  have hlt : j < (itemCells l).length := (List.getElem?_eq_some_iff.1 hu).1
  rw [itemCells_length] at hlt
  have hj : j / 3 < l.length := by omega
  have hr := row_at itemEnc 3 (fun _ => rfl) l [] (j / 3) (j % 3) hj (Nat.mod_lt _ (by omega))
  rw [List.append_nil, show j / 3 * 3 + j % 3 = j by omega] at hr
  have hu' : (itemEnc l[j / 3])[j % 3]? = some u := by rw [← hr]; exact hu
  have hadd : (⟨b, off, none⟩ : Addr).add j = ⟨b, off + j, none⟩ := Addr.add_lit _ _ _
  rw [hadd]
  obtain ⟨h0, h1, h2⟩ := h (j / 3) hj
  have h3 : j % 3 = 0 ∨ j % 3 = 1 ∨ j % 3 = 2 := by omega
  rcases h3 with e | e | e
  · rw [e] at hu'
    rw [show off + j = off + j / 3 * 3 by omega, h0]
    exact hu'
  · rw [e] at hu'
    rw [show off + j = off + j / 3 * 3 + 1 by omega, h1]
    exact hu'
  · rw [e] at hu'
    rw [show off + j = off + j / 3 * 3 + 2 by omega, h2]
    exact hu'
theorem itemR_below {w w2 : World} {base n : Nat} {v : Value} {xs : List Value} (h : w.ownsRow base 41 3 v n xs) (hb : Below w.heap.size w w2) : w2.ownsRow base 41 3 v n xs := by
  refine h.kept (grown_of_below hb none) ?_
  cases v.ownBlock with
  | none => exact Or.inl rfl
  | some g => exact Or.inr (by simp)
theorem itemR_block {w : World} {base n j : Nat} {v : Value} {xs : List Value} (h : w.ownsRow base 41 3 v n xs) (hv : v.ownBlock = some j) : base ≤ j ∧ ∃ cs, BlockIs w j 41 cs := by
  rcases h.2 with ⟨rfl, _⟩ | ⟨g, cap, cur, rfl, hb, hh, _⟩
  · simp [Value.ownBlock] at hv
  · have : g = j := by simpa [Value.ownBlock] using hv
    subst this
    exact ⟨hb, cur.toList, by unfold BlockIs; rw [hh]⟩
/-- a block of another type stands where a row grows -/
theorem itemR_other {w w1 : World} {base n g : Nat} {t : TypeId} {v : Value} {xs cs : List Value} (h : BlockIs w g t cs) (hr : w.ownsRow base 41 3 v n xs) (hg : w.grownBy w1 v.ownBlock) (ht : t ≠ 41) : BlockIs w1 g t cs := by
  have hlt := h.lt
  unfold BlockIs at h ⊢
  rw [hg.block g hlt ?_]
  · exact h
  · intro e
    obtain ⟨_, cs2, h2⟩ := itemR_block hr e.symm
    unfold BlockIs at h2
    rw [h] at h2
    simp only [Option.some.injEq, Obj.cells.injEq] at h2
    exact ht h2.2.1
theorem itemR_down {w w1 w2 : World} {m base n : Nat} {v : Value} {xs : List Value} (h : Below m w w1) (hr : w1.ownsRow base 41 3 v n xs) (hg : w1.grownBy w2 v.ownBlock) (hb : m ≤ base) (hm : m ≤ w1.heap.size) : Below m w w2 :=
  h.grown hg hm (fun k e => by have := (itemR_block hr e).1; omega)
theorem itemR_nil (w : World) (m : Nat) (hm : m ≤ w.heap.size) : World.ownsRow (w.alloc (.cells #[] 41)) m 41 3 (.slice (some ⟨w.heap.size, 0, none⟩) 0 0) 0 (itemCells []) :=
  row_down (World.ownsRow_made w (size := 3) (e := 41) #[] 0 (Nat.le_refl _) (Nat.zero_le _) rfl) hm
/-- one that is laid by itself -/
theorem itemR_new (w : World) (a : ItemD) : ∀ j u, (itemEnc a)[j]? = some u → (w.alloc (.cells #[.string a.key, .string a.val, .int .i64 a.ver] 41)).cell? ((⟨w.heap.size, 0, none⟩ : Addr).add j) = some u := by
  intro j u hu
  rw [Addr.add_lit, Nat.zero_add]
  exact (show BlockIs _ _ 41 (itemEnc a) from heap_alloc_new w _).cell hu
/-- a list behind a row of the call's own -/
theorem append_items {W : World} {v : Value} {base c : Nat} {L M : List ItemD} {ao : Option Addr} (hn : L.length + M.length ≤ 2097153) (hbase : base ≤ W.heap.size) (hr : W.ownsRow base 41 3 v L.length (itemCells L)) (hM : ItemsAt W ao M) :
    ∃ v' W', (Builtin.append_ #[25, 25] 25 #[v, .slice ao M.length c]).run Tryz.prog W = .ok v' W' ∧ W'.ownsRow base 41 3 v' (L ++ M).length (itemCells (L ++ M)) ∧ W.grownBy W' v.ownBlock := by
  obtain ⟨i0, hi, hz0, hz1, hz2⟩ := info_parts toItem_info
  rw [List.length_append, itemR_append]
  cases ao with
  | none =>
    have hM0 : M = [] := by
      by_cases hne : M = []
      · exact hne
      · obtain ⟨b, off, e, _⟩ := hM hne
        cases e
    subst hM0
    refine ⟨v, W, ?_, by simpa [itemCells] using hr, World.grownBy.refl _ _⟩
    obtain ⟨va, vc, rfl⟩ := row_shape hr
    have hlc : L.length ≤ vc := by
      rcases hr.2 with ⟨hq, hz⟩ | ⟨_, cp, _, hq, _, _, hle, _⟩
      · omega
      · simp only [Value.slice.injEq] at hq
        omega
    cases va <;> simp [Builtin.append_, run_underlying Tryz.underlying25, sizeOf, typeInfo, hi, Builtin.lenOf, Builtin.firstCells, storeCells, hlc]
  | some ad =>
    have hnews : ∀ j u, (itemCells M)[j]? = some u → W.cell? (ad.add j) = some u := by
      by_cases hne : M = []
      · subst hne
        intro j u hu
        simp [itemCells] at hu
      · obtain ⟨b, off, e, hc⟩ := hM hne
        cases e
        exact items_cells hc
    obtain ⟨v', W', h1, h2, h3, _⟩ := run_append_own (P := Tryz.prog) W base 25 25 41 i0 _ 3 40 Tryz.underlying25 hi hz0 hz1 hz2 rfl (by decide) v L.length _ hr ad M.length c (itemCells M) (itemCells_length M) hnews (itemR_all M) (by unfold maxLen; omega) (by omega) hbase
    exact ⟨v', W', h1, h2, h3⟩
theorem wpList_append_items {w : World} {ops : Array Oper} {rest : List Oper} {o : Oper} {a : Act} {Q : Exit → Act → World → Prop} (hgd : o.guard = none) (s x : Operand)
    (ho : o.op = .call { callee := .builtin .append, args := #[s, x], argTypes := #[25, 25] }) (hty : o.type = 25) {v : Value} {base c m N : Nat} {L M : List ItemD} {ao : Option Addr} (hs : a.eval s = v) (hx : a.eval x = .slice ao m c)
    (hm : M.length = m) (hN : (L ++ M).length = N) (hn : N ≤ 2097153) (hbase : base ≤ w.heap.size) (hr : w.ownsRow base 41 3 v L.length (itemCells L)) (hM : ItemsAt w ao M)
    (h : ∀ va vc w1, w1.ownsRow base 41 3 (.slice va N vc) N (itemCells (L ++ M)) → w.grownBy w1 v.ownBlock → wpList Tryz.prog ops Q rest (a.put o.dst (.slice va N vc)) w1) : wpList Tryz.prog ops Q (o :: rest) a w := by
  subst hm hN
  obtain ⟨v', W', hrun, h2, h3⟩ := append_items (c := c) (by rw [← List.length_append]; exact hn) hbase hr hM
  obtain ⟨va, vc, rfl⟩ := row_shape h2
  refine wpList_plain hgd fun K hK => ?_
  unfold Oper.wp
  simp [execOp, ho, hty, resolve, invoke, builtin, hs, hx, hrun, Result.andThen]
  have h4 := h va vc W' h2 h3
  rw [List.length_append] at h4
  exact hK _ _ h4
/-- they lie there -/
theorem itemR_at {w : World} {base : Nat} {va : Option Addr} {vc : Nat} {l : List ItemD} (h : w.ownsRow base 41 3 (.slice va l.length vc) l.length (itemCells l)) : ItemsAt w va l := by
  rcases h.2 with ⟨hv, h0⟩ | ⟨g, cp, cur, hv, _, hh, _, _, _, ht⟩
  · exact fun hne => absurd (List.length_eq_zero_iff.1 h0) hne
  · simp only [Value.slice.injEq] at hv
    obtain ⟨rfl, _, rfl⟩ := hv
    have hcur : cur.toList = itemCells l ++ cur.toList.drop (l.length * 3) := by rw [← ht, List.take_append_drop]
    exact itemsAt_of (r := cur.toList.drop (l.length * 3)) (by unfold BlockIs; rw [hh, ← hcur])
end Go.Proofs.YtohpkegbmhmjeaaGreatDoor

namespace Go.Proofs.YtohpkegbmhmjeaaGreatDoor
open Go.RowKit

/-- a keep's two rows, of the call's own -/
def KRows (w : World) (lo : Nat) (v u : Value) (ls : List SessionD) (li : List ItemD) : Prop :=
  w.ownsRow lo 36 3 v ls.length (sessionCells ls) ∧ w.ownsRow lo 41 3 u li.length (itemCells li)
theorem row_onK {w w2 : World} {base size n : Nat} {t : TypeId} {v : Value} {xs : List Value} (h : w.ownsRow base t size v n xs) (hb : Below w.heap.size w w2) : w2.ownsRow base t size v n xs := by
  refine h.kept (grown_of_below hb none) ?_
  cases v.ownBlock with
  | none => exact Or.inl rfl
  | some g => exact Or.inr (by simp)
theorem KRows.on {w w2 : World} {lo : Nat} {v u : Value} {ls : List SessionD} {li : List ItemD} (h : KRows w lo v u ls li) (hb : Below w.heap.size w w2) : KRows w2 lo v u ls li := ⟨row_onK h.1 hb, row_onK h.2 hb⟩
theorem KRows.down {w : World} {lo lo' : Nat} {v u : Value} {ls : List SessionD} {li : List ItemD} (h : KRows w lo v u ls li) (hl : lo' ≤ lo) : KRows w lo' v u ls li := ⟨row_down h.1 hl, row_down h.2 hl⟩
theorem row_capK {w : World} {base size n : Nat} {t : TypeId} {va : Option Addr} {vc : Nat} {cs : List Value} (h : w.ownsRow base t size (.slice va n vc) n cs) : n ≤ vc ∧ vc ≤ maxLen := by
  rcases h.2 with ⟨hv, h0⟩ | ⟨g, cp, cur, hv, hb, hh, hle, hm, _, ht⟩
  · simp only [Value.slice.injEq] at hv
    obtain ⟨_, rfl, rfl⟩ := hv
    exact ⟨Nat.le_refl _, Nat.zero_le _⟩
  · simp only [Value.slice.injEq] at hv
    obtain ⟨_, _, rfl⟩ := hv
    exact ⟨hle, hm⟩
theorem row_blockK {w : World} {base size n : Nat} {t : TypeId} {va : Option Addr} {vc : Nat} {cs : List Value} (hn : 0 < n) (h : w.ownsRow base t size (.slice va n vc) n cs) : ∃ g r, va = some ⟨g, 0, none⟩ ∧ base ≤ g ∧ BlockIs w g t (cs ++ r) := by
  rcases h.2 with ⟨hv, h0⟩ | ⟨g, cp, cur, hv, hb, hh, hle, _, _, ht⟩
  · omega
  · simp only [Value.slice.injEq] at hv
    obtain ⟨rfl, _, rfl⟩ := hv
    have hcur : cur.toList = cs ++ cur.toList.drop (n * size) := by rw [← ht, List.take_append_drop]
    exact ⟨g, _, rfl, hb, by unfold BlockIs; rw [hh, ← hcur]⟩
/-- a cell of a row is written -/
theorem row_setK {w : World} {base size n g c j : Nat} {t : TypeId} {xs : List Value} (h : w.ownsRow base t size (.slice (some ⟨g, 0, none⟩) n c) n xs) (u : Value) : (w.setCell ⟨g, j, none⟩ u).ownsRow base t size (.slice (some ⟨g, 0, none⟩) n c) n (xs.set j u) := by
  rcases h.2 with ⟨hv, h0⟩ | ⟨g', cp, cur, hv, hb, hh, hle, hm, hs, ht⟩
  · cases hv
  · simp only [Value.slice.injEq, Option.some.injEq, Addr.mk.injEq] at hv
    obtain ⟨⟨rfl, _, _⟩, _, rfl⟩ := hv
    have hk : BlockIs w g t cur.toList := by unfold BlockIs; rw [hh]
    have h2 := hk.set j u
    unfold BlockIs at h2
    refine ⟨by simp [h.1], Or.inr ⟨g, c, _, rfl, hb, h2, hle, hm, by simp [hs], ?_⟩⟩
    rw [List.take_set, ht]
theorem row_extK {x y : World} {base size n : Nat} {t : TypeId} {v : Value} {xs : List Value} (h : x.ownsRow base t size v n xs) (hb : ∀ g cs, BlockIs x g t cs → BlockIs y g t cs) : y.ownsRow base t size v n xs := row_ext h hb
theorem row_farK {w : World} {base size n g j : Nat} {t t' : TypeId} {v : Value} {xs cs : List Value} (h : w.ownsRow base t size v n xs) (hg : BlockIs w g t' cs) (ht : t ≠ t') (u : Value) : (w.setCell ⟨g, j, none⟩ u).ownsRow base t size v n xs :=
  row_ext h fun q xs hq => hq.far (fun e => by subst e; exact ht (block_one hq hg).1) u
theorem KRows.far {w : World} {lo g j : Nat} {v u : Value} {ls : List SessionD} {li : List ItemD} {t : TypeId} {cs : List Value} (h : KRows w lo v u ls li) (hg : BlockIs w g t cs) (h1 : 36 ≠ t) (h2 : 41 ≠ t) (x : Value) : KRows (w.setCell ⟨g, j, none⟩ x) lo v u ls li := ⟨row_farK h.1 hg h1 x, row_farK h.2 hg h2 x⟩
/-- a block of another kind stands where a row grows -/
theorem block_grown {w w1 : World} {base size n g : Nat} {t t' : TypeId} {v : Value} {xs cs : List Value} (h : BlockIs w g t' cs) (hr : w.ownsRow base t size v n xs) (hg : w.grownBy w1 v.ownBlock) (ht : t' ≠ t) : BlockIs w1 g t' cs := by
  have hlt := h.lt
  unfold BlockIs at h ⊢
  rw [hg.block g hlt ?_]
  · exact h
  · intro e
    obtain ⟨cs2, h2, _⟩ := row_block hr e.symm
    unfold BlockIs at h2
    rw [h] at h2
    simp only [Option.some.injEq, Obj.cells.injEq] at h2
    exact ht h2.2.1
theorem row_grownK {w w1 : World} {b1 b2 s1 s2 n m : Nat} {t t' : TypeId} {v u : Value} {xs ys : List Value} (h : w.ownsRow b1 t s1 v n xs) (hr : w.ownsRow b2 t' s2 u m ys) (hg : w.grownBy w1 u.ownBlock) (ht : t ≠ t') : w1.ownsRow b1 t s1 v n xs :=
  row_ext h fun _ _ hb => block_grown hb hr hg ht
end Go.Proofs.YtohpkegbmhmjeaaGreatDoor

namespace Go.Proofs.YtohpkegbmhmjeaaGreatDoor
open Go.RowKit

/-- the first one of a Key, or none -/
def itemOf (l : List ItemD) (key : ByteArray) : ItemD × Bool :=
  match l.find? (fun e => e.key.toList == key.toList) with
  | some e => (e, true)
  | none => (⟨⟨#[]⟩, ⟨#[]⟩, 0⟩, false)
theorem itemOf_none (l : List ItemD) (key : ByteArray) (h : ∀ j (hj : j < l.length), (l[j].key.toList == key.toList) = false) : itemOf l key = (⟨⟨#[]⟩, ⟨#[]⟩, 0⟩, false) := by
  have : l.find? (fun e => e.key.toList == key.toList) = none := by
    rw [List.find?_eq_none]
    intro x hx
    obtain ⟨j, hj, rfl⟩ := List.getElem_of_mem hx
    rw [h j hj]
    exact Bool.false_ne_true
  rw [itemOf, this]
theorem itemOf_here (l : List ItemD) (key : ByteArray) (k : Nat) (hk : k < l.length) (h : ∀ j (hj : j < k), (l[j].key.toList == key.toList) = false) (hh : (l[k].key.toList == key.toList) = true) : itemOf l key = (l[k], true) := by
  have : l.find? (fun e => e.key.toList == key.toList) = some l[k] := by
    rw [List.find?_eq_some_iff_getElem]
    exact ⟨hh, k, hk, rfl, fun j hj => by rw [h j hj]; rfl⟩
  rw [itemOf, this]
end Go.Proofs.YtohpkegbmhmjeaaGreatDoor

namespace Go.Proofs.YtohpkegbmhmjeaaGreatDoor
open Go.RowKit

/-- a number within bounds -/
def within (x a b : Int) : Bool := decide (a ≤ x) && decide (x ≤ b)
theorem within_yes {x a b : Int} (h1 : a ≤ x) (h2 : x ≤ b) : within x a b = true := by simp [within, h1, h2]
theorem within_no {x a b : Int} (h : x < a ∨ b < x) : within x a b = false := by
  simp only [within, Bool.and_eq_false_imp, decide_eq_true_eq, decide_eq_false_iff_not]
  omega
theorem within_iff {x a b : Int} : within x a b = true ↔ a ≤ x ∧ x ≤ b := by simp [within]
end Go.Proofs.YtohpkegbmhmjeaaGreatDoor

namespace Go.Proofs.YtohpkegbmhmjeaaGreatDoor
open Go.RowKit

structure CommandD where
  op : Int
  token : Int
  seq : Int
  key : ByteArray
  val : ByteArray
  ver : Int
/-- numbers that are numbers, texts that are texts -/
def CommandD.Fits (e : CommandD) : Prop := (-9223372036854775808 ≤ e.op ∧ e.op ≤ 9223372036854775807) ∧ (-9223372036854775808 ≤ e.token ∧ e.token ≤ 9223372036854775807) ∧ (-9223372036854775808 ≤ e.seq ∧ e.seq ≤ 9223372036854775807) ∧ e.key.size ≤ maxLen ∧ e.val.size ≤ maxLen ∧ (-9223372036854775808 ≤ e.ver ∧ e.ver ≤ 9223372036854775807)
def commandEnc (e : CommandD) : List Value := [.int .i64 e.op, .int .i64 e.token, .int .i64 e.seq, .string e.key, .string e.val, .int .i64 e.ver]
/-- the cells of a row -/
def commandCells (l : List CommandD) : List Value := l.flatMap commandEnc
theorem commandCells_length (l : List CommandD) : (commandCells l).length = l.length * 6 := row_length commandEnc 6 (fun _ => rfl) l
theorem commandCells_take (l : List CommandD) (k : Nat) (h : k < l.length) : commandCells (l.take (k + 1)) = commandCells (l.take k) ++ commandEnc l[k] := by
  rw [List.take_succ_eq_append_getElem h, commandCells, commandCells, List.flatMap_append]
  simp
/-- how many letters -/
def commandOne (e : CommandD) : Int := (e.key.size : Int) + (e.val.size : Int)
theorem commandOne_nonneg (e : CommandD) : 0 ≤ commandOne e := by unfold commandOne; omega
def commandBulk : List CommandD → Int
  | [] => 0
  | f :: l => commandOne f + commandBulk l
theorem commandBulk_nonneg (l : List CommandD) : 0 ≤ commandBulk l := by
  induction l with
  | nil => exact Int.le_refl 0
  | cons f l ih => have := commandOne_nonneg f; simp only [commandBulk]; omega
theorem commandBulk_take (l : List CommandD) (k : Nat) (h : k < l.length) : commandBulk (l.take (k + 1)) = commandBulk (l.take k) + commandOne l[k] := by
  induction l generalizing k with
  | nil => simp at h
  | cons f l ih =>
    cases k with
    | zero => simp [commandBulk]
    | succ k =>
      have := ih k (by simpa using h)
      simp only [List.take_succ_cons, commandBulk, List.getElem_cons_succ] at this ⊢
      omega
theorem commandBulk_le (l : List CommandD) (k : Nat) : commandBulk (l.take k) ≤ commandBulk l := by
  induction l generalizing k with
  | nil => simp [commandBulk]
  | cons f l ih =>
    cases k with
    | zero => have := commandBulk_nonneg (f :: l); simpa [commandBulk] using this
    | succ k => have := ih k; simp only [List.take_succ_cons, commandBulk]; omega
theorem command_le_bulk {l : List CommandD} {f : CommandD} (h : f ∈ l) : commandOne f ≤ commandBulk l := by
  induction l with
  | nil => cases h
  | cons g l ih =>
    simp only [commandBulk]
    have := commandBulk_nonneg l
    have := commandOne_nonneg g
    rcases List.mem_cons.1 h with e | e
    · subst e; omega
    · have := ih e; omega
/-- few and short -/
def CommandsSmall (l : List CommandD) : Prop := l.length ≤ 1048576 ∧ ∀ f ∈ l, commandOne f ≤ 1048576
theorem commandsSmall {l : List CommandD} (h : 0 ≤ (1048576 : Int) - l.length - commandBulk l) : CommandsSmall l := by
  have := commandBulk_nonneg l
  exact ⟨by omega, fun f hf => by have := command_le_bulk hf; omega⟩
/-- they lie at an address, one behind the other -/
def CommandsAt (w : World) (ao : Option Addr) (l : List CommandD) : Prop :=
  l ≠ [] → ∃ b off, ao = some ⟨b, off, none⟩ ∧ ∀ j (hj : j < l.length), w.cell? ⟨b, off + j * 6, none⟩ = some (.int .i64 l[j].op) ∧ w.cell? ⟨b, off + j * 6 + 1, none⟩ = some (.int .i64 l[j].token) ∧ w.cell? ⟨b, off + j * 6 + 2, none⟩ = some (.int .i64 l[j].seq) ∧ w.cell? ⟨b, off + j * 6 + 3, none⟩ = some (.string l[j].key) ∧ w.cell? ⟨b, off + j * 6 + 4, none⟩ = some (.string l[j].val) ∧ w.cell? ⟨b, off + j * 6 + 5, none⟩ = some (.int .i64 l[j].ver)
theorem commandsAt_of {w : World} {g : Nat} {t : TypeId} {l : List CommandD} {r : List Value} (h : BlockIs w g t (commandCells l ++ r)) : CommandsAt w (some ⟨g, 0, none⟩) l := by
  intro _
  refine ⟨g, 0, rfl, fun j hj => ?_⟩
  rw [Nat.zero_add]
  exact ⟨h.cell (row_at commandEnc 6 (fun _ => rfl) l r j 0 hj (by omega)), h.cell (row_at commandEnc 6 (fun _ => rfl) l r j 1 hj (by omega)), h.cell (row_at commandEnc 6 (fun _ => rfl) l r j 2 hj (by omega)), h.cell (row_at commandEnc 6 (fun _ => rfl) l r j 3 hj (by omega)), h.cell (row_at commandEnc 6 (fun _ => rfl) l r j 4 hj (by omega)), h.cell (row_at commandEnc 6 (fun _ => rfl) l r j 5 hj (by omega))⟩
def CommandsFit (l : List CommandD) : Prop := ∀ j (hj : j < l.length), l[j].Fits
theorem CommandsAt.on {w w' : World} {ao : Option Addr} {l : List CommandD} (h : CommandsAt w ao l) (hb : Below w.heap.size w w') : CommandsAt w' ao l := by
  intro h0
  obtain ⟨b, off, e1, e2⟩ := h h0
  refine ⟨b, off, e1, fun j hj => ?_⟩
  obtain ⟨x0, x1, x2, x3, x4, x5⟩ := e2 j hj
  exact ⟨(hb.cell (p := ⟨b, off + j * 6, none⟩) (World.block_lt_of_cell? w _ x0)).trans x0, (hb.cell (p := ⟨b, off + j * 6 + 1, none⟩) (World.block_lt_of_cell? w _ x1)).trans x1, (hb.cell (p := ⟨b, off + j * 6 + 2, none⟩) (World.block_lt_of_cell? w _ x2)).trans x2, (hb.cell (p := ⟨b, off + j * 6 + 3, none⟩) (World.block_lt_of_cell? w _ x3)).trans x3, (hb.cell (p := ⟨b, off + j * 6 + 4, none⟩) (World.block_lt_of_cell? w _ x4)).trans x4, (hb.cell (p := ⟨b, off + j * 6 + 5, none⟩) (World.block_lt_of_cell? w _ x5)).trans x5⟩
/-- cells of a list, written -/
theorem command_sets (p : List Value) (a0 a1 a2 a3 a4 a5 o0 o1 o2 o3 o4 o5 : Value) (r : List Value) : ((((((p ++ o0 :: o1 :: o2 :: o3 :: o4 :: o5 :: r).set (p.length) a0).set (p.length + 1) a1).set (p.length + 2) a2).set (p.length + 3) a3).set (p.length + 4) a4).set (p.length + 5) a5 = p ++ a0 :: a1 :: a2 :: a3 :: a4 :: a5 :: r := by
  rw [List.set_append_right _ _ (Nat.le_refl _), List.set_append_right _ _ (by omega), List.set_append_right _ _ (by omega), List.set_append_right _ _ (by omega), List.set_append_right _ _ (by omega), List.set_append_right _ _ (by omega)]
  simp
theorem command_set_other {cs : List Value} {i j : Nat} {v u : Value} (h : cs[j]? = some u) (hij : i ≠ j) : (cs.set i v)[j]? = some u := by
  rw [List.getElem?_set_ne hij]; exact h
end Go.Proofs.YtohpkegbmhmjeaaGreatDoor

namespace Go.Proofs.YtohpkegbmhmjeaaGreatDoor
open Go.RowKit

def commandOk (d : CommandD) : Bool :=
  within d.token 0 1000000 && (within d.seq 0 1000000 && (within d.op 1 5 &&
    (if d.op = 1 then decide (d.token = 0) && (decide (d.seq = 0) && (decide (d.key.size = 0) && (decide (d.val.size = 0) && decide (d.ver = 0))))
      else within (d.key.size : Int) 1 8 && (decide ((d.val.size : Int) ≤ 20) &&
        (if d.op = 2 then decide (d.ver = 0) else if d.op = 5 then within d.ver 1 1000000000 else decide (d.val.size = 0) && decide (d.ver = 0))))))

theorem empty_text (s : ByteArray) : (s.toList == []) = decide (s.size = 0) := by
  rw [ByteArray.toList_eq]
  by_cases h : s.size = 0
  · have : s.data.toList = [] := List.eq_nil_of_length_eq_zero (by simpa using h)
    simp [this, h]
  · have : (s.data.toList == []) = false := by
      rw [beq_eq_false_iff_ne]
      intro e
      exact h (by simpa using congrArg List.length e)
    rw [this]
    simp [h]
end Go.Proofs.YtohpkegbmhmjeaaGreatDoor

namespace Go.Proofs.YtohpkegbmhmjeaaGreatDoor
open Go.RowKit

/-- one of a row is fine by itself, and behind the one ahead of it -/
def stepOk {α : Type} (fine : α → Bool) (lt : α → α → Bool) (l : List α) : Nat → Bool
  | 0 => match l[0]? with
    | some x => fine x
    | none => true
  | j + 1 => match l[j + 1]?, l[j]? with
    | some x, some y => fine x && lt y x
    | _, _ => true
def rowOk {α : Type} (fine : α → Bool) (lt : α → α → Bool) (l : List α) : Bool := (List.range l.length).all (stepOk fine lt l)
theorem stepOk_zero {α : Type} {fine : α → Bool} {lt : α → α → Bool} {l : List α} (h : 0 < l.length) : stepOk fine lt l 0 = fine l[0] := by
  simp [stepOk, h]
theorem stepOk_succ {α : Type} {fine : α → Bool} {lt : α → α → Bool} {l : List α} {j : Nat} (h : j + 1 < l.length) : stepOk fine lt l (j + 1) = (fine l[j + 1] && lt l[j] l[j + 1]) := by
  simp [stepOk, h, Nat.lt_of_succ_lt h]
theorem rowOk_no {α : Type} {fine : α → Bool} {lt : α → α → Bool} {l : List α} {k : Nat} (hk : k < l.length) (h : stepOk fine lt l k = false) : rowOk fine lt l = false := by
  rw [← Bool.not_eq_true]
  intro e
  have := List.all_eq_true.1 e k (List.mem_range.2 hk)
  rw [h] at this
  cases this
theorem rowOk_yes {α : Type} {fine : α → Bool} {lt : α → α → Bool} {l : List α} (h : ∀ j, j < l.length → stepOk fine lt l j = true) : rowOk fine lt l = true :=
  List.all_eq_true.2 fun j hj => h j (List.mem_range.1 hj)
def itemFine (e : ItemD) : Bool := within (e.key.size : Int) 1 8 && (decide ((e.val.size : Int) ≤ 20) && within e.ver 1 1000000000)
def keyLt (a b : ItemD) : Bool := Op.bytesLess a.key.toList b.key.toList
def sessionFine (e : SessionD) : Bool := within e.token 1 1000000 && (within e.last 0 1000000 && (decide ((e.reply.size : Int) ≤ 40) && (!decide (e.last = 0) || decide (e.reply.size = 0))))
def tokenLt (a b : SessionD) : Bool := decide (a.token < b.token)
def sessionsRight (l : List SessionD) : Bool := rowOk sessionFine tokenLt l && decide ((l.length : Int) ≤ 3)
def itemsRight (l : List ItemD) : Bool := rowOk itemFine keyLt l && decide ((l.length : Int) ≤ 8)
def keepOk (ls : List SessionD) (li : List ItemD) : Bool := sessionsRight ls && itemsRight li
theorem blank_text (s : ByteArray) : (s.toList == []) = decide (s.size = 0) := by
  rw [ByteArray.toList_eq]
  by_cases h : s.size = 0
  · have : s.data.toList = [] := List.eq_nil_of_length_eq_zero (by simpa using h)
    simp [this, h]
  · have : (s.data.toList == []) = false := by
      rw [beq_eq_false_iff_ne]
      intro e
      exact h (by simpa using congrArg List.length e)
    rw [this]
    simp [h]
end Go.Proofs.YtohpkegbmhmjeaaGreatDoor

namespace Go.Proofs.YtohpkegbmhmjeaaGreatDoor
open Go.RowKit

/-- the figure of x, as a byte -/
def fig (x : Int) : Int := if x < 10 then 48 + x else 87 + x

theorem fig_bd {x : Int} (h0 : 0 ≤ x) (h1 : x ≤ 15) : 48 ≤ fig x ∧ fig x ≤ 102 := by unfold fig; split <;> omega

def hexOf : List UInt8 → List UInt8
  | [] => []
  | b :: r => UInt8.ofNat (fig (b.toNat / 16)).toNat :: UInt8.ofNat (fig (b.toNat % 16)).toNat :: hexOf r

theorem hexOf_append (l r : List UInt8) : hexOf (l ++ r) = hexOf l ++ hexOf r := by
  induction l with
  | nil => rfl
  | cons b l ih => simp [hexOf, ih]

theorem hexOf_length (l : List UInt8) : (hexOf l).length = 2 * l.length := by
  induction l with
  | nil => rfl
  | cons b l ih => simp [hexOf, ih]; omega

theorem take_snoc (s : ByteArray) (k : Nat) (h : k < s.size) : s.data.toList.take (k + 1) = s.data.toList.take k ++ [s[k]] := by
  rw [List.take_succ_eq_append_getElem (by simpa using h)]; rfl

theorem take_len (s : ByteArray) (k : Nat) (h : k ≤ s.size) : (s.data.toList.take k).length = k := by
  have : s.data.toList.length = s.size := by simp
  rw [List.length_take]; omega

theorem two_cs (b : UInt8) : [Value.int .u8 (fig ((b.toNat : Int) / 16)), .int .u8 (fig ((b.toNat : Int) % 16))] = cs (hexOf [b]) := by
  have hb := b.toNat_lt
  have h1 := fig_bd (x := (b.toNat : Int) / 16) (by omega) (by omega)
  have h2 := fig_bd (x := (b.toNat : Int) % 16) (by omega) (by omega)
  simp only [hexOf, cs, List.map_cons, List.map_nil, UInt8.toNat_ofNat', List.cons.injEq, and_true, Value.int.injEq, true_and]
  omega

theorem hex_step {s : ByteArray} {k : Nat} {w wr w1 : World} {v : Value} {g cap : Nat} {B : Obj} (hk : k < s.size) (hown : wr.ownsRow w.heap.size 5 1 v (2 * k) (cs (hexOf (s.data.toList.take k))))
    (hown' : w1.ownsRow w.heap.size 5 1 (.slice (some ⟨g, 0, none⟩) (2 * k + 2) cap) (2 * k + 2) (cs (hexOf (s.data.toList.take k)) ++ [.int .u8 (fig ((s[k].toNat : Int) / 16)), .int .u8 (fig ((s[k].toNat : Int) % 16))]))
    (hgrow : (wr.alloc B).drew.grownBy w1 v.ownBlock) (hb : Below w.heap.size w wr) :
    w1.ownsRow w.heap.size 5 1 (.slice (some ⟨g, 0, none⟩) (2 * k + 2) cap) (2 * (k + 1)) (cs (hexOf (s.data.toList.take (k + 1)))) ∧ Below w.heap.size w w1 := by
  refine ⟨?_, ((hb.alloc hb.size _).drew).grown hgrow (by have := hb.size; simp; omega) (fun j hj => (hown.lt j hj).1)⟩
  rw [two_cs, ← cs_append, ← hexOf_append, ← take_snoc s k hk] at hown'
  exact hown'

theorem i64_id {x : Int} (h0 : -9223372036854775808 ≤ x) (h1 : x ≤ 9223372036854775807) : IntKind.i64.wrap x = x := by
  simp [IntKind.wrap, IntKind.signed, IntKind.bits]; omega
theorem u8_id {x : Int} (h0 : 0 ≤ x) (h1 : x ≤ 255) : IntKind.u8.wrap x = x := by
  simp [IntKind.wrap, IntKind.signed, IntKind.bits]; omega

theorem wrap_quo (b : UInt8) : IntKind.i64.wrap ((IntKind.i64.wrap (b.toNat : Int)).tdiv 16) = (b.toNat : Int) / 16 := by
  have hb := b.toNat_lt
  have e : IntKind.i64.wrap (b.toNat : Int) = (b.toNat : Int) := by simp [IntKind.wrap, IntKind.signed, IntKind.bits]; omega
  rw [e, Int.tdiv_eq_ediv_of_nonneg (by omega)]
  simp [IntKind.wrap, IntKind.signed, IntKind.bits]; omega
theorem wrap_rem (b : UInt8) : (IntKind.i64.wrap (b.toNat : Int)).tmod 16 = (b.toNat : Int) % 16 := by
  have hb := b.toNat_lt
  have e : IntKind.i64.wrap (b.toNat : Int) = (b.toNat : Int) := by simp [IntKind.wrap, IntKind.signed, IntKind.bits]; omega
  rw [e, Int.tmod_eq_emod_of_nonneg (by omega)]
end Go.Proofs.YtohpkegbmhmjeaaGreatDoor

namespace Go.Proofs.YtohpkegbmhmjeaaGreatDoor
open Go.RowKit

/-- what the byte c counts as a figure; -1 where it is none -/
def lv (c : Int) : Int := if 48 ≤ c ∧ c ≤ 57 then c - 48 else if 97 ≤ c ∧ c ≤ 102 then c - 87 else -1

theorem lv_bd (c : Int) : -1 ≤ lv c ∧ lv c ≤ 15 := by unfold lv; split <;> (try split) <;> omega

theorem fig_lv {c j : Int} (h0 : 0 ≤ j) (h1 : j ≤ 15) : c = fig j ↔ lv c = j := by
  unfold lv fig
  split <;> split <;> (try split) <;> omega

/-- the values of a text's figures -/
def lvs (l : List UInt8) : List Int := l.map fun c => lv (c.toNat : Int)

def Figs (b : Nat) (l : List UInt8) : Prop := ∀ c ∈ l, 0 ≤ lv (c.toNat : Int) ∧ lv (c.toNat : Int) < b

theorem Figs.snoc {b : Nat} {l : List UInt8} {c : UInt8} (h : Figs b l) (hc : 0 ≤ lv (c.toNat : Int) ∧ lv (c.toNat : Int) < b) : Figs b (l ++ [c]) := by
  intro x hx
  rcases List.mem_append.1 hx with hx | hx
  · exact h x hx
  · simp at hx; subst hx; exact hc

/-- ints as the cells of a row -/
def ns (l : List Int) : List Value := l.map (Value.int .i64)

theorem mem_at (s : ByteArray) (k : Nat) (h : k < s.size) : s[k] ∈ s.data.toList := by
  have h1 : k < s.data.toList.length := by simpa using h
  have h2 := List.getElem_mem h1
  have h3 : s.data.toList[k] = s[k] := by rw [Array.getElem_toList]; rfl
  rw [h3] at h2
  exact h2

theorem lvs_append (l r : List UInt8) : lvs (l ++ r) = lvs l ++ lvs r := by simp [lvs]
theorem lvs_length (l : List UInt8) : (lvs l).length = l.length := by simp [lvs]
theorem ns_append (l r : List Int) : ns (l ++ r) = ns l ++ ns r := by simp [ns]

theorem fv_step {s : ByteArray} {k : Nat} {w wr w1 : World} {v v' : Value} {B : Obj} {j : Int} (hk : k < s.size) (hj : lv (s[k].toNat : Int) = j) (hown : wr.ownsRow w.heap.size 3 1 v k (ns (lvs (s.data.toList.take k))))
    (hown' : w1.ownsRow w.heap.size 3 1 v' (k + 1) (ns (lvs (s.data.toList.take k)) ++ [.int .i64 j])) (hgrow : (wr.alloc B).grownBy w1 v.ownBlock) (hb : Below w.heap.size w wr) :
    w1.ownsRow w.heap.size 3 1 v' (k + 1) (ns (lvs (s.data.toList.take (k + 1)))) ∧ Below w.heap.size w w1 := by
  refine ⟨?_, (hb.alloc hb.size _).grown hgrow (by have := hb.size; simp; omega) (fun j hj => (hown.lt j hj).1)⟩
  have e : [Value.int .i64 j] = ns (lvs [s[k]]) := by simp [ns, lvs, hj]
  rw [e, ← ns_append, ← lvs_append, ← take_snoc s k hk] at hown'
  exact hown'

/-- where the values lie -/
theorem values_lie {w w1 : World} {s : ByteArray} {v : Value} (h : w1.ownsRow w.heap.size 3 1 v s.size (ns (lvs s.data.toList))) :
    ∃ ao cap, v = .slice ao s.size cap ∧ (0 < s.size → ∃ g, ao = some ⟨g, 0, none⟩ ∧ g < w1.heap.size ∧ s.size ≤ cap ∧ ∀ j (hj : j < s.size), w1.cell? ⟨g, j, none⟩ = some (.int .i64 (lv (s[j].toNat : Int)))) := by
  have h' := h
  obtain ⟨h1, h2⟩ := h
  rcases h2 with ⟨hv, hn⟩ | ⟨g, cap, cur, hv, hgb, hh, hle, hmx, hsz, hx⟩
  · exact ⟨none, 0, by rw [hv, hn], fun h0 => by omega⟩
  · refine ⟨_, cap, hv, fun _ => ⟨g, rfl, (h'.lt g (by rw [hv]; rfl)).2, hle, fun j hj => ?_⟩⟩
    have hu : (ns (lvs s.data.toList))[j]? = some (.int .i64 (lv (s[j].toNat : Int))) := by
      have hj' : j < s.data.toList.length := by simpa using hj
      have e : s.data.toList[j] = s[j] := by rw [Array.getElem_toList]; rfl
      simp only [ns, lvs, List.getElem?_map, List.getElem?_eq_getElem hj', Option.map_some, e]
    have := h'.cells (g := g) (by rw [hv]; rfl) j _ hu
    have ea : (⟨g, 0, none⟩ : Addr).add j = ⟨g, j, none⟩ := by
      simp only [Addr.add]
      split
      · simp_all
      · simp
    rw [ea] at this
    exact this
end Go.Proofs.YtohpkegbmhmjeaaGreatDoor

namespace Go.Proofs.YtohpkegbmhmjeaaGreatDoor
open Go.RowKit

/-- the decimal figures of n, none for 0 (with so many steps at the most) -/
def ddF : Nat → Nat → List UInt8
  | 0, _ => []
  | f + 1, n => if n = 0 then [] else ddF f (n / 10) ++ [UInt8.ofNat (48 + n % 10)]
/-- the decimal figures of n, none for 0 -/
def dd (n : Nat) : List UInt8 := ddF n n

theorem ddF_eq : ∀ (f g n : Nat), n ≤ f → n ≤ g → ddF f n = ddF g n
  | 0, 0, _, _, _ => rfl
  | 0, g + 1, n, h, _ => by
    obtain rfl : n = 0 := by omega
    rw [ddF, ddF, if_pos rfl]
  | f + 1, 0, n, _, h => by
    obtain rfl : n = 0 := by omega
    rw [ddF, ddF, if_pos rfl]
  | f + 1, g + 1, n, h1, h2 => by
    rw [ddF, ddF]
    by_cases h : n = 0
    · rw [if_pos h, if_pos h]
    · rw [if_neg h, if_neg h, ddF_eq f g (n / 10) (by omega) (by omega)]
theorem dd_zero : dd 0 = [] := rfl
theorem dd_pos {n : Nat} (h : 0 < n) : dd n = dd (n / 10) ++ [UInt8.ofNat (48 + n % 10)] := by
  rw [dd, ddF_eq n (n + 1) n (Nat.le_refl _) (by omega), ddF, if_neg (by omega), dd, ddF_eq n (n / 10) (n / 10) (by omega) (Nat.le_refl _)]

theorem dd_len (k : Nat) : ∀ n, n < 10 ^ k → (dd n).length ≤ k := by
  induction k with
  | zero => intro n h; have : n = 0 := by simp at h; omega
            subst this; rw [dd_zero]; simp
  | succ k ih =>
    intro n h
    by_cases h0 : n = 0
    · subst h0; rw [dd_zero]; simp
    · rw [dd_pos (by omega), List.length_append]
      have := ih (n / 10) (by rw [Nat.pow_succ] at h; omega)
      simp only [List.length_cons, List.length_nil]
      omega

/-- n in decimal -/
def dec (n : Int) : List UInt8 := if n = 0 then [48] else if n < 0 then 45 :: dd n.natAbs else dd n.natAbs

/-- what figures make -/
def num (l : List UInt8) : Nat := l.foldl (fun n c => 10 * n + (c.toNat - 48)) 0

theorem num_nil : num [] = 0 := rfl
theorem num_snoc (l : List UInt8) (c : UInt8) : num (l ++ [c]) = 10 * num l + (c.toNat - 48) := by simp [num, List.foldl_append]

def Digits (l : List UInt8) : Prop := ∀ c ∈ l, 48 ≤ c.toNat ∧ c.toNat ≤ 57

theorem Digits.init {l : List UInt8} {c : UInt8} (h : Digits (l ++ [c])) : Digits l ∧ 48 ≤ c.toNat ∧ c.toNat ≤ 57 :=
  ⟨fun x hx => h x (List.mem_append.2 (Or.inl hx)), h c (by simp)⟩
theorem Digits.snoc {l : List UInt8} {c : UInt8} (h : Digits l) (hc : 48 ≤ c.toNat ∧ c.toNat ≤ 57) : Digits (l ++ [c]) := by
  intro x hx
  rcases List.mem_append.1 hx with hx | hx
  · exact h x hx
  · simp at hx; subst hx; exact hc

theorem snoc_cases (l : List UInt8) : l = [] ∨ ∃ r c, l = r ++ [c] := by
  rcases h : l.reverse with _ | ⟨c, r⟩
  · exact Or.inl (by simpa using h)
  · exact Or.inr ⟨r.reverse, c, by have := congrArg List.reverse h; simpa using this⟩

theorem num_lt : ∀ (k : Nat) (l : List UInt8), l.length = k → Digits l → num l < 10 ^ k
  | 0, l, h, _ => by
    have : l = [] := List.eq_nil_of_length_eq_zero h
    subst this; simp [num]
  | k + 1, l, h, hd => by
    rcases snoc_cases l with rfl | ⟨r, c, rfl⟩
    · simp at h
    · have h1 := hd.init
      have := num_lt k r (by simpa using h) h1.1
      rw [num_snoc, Nat.pow_succ]
      omega

theorem num_lead (c : UInt8) (hc : c ≠ 48) (hc1 : 48 ≤ c.toNat ∧ c.toNat ≤ 57) : ∀ (k : Nat) (r : List UInt8), r.length = k → Digits r → 0 < num (c :: r) ∧ dd (num (c :: r)) = c :: r
  | 0, r, h, _ => by
    have : r = [] := List.eq_nil_of_length_eq_zero h
    subst this
    have h48 : c.toNat ≠ 48 := fun e => hc (UInt8.toNat_inj.1 (by simpa using e))
    have e : num [c] = c.toNat - 48 := by simp [num]
    rw [e]
    refine ⟨by omega, ?_⟩
    rw [dd_pos (by omega), show (c.toNat - 48) / 10 = 0 by omega, dd_zero, show 48 + (c.toNat - 48) % 10 = c.toNat by omega]
    simp
  | k + 1, r, h, hd => by
    rcases snoc_cases r with rfl | ⟨r', x, rfl⟩
    · simp at h
    · have h1 := hd.init
      obtain ⟨i1, i2⟩ := num_lead c hc hc1 k r' (by simpa using h) h1.1
      have e : num (c :: (r' ++ [x])) = 10 * num (c :: r') + (x.toNat - 48) := num_snoc (c :: r') x
      rw [e]
      refine ⟨by omega, ?_⟩
      rw [dd_pos (by omega), show (10 * num (c :: r') + (x.toNat - 48)) / 10 = num (c :: r') by omega, show 48 + (10 * num (c :: r') + (x.toNat - 48)) % 10 = x.toNat by omega, i2]
      simp

/-- figures of a number do not begin with a nought -/
theorem dd_head : ∀ (n : Nat), 0 < n → ∃ c r, dd n = c :: r ∧ c ≠ 48 := by
  intro n
  induction n using Nat.strongRecOn with
  | _ n ih =>
    intro h
    rw [dd_pos h]
    by_cases h1 : n / 10 = 0
    · rw [h1, dd_zero]
      refine ⟨_, [], rfl, ?_⟩
      intro e
      have := congrArg UInt8.toNat e
      simp only [UInt8.toNat_ofNat', UInt8.toNat_ofNat] at this
      omega
    · obtain ⟨c, r, e, hc⟩ := ih (n / 10) (by omega) (by omega)
      exact ⟨c, r ++ [UInt8.ofNat (48 + n % 10)], by rw [e]; rfl, hc⟩

/-- a text of figures is how its number is written, just when it has some and no needless nought ahead -/
theorem dec_num (l : List UInt8) (hd : Digits l) : dec (num l : Int) = l ↔ l ≠ [] ∧ ¬ (l.head? = some 48 ∧ 1 < l.length) := by
  match l, hd with
  | [], _ => simp [num, dec]
  | c :: r, hd =>
    have hc := hd c (by simp)
    have hr : Digits r := fun x hx => hd x (by simp [hx])
    by_cases h48 : c = 48
    · subst h48
      match r, hr with
      | [], _ => simp [num, dec]
      | x :: r', hr =>
        simp only [List.head?_cons, List.length_cons, ne_eq, reduceCtorEq, not_false_eq_true, true_and]
        constructor
        · intro e
          unfold dec at e
          split at e
          · simp at e
          · rename_i hz
            rw [if_neg (by omega), Int.natAbs_natCast] at e
            obtain ⟨y, q, e1, e2⟩ := dd_head (num (48 :: x :: r')) (by omega)
            rw [e1] at e
            simp only [List.cons.injEq] at e
            exact absurd e.1 e2
        · intro h
          exact absurd (by omega) h
    · obtain ⟨i1, i2⟩ := num_lead c h48 hc r.length r rfl hr
      unfold dec
      rw [if_neg (by omega), if_neg (by omega), Int.natAbs_natCast, i2]
      simp [h48]

theorem digits_figs (l : List UInt8) : Digits l ↔ Figs 10 l := by
  constructor
  · intro h c hc
    have := h c hc
    unfold lv
    rw [if_pos (by omega)]
    omega
  · intro h c hc
    have := h c hc
    unfold lv at this
    split at this
    · omega
    · split at this <;> omega
theorem lv_digit {c : UInt8} (h : 48 ≤ c.toNat ∧ c.toNat ≤ 57) : lv (c.toNat : Int) = ((c.toNat - 48 : Nat) : Int) := by
  unfold lv; rw [if_pos (by omega)]; omega

/-- a text that ReadDecimal takes -/
def DecOk (l : List UInt8) : Prop := Digits l ∧ num l ≤ 1000000000 ∧ l ≠ [] ∧ ¬ (l.head? = some 48 ∧ 1 < l.length)

theorem digits_at {s : ByteArray} {k : Nat} (hk : k < s.size) (h : ¬ (48 ≤ s[k].toNat ∧ s[k].toNat ≤ 57)) : ¬ DecOk s.data.toList := fun hd => h (hd.1 s[k] (mem_at s k hk))

theorem num_step {s : ByteArray} {k : Nat} (hk : k < s.size) (h : 48 ≤ (s[k].toNat : Int)) : ((num (s.data.toList.take (k + 1)) : Nat) : Int) = 10 * (num (s.data.toList.take k) : Int) + (s[k].toNat : Int) - 48 := by
  rw [take_snoc s k hk, num_snoc]
  omega

theorem ret_num {a b : Nat} (h : a = b) : Ending.returned (.tuple #[.int .i64 a, .bool true]) = .returned (.tuple #[.int .i64 b, .bool true]) := by rw [h]

theorem same_dec {s : ByteArray} {l : List UInt8} : (!l == s.toList) = false ↔ l = s.data.toList := by
  rw [ByteArray.toList_eq]; simp
end Go.Proofs.YtohpkegbmhmjeaaGreatDoor

namespace Go.Proofs.YtohpkegbmhmjeaaGreatDoor
open Go.RowKit Go.Sort

/-- an order in which one of two that differ is ahead -/
structure Ordered {α : Type} (lt : α → α → Bool) : Prop where
  irrefl : ∀ a, lt a a = false
  trans : ∀ a b c, lt a b = true → lt b c = true → lt a c = true

/-- all ahead of it, itself, all behind it -/
def putIn {α : Type} (lt : α → α → Bool) (l : List α) (x : α) : List α := l.filter (fun a => lt a x) ++ x :: l.filter (fun a => lt x a)
def AscBy {α : Type} (lt : α → α → Bool) (l : List α) : Prop := l.Pairwise (fun a b => lt a b = true)

theorem rowOk_asc {α : Type} {fine : α → Bool} {lt : α → α → Bool} (ho : Ordered lt) {l : List α} (h : rowOk fine lt l = true) : AscBy lt l ∧ ∀ x ∈ l, fine x = true := by
  have key : ∀ j, j < l.length → stepOk fine lt l j = true := fun j hj => List.all_eq_true.1 h j (List.mem_range.2 hj)
  have up : ∀ d j (hj : j + d + 1 < l.length), lt l[j] l[j + d + 1] = true := by
    intro d
    induction d with
    | zero =>
      intro j hj
      have := key (j + 1) (by omega)
      rw [stepOk_succ (by omega)] at this
      exact (Bool.and_eq_true _ _ ▸ this).2
    | succ d ih =>
      intro j hj
      have h1 := ih j (by omega)
      have h2 := key (j + d + 1 + 1) (by omega)
      rw [stepOk_succ (by omega)] at h2
      exact ho.trans _ _ _ h1 (Bool.and_eq_true _ _ ▸ h2).2
  refine ⟨List.pairwise_iff_getElem.2 fun i j hi hj hij => ?_, fun x hx => ?_⟩
  · have := up (j - i - 1) i (by omega)
    have e : i + (j - i - 1) + 1 = j := by omega
    simpa only [e] using this
  · obtain ⟨j, hj, rfl⟩ := List.getElem_of_mem hx
    have := key j hj
    cases j with
    | zero => rw [stepOk_zero hj] at this; exact this
    | succ j => rw [stepOk_succ hj] at this; exact (Bool.and_eq_true _ _ ▸ this).1
theorem asc_rowOk {α : Type} {fine : α → Bool} {lt : α → α → Bool} {l : List α} (h : AscBy lt l) (hf : ∀ x ∈ l, fine x = true) : rowOk fine lt l = true := by
  refine rowOk_yes fun j hj => ?_
  cases j with
  | zero => rw [stepOk_zero hj]; exact hf _ (List.getElem_mem _)
  | succ j =>
    rw [stepOk_succ hj, hf _ (List.getElem_mem _), List.pairwise_iff_getElem.1 h j (j + 1) (by omega) hj (by omega)]
    rfl
theorem mem_putIn {α : Type} {lt : α → α → Bool} {l : List α} {x y : α} : y ∈ putIn lt l x ↔ y = x ∨ y ∈ l ∧ (lt y x = true ∨ lt x y = true) := by
  simp only [putIn, List.mem_append, List.mem_cons, List.mem_filter]
  constructor
  · rintro (⟨a, b⟩ | rfl | ⟨a, b⟩)
    · exact Or.inr ⟨a, Or.inl b⟩
    · exact Or.inl rfl
    · exact Or.inr ⟨a, Or.inr b⟩
  · rintro (rfl | ⟨a, b | b⟩)
    · exact Or.inr (Or.inl rfl)
    · exact Or.inl ⟨a, b⟩
    · exact Or.inr (Or.inr ⟨a, b⟩)
theorem asc_putIn {α : Type} {lt : α → α → Bool} (ho : Ordered lt) {l : List α} (h : AscBy lt l) (x : α) : AscBy lt (putIn lt l x) := by
  rw [AscBy, putIn, List.pairwise_append]
  refine ⟨h.sublist List.filter_sublist, List.pairwise_cons.2 ⟨fun b hb => (List.mem_filter.1 hb).2, h.sublist List.filter_sublist⟩, fun a ha b hb => ?_⟩
  have h1 := (List.mem_filter.1 ha).2
  rcases List.mem_cons.1 hb with rfl | hb
  · exact h1
  · exact ho.trans _ _ _ h1 (List.mem_filter.1 hb).2
/-- two of a list by the one order, with the same members: one list -/
theorem asc_same {α : Type} {lt : α → α → Bool} (ho : Ordered lt) : ∀ {l m : List α}, AscBy lt l → AscBy lt m → (∀ x, x ∈ l ↔ x ∈ m) → l = m
  | [], [], _, _, _ => rfl
  | [], b :: m, _, _, h => by have := (h b).2 (by simp); cases this
  | a :: l, [], _, _, h => by have := (h a).1 (by simp); cases this
  | a :: l, b :: m, hl, hm, h => by
    obtain ⟨hl1, hl2⟩ := List.pairwise_cons.1 hl
    obtain ⟨hm1, hm2⟩ := List.pairwise_cons.1 hm
    have hab : a = b := by
      rcases List.mem_cons.1 ((h a).1 (by simp)) with e | e
      · exact e
      · rcases List.mem_cons.1 ((h b).2 (by simp)) with q | q
        · exact q.symm
        · have := ho.trans _ _ _ (hl1 b q) (hm1 a e)
          rw [ho.irrefl] at this
          cases this
    subst hab
    have hni : ∀ x ∈ l, x ≠ a := fun x hx e => by have := hl1 x hx; rw [e, ho.irrefl] at this; cases this
    have hnm : ∀ x ∈ m, x ≠ a := fun x hx e => by have := hm1 x hx; rw [e, ho.irrefl] at this; cases this
    rw [asc_same ho hl2 hm2 fun x => ?_]
    constructor
    · intro hx
      rcases List.mem_cons.1 ((h x).1 (List.mem_cons_of_mem _ hx)) with e | e
      · exact absurd e (hni x hx)
      · exact e
    · intro hx
      rcases List.mem_cons.1 ((h x).2 (List.mem_cons_of_mem _ hx)) with e | e
      · exact absurd e (hnm x hx)
      · exact e
theorem asc_filter {α : Type} {lt : α → α → Bool} {l : List α} (h : AscBy lt l) (p : α → Bool) : AscBy lt (l.filter p) := h.sublist List.filter_sublist
theorem asc_tail {α : Type} {lt : α → α → Bool} {l : List α} (h : AscBy lt l) : AscBy lt l.tail := h.sublist (List.tail_sublist l)

theorem token_ordered : Ordered tokenLt := ⟨fun a => by simp [tokenLt], fun a b c h1 h2 => by simp only [tokenLt, decide_eq_true_eq] at *; omega⟩
theorem bytesLess_lt (a b : List UInt8) : Op.bytesLess a b = true ↔ a < b := by
  rw [bytesLess_eq]; simp
theorem text_tri (a b : List UInt8) : a < b ∨ a = b ∨ b < a := by
  rcases Decidable.em (a < b) with h | h
  · exact Or.inl h
  · rcases Decidable.em (b < a) with h2 | h2
    · exact Or.inr (Or.inr h2)
    · exact Or.inr (Or.inl (List.le_antisymm (List.not_lt.1 h2) (List.not_lt.1 h)))
theorem key_ordered : Ordered keyLt := by
  refine ⟨fun a => ?_, fun a b c h1 h2 => ?_⟩
  · rw [← Bool.not_eq_true, keyLt, bytesLess_lt]; exact List.lt_irrefl _
  · rw [keyLt, bytesLess_lt] at *
    exact List.lt_trans h1 h2
theorem token_total {a b : SessionD} (h : a.token ≠ b.token) : tokenLt a b = true ∨ tokenLt b a = true := by
  simp only [tokenLt, decide_eq_true_eq]; omega
theorem text_ext {a b : ByteArray} (h : a.toList = b.toList) : a = b := by
  rw [ByteArray.toList_eq, ByteArray.toList_eq] at h
  exact ByteArray.ext (Array.toList_inj.1 h)
theorem key_total {a b : ItemD} (h : a.key ≠ b.key) : keyLt a b = true ∨ keyLt b a = true := by
  rw [keyLt, keyLt, bytesLess_lt, bytesLess_lt]
  rcases text_tri a.key.toList b.key.toList with q | q | q
  · exact Or.inl q
  · exact absurd (text_ext q) h
  · exact Or.inr q
theorem tokenLt_ne {a b : SessionD} (h : tokenLt a b = true) : a.token ≠ b.token := by
  simp only [tokenLt, decide_eq_true_eq] at h; omega
theorem keyLt_ne {a b : ItemD} (h : keyLt a b = true) : a.key ≠ b.key := by
  intro e
  rw [keyLt, bytesLess_lt, e] at h
  exact List.lt_irrefl _ h

def txt (l : List UInt8) : ByteArray := ⟨l.toArray⟩
def decT (n : Int) : ByteArray := ⟨(dec n).toArray⟩
theorem decT_len {n : Int} (h0 : 0 ≤ n) (h1 : n ≤ 1000000000) : (decT n).size ≤ 19 := by
  have h := dd_len 19 n.natAbs (by omega)
  show (dec n).toArray.size ≤ 19
  rw [List.size_toArray]
  unfold dec
  split
  · decide
  · rw [if_neg (by omega)]
    exact h
/-- what is done to the items, and replied -/
def putD (li : List ItemD) (index : Int) (x : CommandD) : List ItemD × ByteArray :=
  if (putIn keyLt li ⟨x.key, x.val, index⟩).length > 8 then (li, txt [102, 117, 108, 108]) else (putIn keyLt li ⟨x.key, x.val, index⟩, txt [112, 117, 116, 32] ++ decT index)
def doD (li : List ItemD) (index : Int) (x : CommandD) : List ItemD × ByteArray :=
  if x.op = 2 then putD li index x
  else if (itemOf li x.key).2 = false then (li, txt [110, 111])
  else if x.op = 3 then (li, txt [105, 115, 32] ++ decT (itemOf li x.key).1.ver ++ txt [32] ++ (itemOf li x.key).1.val)
  else if x.op = 4 then (li.filter (fun e => !(e.key.toList == x.key.toList)), txt [100, 114, 111, 112])
  else if (itemOf li x.key).1.ver = x.ver then putD li index x
  else (li, txt [110, 111, 116, 32] ++ decT (itemOf li x.key).1.ver)
def openedD (ls : List SessionD) (index : Int) : List SessionD :=
  if (putIn tokenLt ls ⟨index, 0, ⟨#[]⟩⟩).length > 3 then (putIn tokenLt ls ⟨index, 0, ⟨#[]⟩⟩).tail else putIn tokenLt ls ⟨index, 0, ⟨#[]⟩⟩
def sessOf (ls : List SessionD) (token : Int) : Option SessionD := ls.find? (fun e => e.token == token)
structure KeepD where
  ss : List SessionD
  is : List ItemD
  reply : ByteArray
  ok : Bool
def askD (ls : List SessionD) (li : List ItemD) (index : Int) (x : CommandD) (s : SessionD) : KeepD :=
  if x.seq = 0 ∨ x.seq < s.last then ⟨ls, li, txt [111, 108, 100], true⟩
  else if x.seq = s.last then ⟨ls, li, s.reply, true⟩
  else if x.seq > s.last + 1 then ⟨ls, li, txt [103, 97, 112], true⟩
  else ⟨putIn tokenLt ls ⟨x.token, x.seq, (doD li index x).2⟩, (doD li index x).1, (doD li index x).2, true⟩
def doneD (ls : List SessionD) (li : List ItemD) (index : Int) (x : CommandD) : KeepD :=
  if x.op = 1 then ⟨openedD ls index, li, txt [111, 112, 101, 110, 32] ++ decT index, true⟩
  else match sessOf ls x.token with
    | none => ⟨ls, li, txt [110, 111, 110, 101], true⟩
    | some s => askD ls li index x s
def mayDo (ls : List SessionD) (li : List ItemD) (index : Int) (x : CommandD) : Bool := keepOk ls li && (within index 1 400000 && commandOk x)
def performD (ls : List SessionD) (li : List ItemD) (index : Int) (x : CommandD) : KeepD :=
  if mayDo ls li index x = true then doneD ls li index x else ⟨[], [], ⟨#[]⟩, false⟩
theorem sessOf_some {ls : List SessionD} {t : Int} {s : SessionD} (h : sessOf ls t = some s) : s ∈ ls ∧ s.token = t :=
  ⟨List.mem_of_find?_eq_some h, by have := List.find?_some h; simpa using this⟩
theorem sessOf_none {ls : List SessionD} {t : Int} (h : sessOf ls t = none) : ∀ s ∈ ls, s.token ≠ t := by
  intro s hs
  have := List.find?_eq_none.1 h s hs
  simpa using this
theorem itemOf_true {li : List ItemD} {k : ByteArray} (h : (itemOf li k).2 = true) : (itemOf li k).1 ∈ li ∧ (itemOf li k).1.key = k := by
  unfold itemOf at h ⊢
  cases hf : li.find? (fun e => e.key.toList == k.toList) with
  | none => rw [hf] at h; cases h
  | some e =>
    simp only
    refine ⟨List.mem_of_find?_eq_some hf, ?_⟩
    have := List.find?_some hf
    exact text_ext (by simpa using this)
theorem itemOf_false {li : List ItemD} {k : ByteArray} (h : (itemOf li k).2 = false) : ∀ e ∈ li, e.key ≠ k := by
  unfold itemOf at h
  cases hf : li.find? (fun e => e.key.toList == k.toList) with
  | none =>
    intro e he q
    have := List.find?_eq_none.1 hf e he
    rw [q] at this
    simp at this
  | some e => rw [hf] at h; cases h
/-- putting in what is there already, or what is new -/
theorem len_putIn {α : Type} {lt : α → α → Bool} (l : List α) (x : α) : (putIn lt l x).length = (l.filter (fun a => lt a x)).length + (l.filter (fun a => lt x a)).length + 1 := by
  simp [putIn]; omega
theorem mem_putS {ls : List SessionD} {x y : SessionD} : y ∈ putIn tokenLt ls x ↔ y = x ∨ y ∈ ls ∧ y.token ≠ x.token := by
  rw [mem_putIn]
  constructor
  · rintro (h | ⟨h, q | q⟩)
    · exact Or.inl h
    · exact Or.inr ⟨h, tokenLt_ne q⟩
    · exact Or.inr ⟨h, (tokenLt_ne q).symm⟩
  · rintro (h | ⟨h, q⟩)
    · exact Or.inl h
    · exact Or.inr ⟨h, token_total q⟩
theorem mem_putK {li : List ItemD} {x y : ItemD} : y ∈ putIn keyLt li x ↔ y = x ∨ y ∈ li ∧ y.key ≠ x.key := by
  rw [mem_putIn]
  constructor
  · rintro (h | ⟨h, q | q⟩)
    · exact Or.inl h
    · exact Or.inr ⟨h, keyLt_ne q⟩
    · exact Or.inr ⟨h, (keyLt_ne q).symm⟩
  · rintro (h | ⟨h, q⟩)
    · exact Or.inl h
    · exact Or.inr ⟨h, key_total q⟩
theorem less_flip (a b : List UInt8) : Op.bytesLess b a = !(Op.bytesLess a b || a == b) := by
  have h1 := bytesLess_lt a b
  have h2 := bytesLess_lt b a
  rcases text_tri a b with q | q | q
  · rw [h1.2 q, Bool.true_or, Bool.not_true, ← Bool.not_eq_true, h2]
    exact fun q2 => List.lt_irrefl _ (List.lt_trans q q2)
  · subst q
    rw [beq_self_eq_true, Bool.or_true, Bool.not_true, ← Bool.not_eq_true, h2]
    exact List.lt_irrefl _
  · have e1 : Op.bytesLess a b = false := by
      rw [← Bool.not_eq_true, h1]
      exact fun q2 => List.lt_irrefl _ (List.lt_trans q q2)
    have e2 : (a == b) = false := by
      rw [beq_eq_false_iff_ne]
      intro e
      subst e
      exact List.lt_irrefl _ q
    rw [h2.2 q, e1, e2]
    rfl
/-- a list, and behind it those of the first k for which p holds -/
def rowsOf {α : Type} (P : List α) (p : α → Bool) (l : List α) (k : Nat) : List α := P ++ (l.take k).filter p
theorem rowsOf_step {α : Type} (P : List α) (p : α → Bool) (l : List α) (k : Nat) (hk : k < l.length) : rowsOf P p l (k + 1) = rowsOf P p l k ++ (if p l[k] = true then [l[k]] else []) := by
  rw [rowsOf, rowsOf, List.take_succ_eq_append_getElem hk, List.filter_append, List.append_assoc]
  cases h : p l[k] <;> simp [h]
theorem rowsOf_le {α : Type} (P : List α) (p : α → Bool) (l : List α) (k : Nat) : (rowsOf P p l k).length ≤ P.length + l.length := by
  have := List.length_filter_le p (l.take k)
  rw [List.length_take] at this
  rw [rowsOf, List.length_append]
  omega
theorem rowsOf_zero {α : Type} (P : List α) (p : α → Bool) (l : List α) : rowsOf P p l 0 = P := by simp [rowsOf]
theorem rowsOf_all {α : Type} (P : List α) (p : α → Bool) (l : List α) : rowsOf P p l l.length = P ++ l.filter p := by simp [rowsOf]
theorem putIn_rows {α : Type} (lt : α → α → Bool) (l : List α) (x : α) : putIn lt l x = rowsOf (rowsOf [] (fun a => lt a x) l l.length ++ [x]) (fun a => lt x a) l l.length := by
  rw [rowsOf_all, rowsOf_all, List.nil_append, putIn, List.append_assoc]
  rfl
end Go.Proofs.YtohpkegbmhmjeaaGreatDoor

namespace Go.Proofs.YtohpkegbmhmjeaaGreatDoor
open Go.RowKit Go.Sort

theorem asc_at {α : Type} {lt : α → α → Bool} {l : List α} (h : AscBy lt l) {i j : Nat} (hij : i < j) (hj : j < l.length) : lt (l[i]'(by omega)) l[j] = true := List.pairwise_iff_getElem.1 h i j (by omega) hj hij
theorem keep_facts {ls : List SessionD} {li : List ItemD} (h : keepOk ls li = true) : (AscBy tokenLt ls ∧ (∀ s ∈ ls, sessionFine s = true) ∧ ls.length ≤ 3) ∧ AscBy keyLt li ∧ (∀ e ∈ li, itemFine e = true) ∧ li.length ≤ 8 := by
  simp only [keepOk, sessionsRight, itemsRight, Bool.and_eq_true, decide_eq_true_eq] at h
  obtain ⟨⟨h1, h2⟩, h3, h4⟩ := h
  have a := rowOk_asc token_ordered h1
  have b := rowOk_asc key_ordered h3
  exact ⟨⟨a.1, a.2, by omega⟩, b.1, b.2, by omega⟩
theorem facts_keep {ls : List SessionD} {li : List ItemD} (h : (AscBy tokenLt ls ∧ (∀ s ∈ ls, sessionFine s = true) ∧ ls.length ≤ 3) ∧ AscBy keyLt li ∧ (∀ e ∈ li, itemFine e = true) ∧ li.length ≤ 8) : keepOk ls li = true := by
  obtain ⟨⟨h1, h2, h3⟩, h4, h5, h6⟩ := h
  simp only [keepOk, sessionsRight, itemsRight, Bool.and_eq_true, decide_eq_true_eq]
  exact ⟨⟨asc_rowOk h1 h2, by omega⟩, asc_rowOk h4 h5, by omega⟩
theorem asc_token {ls : List SessionD} (h : AscBy tokenLt ls) {i j : Nat} (hi : i < ls.length) (hj : j < ls.length) (e : ls[i].token = ls[j].token) : i = j := by
  rcases Nat.lt_trichotomy i j with q | q | q
  · exact absurd e (tokenLt_ne (asc_at h q hj))
  · exact q
  · exact absurd e.symm (tokenLt_ne (asc_at h q hi))
theorem asc_key {li : List ItemD} (h : AscBy keyLt li) {i j : Nat} (hi : i < li.length) (hj : j < li.length) (e : li[i].key = li[j].key) : i = j := by
  rcases Nat.lt_trichotomy i j with q | q | q
  · exact absurd e (keyLt_ne (asc_at h q hj))
  · exact q
  · exact absurd e.symm (keyLt_ne (asc_at h q hi))
theorem token_one {ls : List SessionD} (h : AscBy tokenLt ls) {a b : SessionD} (ha : a ∈ ls) (hb : b ∈ ls) (e : a.token = b.token) : a = b := by
  obtain ⟨i, hi, rfl⟩ := List.getElem_of_mem ha
  obtain ⟨j, hj, rfl⟩ := List.getElem_of_mem hb
  obtain rfl := asc_token h hi hj e
  rfl
theorem key_one {li : List ItemD} (h : AscBy keyLt li) {a b : ItemD} (ha : a ∈ li) (hb : b ∈ li) (e : a.key = b.key) : a = b := by
  obtain ⟨i, hi, rfl⟩ := List.getElem_of_mem ha
  obtain ⟨j, hj, rfl⟩ := List.getElem_of_mem hb
  obtain rfl := asc_key h hi hj e
  rfl
theorem sessOf_at {ls : List SessionD} (h : AscBy tokenLt ls) {p : Nat} (hp : p < ls.length) {t : Int} (ht : ls[p].token = t) : sessOf ls t = some ls[p] := by
  cases hs : sessOf ls t with
  | none => exact absurd ht (sessOf_none hs _ (List.getElem_mem hp))
  | some s =>
    obtain ⟨h1, h2⟩ := sessOf_some hs
    rw [token_one h h1 (List.getElem_mem hp) (by rw [h2, ht])]
theorem sessOf_not {ls : List SessionD} {t : Int} (h : ∀ j (hj : j < ls.length), ls[j].token ≠ t) : sessOf ls t = none := by
  rw [sessOf, List.find?_eq_none]
  intro x hx
  obtain ⟨j, hj, rfl⟩ := List.getElem_of_mem hx
  simpa using h j hj
theorem asc_set {ls : List SessionD} (h : AscBy tokenLt ls) {p : Nat} (hp : p < ls.length) {y : SessionD} (hy : y.token = ls[p].token) : AscBy tokenLt (ls.set p y) := by
  refine List.pairwise_iff_getElem.2 fun i j hi hj hij => ?_
  rw [List.length_set] at hi hj
  have q := asc_at h hij hj
  simp only [tokenLt, decide_eq_true_eq] at q ⊢
  rw [List.getElem_set, List.getElem_set]
  split
  · rename_i e
    subst e
    rw [if_neg (by omega), hy]
    exact q
  · split
    · rename_i e
      subst e
      rw [hy]
      exact q
    · exact q
theorem set_putIn {ls : List SessionD} (h : AscBy tokenLt ls) {p : Nat} (hp : p < ls.length) {y : SessionD} (hy : y.token = ls[p].token) : ls.set p y = putIn tokenLt ls y := by
  refine asc_same token_ordered (asc_set h hp hy) (asc_putIn token_ordered h y) fun x => ?_
  rw [mem_putS]
  constructor
  · intro hx
    obtain ⟨j, hj, rfl⟩ := List.getElem_of_mem hx
    rw [List.length_set] at hj
    rw [List.getElem_set]
    split
    · exact Or.inl rfl
    · rename_i e
      exact Or.inr ⟨List.getElem_mem hj, fun q => e (asc_token h hp hj (by rw [q, hy]))⟩
  · rintro (rfl | ⟨hx, hne⟩)
    · exact List.mem_set hp x
    · obtain ⟨j, hj, rfl⟩ := List.getElem_of_mem hx
      have hjp : p ≠ j := fun e => hne (by subst e; exact hy.symm)
      have : (ls.set p y)[j]'(by rw [List.length_set]; exact hj) = ls[j] := by rw [List.getElem_set, if_neg hjp]
      rw [← this]
      exact List.getElem_mem _
theorem cells_set2 {ls : List SessionD} {p : Nat} (hp : p < ls.length) (q : Int) (r : ByteArray) : ((sessionCells ls).set (p * 3 + 1) (.int .i64 q)).set (p * 3 + 2) (.string r) = sessionCells (ls.set p ⟨ls[p].token, q, r⟩) := by
  have e0 : ls.take p ++ ls[p] :: ls.drop (p + 1) = ls := by rw [← List.drop_eq_getElem_cons hp, List.take_append_drop]
  have e1 : sessionCells ls = sessionCells (ls.take p) ++ (.int .i64 ls[p].token :: .int .i64 ls[p].last :: .string ls[p].reply :: sessionCells (ls.drop (p + 1))) := by
    refine (congrArg sessionCells e0.symm).trans ?_
    rw [sessionCells, List.flatMap_append, List.flatMap_cons]
    rfl
  have e2 : ls.set p ⟨ls[p].token, q, r⟩ = ls.take p ++ ⟨ls[p].token, q, r⟩ :: ls.drop (p + 1) := by rw [List.set_eq_take_append_cons_drop, if_pos hp]
  have hlen : (sessionCells (ls.take p)).length = p * 3 := by rw [sessionCells_length, List.length_take]; omega
  rw [e1, e2, List.set_append_right _ _ (by omega), List.set_append_right _ _ (by omega), hlen, show p * 3 + 1 - p * 3 = 1 by omega, show p * 3 + 2 - p * 3 = 2 by omega]
  simp [sessionCells, sessionEnc]
/-- what a right command's fields are -/
theorem command_ops {x : CommandD} (h : commandOk x = true) : (x.op = 1 ∨ x.op = 2 ∨ x.op = 3 ∨ x.op = 4 ∨ x.op = 5) ∧ (0 ≤ x.token ∧ x.token ≤ 1000000) ∧ (0 ≤ x.seq ∧ x.seq ≤ 1000000) := by
  simp only [commandOk, within, Bool.and_eq_true, decide_eq_true_eq] at h
  omega
theorem command_key {x : CommandD} (h : commandOk x = true) : x.key.size ≤ 8 ∧ x.val.size ≤ 20 := by
  simp only [commandOk, within, Bool.and_eq_true, decide_eq_true_eq] at h
  obtain ⟨_, _, _, h⟩ := h
  split at h
  · simp only [Bool.and_eq_true, decide_eq_true_eq] at h
    omega
  · simp only [Bool.and_eq_true, decide_eq_true_eq] at h
    omega
theorem session_bounds {s : SessionD} (h : sessionFine s = true) : (1 ≤ s.token ∧ s.token ≤ 1000000) ∧ (0 ≤ s.last ∧ s.last ≤ 1000000) ∧ s.reply.size ≤ 40 := by
  simp only [sessionFine, within, Bool.and_eq_true, decide_eq_true_eq] at h
  omega
theorem item_bounds {e : ItemD} (h : itemFine e = true) : (1 ≤ e.key.size ∧ e.key.size ≤ 8) ∧ e.val.size ≤ 20 ∧ (1 ≤ e.ver ∧ e.ver ≤ 1000000000) := by
  simp only [itemFine, within, Bool.and_eq_true, decide_eq_true_eq] at h
  omega
theorem may_facts {ls : List SessionD} {li : List ItemD} {index : Int} {x : CommandD} (h : mayDo ls li index x = true) : (0 ≤ index ∧ index ≤ 400000) ∧ ((AscBy tokenLt ls ∧ (∀ s ∈ ls, sessionFine s = true) ∧ ls.length ≤ 3) ∧ AscBy keyLt li ∧ (∀ e ∈ li, itemFine e = true) ∧ li.length ≤ 8) ∧ commandOk x = true := by
  simp only [mayDo, within, Bool.and_eq_true, decide_eq_true_eq] at h
  exact ⟨by omega, keep_facts h.1, h.2.2⟩
theorem split_len {α : Type} {lt : α → α → Bool} (ho : Ordered lt) (x : α) : ∀ (l : List α), (l.filter (fun a => lt a x)).length + (l.filter (fun a => lt x a)).length + (l.filter (fun a => !(lt a x) && !(lt x a))).length = l.length
  | [] => rfl
  | a :: l => by
    have ih := split_len ho x l
    cases h1 : lt a x with
    | true =>
      have h2 : lt x a = false := by
        rw [← Bool.not_eq_true]
        intro h2
        have := ho.trans _ _ _ h1 h2
        rw [ho.irrefl] at this
        cases this
      simp [h1, h2]
      omega
    | false =>
      cases h2 : lt x a with
      | true => simp [h1, h2]; omega
      | false => simp [h1, h2]; omega
theorem one_len {α : Type} {lt : α → α → Bool} {l : List α} (h : AscBy lt l) {p : α → Bool} (hp : ∀ a b, p a = true → p b = true → lt a b = false) : (l.filter p).length ≤ 1 := by
  have hq := asc_filter h p
  match hm : l.filter p with
  | [] => simp
  | [_] => simp
  | a :: b :: r =>
    rw [hm] at hq
    have h1 := (List.pairwise_cons.1 hq).1 b (by simp)
    have ha : a ∈ l.filter p := by rw [hm]; simp
    have hb : b ∈ l.filter p := by rw [hm]; simp
    rw [hp a b (List.mem_filter.1 ha).2 (List.mem_filter.1 hb).2] at h1
    cases h1
/-- how many there are behind a put -/
theorem putK_len {li : List ItemD} (h : AscBy keyLt li) (x : ItemD) : (putIn keyLt li x).length = if (itemOf li x.key).2 = true then li.length else li.length + 1 := by
  have h1 := split_len key_ordered x li
  have same : ∀ a, (!(keyLt a x) && !(keyLt x a)) = true → a.key = x.key := by
    intro a ha
    simp only [Bool.and_eq_true, Bool.not_eq_true'] at ha
    rcases Decidable.em (a.key = x.key) with q | q
    · exact q
    · rcases key_total q with q | q
      · rw [ha.1] at q; cases q
      · rw [ha.2] at q; cases q
  have h2 := one_len h (p := fun a => !(keyLt a x) && !(keyLt x a)) (fun a b ha hb => by
    rw [← Bool.not_eq_true]
    intro q
    exact keyLt_ne q ((same a ha).trans (same b hb).symm))
  rw [len_putIn]
  cases hi : (itemOf li x.key).2 with
  | true =>
    obtain ⟨m1, m2⟩ := itemOf_true hi
    have h3 : 0 < (li.filter (fun a => !(keyLt a x) && !(keyLt x a))).length := by
      refine List.length_pos_of_mem (a := (itemOf li x.key).1) (List.mem_filter.2 ⟨m1, ?_⟩)
      have e1 : keyLt (itemOf li x.key).1 x = false := by rw [← Bool.not_eq_true]; exact fun q => keyLt_ne q m2
      have e2 : keyLt x (itemOf li x.key).1 = false := by rw [← Bool.not_eq_true]; exact fun q => keyLt_ne q m2.symm
      rw [e1, e2]
      rfl
    rw [if_pos rfl]
    omega
  | false =>
    have h3 : (li.filter (fun a => !(keyLt a x) && !(keyLt x a))).length = 0 := by
      rw [List.length_eq_zero_iff, List.filter_eq_nil_iff]
      intro a ha q
      exact itemOf_false hi a ha (same a q)
    rw [if_neg (by simp)]
    omega
end Go.Proofs.YtohpkegbmhmjeaaGreatDoor

namespace Go.Proofs.YtohpkegbmhmjeaaGreatDoor
open Go.RowKit Go.Sort

theorem decT_ten {n : Int} (h0 : 0 ≤ n) (h1 : n ≤ 1000000000) : (decT n).size ≤ 10 := by
  have h := dd_len 10 n.natAbs (by omega)
  show (dec n).toArray.size ≤ 10
  rw [List.size_toArray]
  unfold dec
  split
  · decide
  · rw [if_neg (by omega)]
    exact h
theorem txt_size (l : List UInt8) : (txt l).size = l.length := by
  show l.toArray.size = _
  rw [List.size_toArray]
theorem command_keyOk {x : CommandD} (h : commandOk x = true) (ho : x.op ≠ 1) : 1 ≤ x.key.size ∧ x.key.size ≤ 8 ∧ x.val.size ≤ 20 := by
  simp only [commandOk, within, Bool.and_eq_true, decide_eq_true_eq, if_neg ho] at h
  omega
theorem putD_right {li : List ItemD} {index : Int} {x : CommandD} (ha : AscBy keyLt li) (hf : ∀ e ∈ li, itemFine e = true) (hl : li.length ≤ 8) (h0 : 1 ≤ index) (h1 : index ≤ 400000) (hx : commandOk x = true) (ho : x.op ≠ 1) :
    AscBy keyLt (putD li index x).1 ∧ (∀ e ∈ (putD li index x).1, itemFine e = true) ∧ (putD li index x).1.length ≤ 8 ∧ (putD li index x).2.size ≤ 40 := by
  obtain ⟨k1, k2, k3⟩ := command_keyOk hx ho
  unfold putD
  split
  · exact ⟨ha, hf, hl, by rw [txt_size]; decide⟩
  · rename_i q
    refine ⟨asc_putIn key_ordered ha _, fun e he => ?_, Nat.not_lt.1 q, ?_⟩
    · rcases mem_putK.1 he with rfl | ⟨he, _⟩
      · simp only [itemFine, within, Bool.and_eq_true, decide_eq_true_eq]
        omega
      · exact hf e he
    · have := decT_ten (show 0 ≤ index by omega) (by omega)
      rw [ByteArray.size_append, txt_size]
      show 4 + _ ≤ _
      omega
theorem doD_right {li : List ItemD} {index : Int} {x : CommandD} (ha : AscBy keyLt li) (hf : ∀ e ∈ li, itemFine e = true) (hl : li.length ≤ 8) (h0 : 1 ≤ index) (h1 : index ≤ 400000) (hx : commandOk x = true) (ho : x.op ≠ 1) :
    AscBy keyLt (doD li index x).1 ∧ (∀ e ∈ (doD li index x).1, itemFine e = true) ∧ (doD li index x).1.length ≤ 8 ∧ (doD li index x).2.size ≤ 40 := by
  unfold doD
  split
  · exact putD_right ha hf hl h0 h1 hx ho
  split
  · exact ⟨ha, hf, hl, by rw [txt_size]; decide⟩
  rename_i hh
  have hi : (itemOf li x.key).2 = true := by simpa using hh
  have hb := item_bounds (hf _ (itemOf_true hi).1)
  have hd := decT_ten (show 0 ≤ (itemOf li x.key).1.ver by omega) (by omega)
  split
  · refine ⟨ha, hf, hl, ?_⟩
    rw [ByteArray.size_append, ByteArray.size_append, ByteArray.size_append, txt_size, txt_size]
    show 3 + _ + 1 + _ ≤ _
    omega
  split
  · exact ⟨asc_filter ha _, fun e he => hf e (List.mem_filter.1 he).1, Nat.le_trans (List.length_filter_le _ _) hl, by rw [txt_size]; decide⟩
  split
  · exact putD_right ha hf hl h0 h1 hx ho
  · refine ⟨ha, hf, hl, ?_⟩
    rw [ByteArray.size_append, txt_size]
    show 4 + _ ≤ _
    omega
theorem opened_right {ls : List SessionD} {index : Int} (ha : AscBy tokenLt ls) (hf : ∀ s ∈ ls, sessionFine s = true) (hl : ls.length ≤ 3) (h0 : 1 ≤ index) (h1 : index ≤ 400000) :
    AscBy tokenLt (openedD ls index) ∧ (∀ s ∈ openedD ls index, sessionFine s = true) ∧ (openedD ls index).length ≤ 3 := by
  have hlen := len_putIn (lt := tokenLt) ls ⟨index, 0, ⟨#[]⟩⟩
  have hsp := split_len token_ordered ⟨index, 0, ⟨#[]⟩⟩ ls
  have hfine : ∀ s ∈ putIn tokenLt ls ⟨index, 0, ⟨#[]⟩⟩, sessionFine s = true := by
    intro s hs
    rcases mem_putS.1 hs with rfl | ⟨hs, _⟩
    · simp only [sessionFine, within, Bool.and_eq_true, decide_eq_true_eq]
      refine ⟨by omega, by omega, by show (0 : Int) ≤ 40; omega, ?_⟩
      rfl
    · exact hf s hs
  have hasc := asc_putIn token_ordered ha ⟨index, 0, ⟨#[]⟩⟩
  unfold openedD
  split
  · exact ⟨asc_tail hasc, fun s hs => hfine s (List.mem_of_mem_tail hs), by rw [List.length_tail]; omega⟩
  · rename_i q
    exact ⟨hasc, hfine, by omega⟩
/-- a right keep stays right -/
theorem done_right {ls : List SessionD} {li : List ItemD} {index : Int} {x : CommandD} (h : mayDo ls li index x = true) : keepOk (doneD ls li index x).ss (doneD ls li index x).is = true ∧ (doneD ls li index x).reply.size ≤ 40 ∧ (doneD ls li index x).ok = true := by
  obtain ⟨_, ⟨⟨ha, hsf, hl3⟩, hai, hif, hl8⟩, hx⟩ := may_facts h
  have hi0 : 1 ≤ index ∧ index ≤ 400000 := by
    simp only [mayDo, within, Bool.and_eq_true, decide_eq_true_eq] at h
    omega
  obtain ⟨hops, htk, hsq⟩ := command_ops hx
  unfold doneD
  split
  · refine ⟨facts_keep ⟨opened_right ha hsf hl3 hi0.1 hi0.2, hai, hif, hl8⟩, ?_, rfl⟩
    have := decT_ten (show 0 ≤ index by omega) (by omega)
    show (txt _ ++ decT index).size ≤ 40
    rw [ByteArray.size_append, txt_size]
    show 5 + _ ≤ _
    omega
  rename_i ho
  split
  · exact ⟨facts_keep ⟨⟨ha, hsf, hl3⟩, hai, hif, hl8⟩, by show (txt _).size ≤ 40; rw [txt_size]; decide, rfl⟩
  rename_i s hs
  obtain ⟨hsm, hst⟩ := sessOf_some hs
  have hb := session_bounds (hsf s hsm)
  unfold askD
  split
  · exact ⟨facts_keep ⟨⟨ha, hsf, hl3⟩, hai, hif, hl8⟩, by show (txt _).size ≤ 40; rw [txt_size]; decide, rfl⟩
  split
  · exact ⟨facts_keep ⟨⟨ha, hsf, hl3⟩, hai, hif, hl8⟩, by show s.reply.size ≤ 40; omega, rfl⟩
  split
  · exact ⟨facts_keep ⟨⟨ha, hsf, hl3⟩, hai, hif, hl8⟩, by show (txt _).size ≤ 40; rw [txt_size]; decide, rfl⟩
  rename_i q1 q2 q3
  obtain ⟨d1, d2, d3, d4⟩ := doD_right hai hif hl8 hi0.1 hi0.2 hx ho
  refine ⟨facts_keep ⟨⟨asc_putIn token_ordered ha _, fun y hy => ?_, ?_⟩, d1, d2, d3⟩, d4, rfl⟩
  · rcases mem_putS.1 hy with rfl | ⟨hy, _⟩
    · simp only [sessionFine, within, Bool.and_eq_true, decide_eq_true_eq, Bool.or_eq_true, Bool.not_eq_true', decide_eq_false_iff_not]
      refine ⟨by omega, by omega, by omega, Or.inl (by omega)⟩
    · exact hsf y hy
  · obtain ⟨p, hp, rfl⟩ := List.getElem_of_mem hsm
    show (putIn tokenLt ls ⟨x.token, x.seq, (doD li index x).2⟩).length ≤ 3
    rw [← set_putIn (y := ⟨x.token, x.seq, (doD li index x).2⟩) ha hp hst.symm, List.length_set]
    exact hl3
end Go.Proofs.YtohpkegbmhmjeaaGreatDoor

namespace Go.Proofs.YtohpkegbmhmjeaaGreatDoor
open Go.RowKit Go.Sort

def Young (n : Int) (ls : List SessionD) : Prop := ∀ s ∈ ls, s.token ≤ n + 1 ∧ s.last ≤ n
theorem Young.up {n m : Int} {ls : List SessionD} (h : Young n ls) (hm : n ≤ m) : Young m ls := fun s hs => by have := h s hs; omega
theorem young_done {ls : List SessionD} {li : List ItemD} {n : Int} {x : CommandD} (h0 : 0 ≤ n) (hy : Young n ls) : Young (n + 1) (doneD ls li (n + 2) x).ss := by
  have hput : ∀ y : SessionD, y.token ≤ n + 2 → y.last ≤ n + 1 → ∀ s ∈ putIn tokenLt ls y, s.token ≤ n + 1 + 1 ∧ s.last ≤ n + 1 := by
    intro y h1 h2 s hs
    rcases mem_putS.1 hs with rfl | ⟨hs, _⟩
    · omega
    · have := hy s hs
      omega
  unfold doneD
  split
  · intro s hs
    change s ∈ openedD ls (n + 2) at hs
    have hp := hput ⟨n + 2, 0, ⟨#[]⟩⟩ (by show n + 2 ≤ _; omega) (by show (0 : Int) ≤ _; omega)
    unfold openedD at hs
    split at hs
    · exact hp s (List.mem_of_mem_tail hs)
    · exact hp s hs
  split
  · exact hy.up (by omega)
  rename_i s hs
  obtain ⟨hsm, hst⟩ := sessOf_some hs
  have hb := hy s hsm
  unfold askD
  split
  · exact hy.up (by omega)
  split
  · exact hy.up (by omega)
  split
  · exact hy.up (by omega)
  · exact hput _ (by show x.token ≤ _; omega) (by show x.seq ≤ _; omega)
/-- what Perform leaves where it does anything -/
theorem young_perform {ls : List SessionD} {li : List ItemD} {n : Int} {x : CommandD} (h0 : 0 ≤ n) (hy : Young n ls) :
    ((performD ls li (n + 2) x).ok = true ∧ keepOk (performD ls li (n + 2) x).ss (performD ls li (n + 2) x).is = true ∧ Young (n + 1) (performD ls li (n + 2) x).ss) ∨ (performD ls li (n + 2) x).ok = false := by
  unfold performD
  split
  · rename_i h
    have hd := done_right h
    exact Or.inl ⟨hd.2.2, hd.1, young_done h0 hy⟩
  · exact Or.inr rfl
/-- the first keep -/
def rootI : ItemD := ⟨⟨#[114, 111, 111, 116]⟩, ⟨#[]⟩, 1⟩
theorem first_keep : performD [] [rootI] 1 ⟨1, 0, 0, ⟨#[]⟩, ⟨#[]⟩, 0⟩ = ⟨[⟨1, 0, ⟨#[]⟩⟩], [rootI], txt [111, 112, 101, 110, 32] ++ decT 1, true⟩ := by
  have hm : mayDo [] [rootI] 1 ⟨1, 0, 0, ⟨#[]⟩, ⟨#[]⟩, 0⟩ = true := by decide
  rw [performD, if_pos hm, doneD, if_pos rfl]
  rfl
theorem first_right : keepOk [⟨1, 0, ⟨#[]⟩⟩] [rootI] = true := by decide
theorem first_young : Young 0 [⟨1, 0, ⟨#[]⟩⟩] := by
  intro s hs
  rw [List.mem_singleton] at hs
  subst hs
  decide
end Go.Proofs.YtohpkegbmhmjeaaGreatDoor

namespace Go.Proofs.YtohpkegbmhmjeaaGreatDoor
open Go.RowKit

def PerfDid (d : KeepD) (w : World) (e : Ending) (w' : World) : Prop :=
  ∃ va vc vb vd, e = .returned (.tuple #[.agg #[.slice va d.ss.length vc, .slice vb d.is.length vd], .string d.reply, .bool d.ok]) ∧ KRows w' w.heap.size (.slice va d.ss.length vc) (.slice vb d.is.length vd) d.ss d.is ∧ Below w.heap.size w w'
theorem perf_none {w w' : World} (hb : Below w.heap.size w w') : PerfDid ⟨[], [], ⟨#[]⟩, false⟩ w (.returned (.tuple #[.agg #[.slice none 0 0, .slice none 0 0], .string ⟨#[]⟩, .bool false])) w' :=
  ⟨none, 0, none, 0, rfl, ⟨⟨rfl, Or.inl ⟨rfl, rfl⟩⟩, ⟨rfl, Or.inl ⟨rfl, rfl⟩⟩⟩, hb⟩
end Go.Proofs.YtohpkegbmhmjeaaGreatDoor

namespace Go.Proofs.YtohpkegbmhmjeaaGreatDoor
open Go.RowKit Go.Maps

/-- a value is told by itself -/
def heldR (v : Value) : Option (DataW Value × List MemPlace) := some (.held v, [])
theorem heldR_inv {u v : Value} {ps : List MemPlace} (h : heldR v = some (.held u, ps)) : v = u := by
  simp only [heldR, Option.some.injEq, Prod.mk.injEq, DataW.held.injEq] at h
  exact h.1
theorem owns_tightH {w : World} {P : Program} {k : TypeId} {R : Value → Option (DataW Value × List MemPlace)} {b n : Nat} {D : DataW Value} (h : w.ownsMap P k R b n D) : w.ownsMap P k R b (Maps.size D) D := by
  obtain ⟨es, clock, hb, F, hs, rfl⟩ := h
  exact ⟨es, clock, hb, F, by simp [Maps.size, length_sorted], rfl⟩
/-- block b is a map that has just what the list has, by its keys -/
def HMap {α : Type} (kt : TypeId) (kl : α → Lit) (val : α → Value) (w : World) (b : Nat) (l : List α) : Prop :=
  ∃ D : DataW Value, w.ownsMap Tryz.prog kt heldR b (Maps.size D) D ∧ (∀ k, Maps.has D k = true ↔ ∃ a ∈ l, kl a = k) ∧ ∀ a ∈ l, ∀ z, D.atKey (kl a) z = .held (val a)

section
variable {α : Type} {kt : TypeId} {kl : α → Lit} {val : α → Value} {w w' : World} {b : Nat} {l : List α}

theorem HMap.lt (h : HMap kt kl val w b l) : b < w.heap.size := by
  obtain ⟨D, h1, _⟩ := h
  exact h1.lt
theorem HMap.kept {row : Option Nat} (h : HMap kt kl val w b l) (hg : w.grownBy w' row) (hne : some b ≠ row) : HMap kt kl val w' b l := by
  obtain ⟨D, h1, h2⟩ := h
  exact ⟨D, h1.kept hg hne, h2⟩
theorem HMap.on (h : HMap kt kl val w b l) (hb : Below w.heap.size w w') : HMap kt kl val w' b l := h.kept (grown_of_below hb none) (by simp)
theorem HMap.apart {g : Nat} {t : TypeId} {cs : List Value} (h : HMap kt kl val w b l) (hg : BlockIs w g t cs) : g ≠ b := by
  obtain ⟨D, ⟨es, clock, hb, _⟩, _⟩ := h
  intro e
  subst e
  unfold BlockIs at hg
  rw [hb] at hg
  cases hg
theorem HMap.far {g j : Nat} {t : TypeId} {cs : List Value} (h : HMap kt kl val w b l) (hg : BlockIs w g t cs) (v : Value) : HMap kt kl val (w.setCell ⟨g, j, none⟩ v) b l := by
  have hne := h.apart hg
  obtain ⟨D, h1, h2⟩ := h
  exact ⟨D, h1.setCell (fun e => hne e.symm) v, h2⟩
theorem HMap.made (kt : TypeId) (kl : α → Lit) (val : α → Value) (w : World) : HMap kt kl val (w.alloc (.map #[] 0)) w.heap.size [] :=
  ⟨.map [], World.ownsMap_made w _ _ _, fun k => ⟨fun h => (by simp [Maps.has] at h), fun q => (by obtain ⟨a, ha, _⟩ := q; cases ha)⟩, fun a ha => by cases ha⟩
theorem BlockIs.past {g : Nat} {t : TypeId} {cs : List Value} (hg : BlockIs w g t cs) (hm : HMap kt kl val w b l) (ht : w.mapTurned w' b) : BlockIs w' g t cs := by
  unfold BlockIs
  rw [ht.grown.block g hg.lt (by have := hm.apart hg; simpa using this)]
  exact hg
/-- 'v, there := m[x]', it is there -/
theorem HMap.look_yes (h : HMap kt kl val w b l) (K : Keyed Tryz.prog kt) {t e : TypeId} (ht : Tryz.prog.underlying t = some (.map kt e)) {z : Value} (hz : (zeroValue e).run Tryz.prog w = .ok z w) {key : Value} {a : α} (ha : a ∈ l) (hk : keyOf Tryz.prog kt key = some (kl a)) :
    (Instr.lookup t (.map (some b)) key true).run Tryz.prog w = .ok (.tuple #[val a, .bool true]) w := by
  obtain ⟨D, h1, h2, h3⟩ := h
  obtain ⟨v, ps, hrun, hv⟩ := h1.look_ok K ht hz (zd := .held z) (zp := []) rfl hk
  rw [(h2 _).2 ⟨a, ha, rfl⟩] at hrun
  rw [h3 a ha] at hv
  rw [heldR_inv hv] at hrun
  exact hrun
theorem HMap.look_no (h : HMap kt kl val w b l) (K : Keyed Tryz.prog kt) {t e : TypeId} (ht : Tryz.prog.underlying t = some (.map kt e)) {z : Value} (hz : (zeroValue e).run Tryz.prog w = .ok z w) {key : Value} {k : Lit} (hn : ∀ a ∈ l, kl a ≠ k) (hk : keyOf Tryz.prog kt key = some k) :
    (Instr.lookup t (.map (some b)) key true).run Tryz.prog w = .ok (.tuple #[z, .bool false]) w := by
  obtain ⟨D, h1, h2, h3⟩ := h
  obtain ⟨v, ps, hrun, hv⟩ := h1.look_ok K ht hz (zd := .held z) (zp := []) rfl hk
  have hno : Maps.has D k = false := by
    cases hh : Maps.has D k with
    | false => rfl
    | true => obtain ⟨a, ha, e⟩ := (h2 k).1 hh; exact absurd e (hn a ha)
  rw [hno] at hrun
  rw [Maps.atKey_of_not_has hno] at hv
  rw [heldR_inv hv] at hrun
  exact hrun
/-- 'm[x]', it is there -/
theorem HMap.get (h : HMap kt kl val w b l) (K : Keyed Tryz.prog kt) {t e : TypeId} (ht : Tryz.prog.underlying t = some (.map kt e)) {z : Value} (hz : (zeroValue e).run Tryz.prog w = .ok z w) {key : Value} {a : α} (ha : a ∈ l) (hk : keyOf Tryz.prog kt key = some (kl a)) :
    (Instr.lookup t (.map (some b)) key false).run Tryz.prog w = .ok (val a) w := by
  obtain ⟨D, h1, h2, h3⟩ := h
  obtain ⟨v, ps, hrun, hv⟩ := h1.lookup K ht hz (zd := .held z) (zp := []) rfl hk
  rw [h3 a ha] at hv
  rw [heldR_inv hv] at hrun
  exact hrun
theorem HMap.keys_nodup (h : HMap kt kl val w b l) (K : Keyed Tryz.prog kt) (hnd : (l.map kl).Nodup) : ∃ es : List (Lit × DataW Value), w.ownsMap Tryz.prog kt heldR b es.length (.map es) ∧ (l.map kl).Perm (es.map (·.1)) := by
  obtain ⟨D, h1, h2, h3⟩ := h
  obtain ⟨es, rfl, hp⟩ := h1.tidy K
  obtain ⟨es', he, hk⟩ := h1.keysOf
  cases he
  refine ⟨es, h1, (List.perm_ext_iff_of_nodup hnd (List.pairwise_map.2 hp)).2 fun k => ?_⟩
  have hq := h2 k
  rw [has_eq, List.any_eq_true] at hq
  rw [List.mem_map, List.mem_map, ← hq]
  constructor
  · rintro ⟨p, hp', hs⟩
    exact ⟨p, hp', WideAt.sameKey_eq hs⟩
  · rintro ⟨p, hp', rfl⟩
    obtain ⟨v, hv⟩ := hk p hp'
    exact ⟨p, hp', WideAt.sameKey_self (K.key hv)⟩
/-- 'len(m)' -/
theorem HMap.len (h : HMap kt kl val w b l) (K : Keyed Tryz.prog kt) (hnd : (l.map kl).Nodup) {t e : TypeId} (ht : Tryz.prog.underlying t = some (.map kt e)) (ty : TypeId) : (Builtin.len_ #[t] ty #[.map (some b)]).run Tryz.prog w = .ok (.int .i64 l.length) w := by
  obtain ⟨es, h1, hp⟩ := h.keys_nodup K hnd
  rw [h1.len ht ty]
  have := hp.length_eq
  rw [List.length_map, List.length_map] at this
  rw [this]
  rfl
/-- 'm[x] = v' -/
theorem HMap.put (h : HMap kt kl val w b l) (K : Keyed Tryz.prog kt) (hnd : (l.map kl).Nodup) (hN : l.length < maxLen) {t e : TypeId} (ht : Tryz.prog.underlying t = some (.map kt e)) {key : Value} {a : α} (hk : keyOf Tryz.prog kt key = some (kl a)) (hkl : WideAt.IsKeyLit (kl a)) :
    ∃ w', (Instr.mapUpdate t (.map (some b)) key (val a)).run Tryz.prog w = .ok () w' ∧ (∀ l', (∀ x, x ∈ l' ↔ x = a ∨ x ∈ l ∧ kl x ≠ kl a) → HMap kt kl val w' b l') ∧ w.mapTurned w' b := by
  obtain ⟨es, _, hp⟩ := h.keys_nodup K hnd
  have hsz : ∃ D : DataW Value, w.ownsMap Tryz.prog kt heldR b (Maps.size D) D ∧ Maps.size D < maxLen ∧ (∀ k, Maps.has D k = true ↔ ∃ a ∈ l, kl a = k) ∧ ∀ a ∈ l, ∀ z, D.atKey (kl a) z = .held (val a) := by
    have hl := h.len K hnd ht t
    obtain ⟨D, h1, h2, h3⟩ := h
    rw [h1.len ht t] at hl
    simp only [Result.ok.injEq, Value.int.injEq, true_and, and_true] at hl
    exact ⟨D, h1, by omega, h2, h3⟩
  obtain ⟨D, h1, hlt, h2, h3⟩ := hsz
  obtain ⟨w', hrun, ho, htn⟩ := h1.store K ht hlt hk (d := .held (val a)) (ps := []) rfl
  refine ⟨w', hrun, fun l' hl' => ⟨_, owns_tightH ho, fun k => ?_, fun x hx z => ?_⟩, htn⟩
  · by_cases e : k = kl a
    · subst e
      rw [Maps.has_put_same h1.isMap hkl]
      exact ⟨fun _ => ⟨a, (hl' a).2 (Or.inl rfl), rfl⟩, fun _ => rfl⟩
    · rw [Maps.has_put_other e, h2]
      constructor
      · rintro ⟨x, hx, q⟩
        exact ⟨x, (hl' x).2 (Or.inr ⟨hx, by rw [q]; exact e⟩), q⟩
      · rintro ⟨x, hx, q⟩
        rcases (hl' x).1 hx with rfl | ⟨hx, _⟩
        · exact absurd q.symm e
        · exact ⟨x, hx, q⟩
  · rcases (hl' x).1 hx with rfl | ⟨hx, hne⟩
    · exact Maps.atKey_put_same h1.isMap hkl _ _
    · rw [Maps.atKey_put_other hne]
      exact h3 x hx z
/-- 'delete(m, x)' -/
theorem HMap.del (h : HMap kt kl val w b l) (K : Keyed Tryz.prog kt) {t e : TypeId} (ht : Tryz.prog.underlying t = some (.map kt e)) {key : Value} {k : Lit} (hk : keyOf Tryz.prog kt key = some k) (ty : TypeId) :
    ∃ w', (Builtin.delete_ #[t, kt] ty #[.map (some b), key]).run Tryz.prog w = .ok (.tuple #[]) w' ∧ (∀ l', (∀ x, x ∈ l' ↔ x ∈ l ∧ kl x ≠ k) → HMap kt kl val w' b l') ∧ w.mapTurned w' b := by
  obtain ⟨D, h1, h2, h3⟩ := h
  obtain ⟨w', hrun, ho, htn⟩ := h1.drop K ht hk ty
  refine ⟨w', hrun, fun l' hl' => ⟨_, owns_tightH ho, fun k' => ?_, fun x hx z => ?_⟩, htn⟩
  · by_cases e : k' = k
    · subst e
      rw [Maps.has_del_same]
      exact ⟨fun q => (by cases q), fun ⟨x, hx, q⟩ => absurd q ((hl' x).1 hx).2⟩
    · rw [Maps.has_del_other e, h2]
      exact ⟨fun ⟨x, hx, q⟩ => ⟨x, (hl' x).2 ⟨hx, by rw [q]; exact e⟩, q⟩, fun ⟨x, hx, q⟩ => ⟨x, ((hl' x).1 hx).1, q⟩⟩
  · obtain ⟨hx, hne⟩ := (hl' x).1 hx
    rw [Maps.atKey_del_other hne]
    exact h3 x hx z
end
end Go.Proofs.YtohpkegbmhmjeaaGreatDoor

namespace Go.Proofs.YtohpkegbmhmjeaaGreatDoor
open Go.RowKit Go.Maps

def sesKl (s : SessionD) : Lit := .int .i64 s.token
def sesV (s : SessionD) : Value := .agg #[.int .i64 s.token, .int .i64 s.last, .string s.reply]
def itKl (e : ItemD) : Lit := .string e.key.data.toList
def itV (e : ItemD) : Value := .agg #[.string e.key, .string e.val, .int .i64 e.ver]
theorem sKeyed : Keyed Tryz.prog 3 := int_keyed Tryz.underlying3
theorem iKeyed : Keyed Tryz.prog 9 := string_keyed Tryz.underlying9
theorem sZero (w : World) : (zeroValue 36).run Tryz.prog w = .ok (.agg #[.int .i64 0, .int .i64 0, .string ⟨#[]⟩]) w := by kernel_rfl
theorem iZero (w : World) : (zeroValue 41).run Tryz.prog w = .ok (.agg #[.string ⟨#[]⟩, .string ⟨#[]⟩, .int .i64 0]) w := by kernel_rfl
theorem sKey {x : Int} (h0 : -9223372036854775808 ≤ x) (h1 : x ≤ 9223372036854775807) : keyOf Tryz.prog 3 (.int .i64 x) = some (.int .i64 x) := keyOf_int_mk Tryz.underlying3 (WalkArith.wf_i64 ⟨h0, h1⟩)
theorem iKey {s : ByteArray} (h : s.size ≤ maxLen) : keyOf Tryz.prog 9 (.string s) = some (.string s.data.toList) := WideMaps.keyOf_string_mk Tryz.underlying9 h
theorem sLit (x : Int) : WideAt.IsKeyLit (.int .i64 x) := by first | exact trivial | simp [WideAt.IsKeyLit]
theorem iLit (s : List UInt8) : WideAt.IsKeyLit (.string s) := by first | exact trivial | simp [WideAt.IsKeyLit]
theorem sKl_ne {a b : SessionD} : sesKl a ≠ sesKl b ↔ a.token ≠ b.token := by simp [sesKl]
theorem data_ext {a b : ByteArray} : a.data.toList = b.data.toList ↔ a = b := ⟨fun h => ByteArray.ext (Array.toList_inj.1 h), fun h => by rw [h]⟩
theorem itKl_eq {a : ItemD} {k : ByteArray} : itKl a = .string k.data.toList ↔ a.key = k := ⟨fun h => data_ext.1 (by simpa only [itKl, Lit.string.injEq] using h), fun h => by rw [itKl, h]⟩
theorem iKl_ne {a b : ItemD} : itKl a ≠ itKl b ↔ a.key ≠ b.key := not_congr itKl_eq
theorem sNodup {ls : List SessionD} (h : AscBy tokenLt ls) : (ls.map sesKl).Nodup := by
  rw [List.nodup_iff_pairwise_ne, List.pairwise_map]
  exact h.imp fun q => sKl_ne.2 (tokenLt_ne q)
theorem iNodup {li : List ItemD} (h : AscBy keyLt li) : (li.map itKl).Nodup := by
  rw [List.nodup_iff_pairwise_ne, List.pairwise_map]
  exact h.imp fun q => iKl_ne.2 (keyLt_ne q)

/-- the maps of a shelf -/
def ShelfAt (w : World) (b c : Nat) (ls : List SessionD) (li : List ItemD) : Prop := b ≠ c ∧ HMap 3 sesKl sesV w b ls ∧ HMap 9 itKl itV w c li
/-- all blocks of cells stand -/
def Past (w w' : World) : Prop := w.heap.size ≤ w'.heap.size ∧ ∀ g t cs, BlockIs w g t cs → BlockIs w' g t cs
theorem Past.refl (w : World) : Past w w := ⟨Nat.le_refl _, fun _ _ _ h => h⟩
theorem Past.trans {w w1 w2 : World} (h : Past w w1) (h2 : Past w1 w2) : Past w w2 := ⟨Nat.le_trans h.1 h2.1, fun _ _ _ q => h2.2 _ _ _ (h.2 _ _ _ q)⟩
theorem Past.below {w w1 : World} (h : Below w.heap.size w w1) : Past w w1 := ⟨h.size, fun _ _ _ q => q.on h q.lt⟩
theorem ShelfAt.on {w w' : World} {b c : Nat} {ls : List SessionD} {li : List ItemD} (h : ShelfAt w b c ls li) (hb : Below w.heap.size w w') : ShelfAt w' b c ls li := ⟨h.1, h.2.1.on hb, h.2.2.on hb⟩
theorem ShelfAt.far {w : World} {b c g j : Nat} {ls : List SessionD} {li : List ItemD} {t : TypeId} {cs : List Value} (h : ShelfAt w b c ls li) (hg : BlockIs w g t cs) (v : Value) : ShelfAt (w.setCell ⟨g, j, none⟩ v) b c ls li := ⟨h.1, h.2.1.far hg v, h.2.2.far hg v⟩
theorem ShelfAt.turnS {w w' : World} {b c : Nat} {ls ls' : List SessionD} {li : List ItemD} (h : ShelfAt w b c ls li) (ht : w.mapTurned w' b) (h' : HMap 3 sesKl sesV w' b ls') : ShelfAt w' b c ls' li ∧ Past w w' :=
  ⟨⟨h.1, h', h.2.2.kept ht.grown (by simpa using fun e => h.1 e.symm)⟩, ht.grown.size, fun _ _ _ q => q.past h.2.1 ht⟩
theorem ShelfAt.turnI {w w' : World} {b c : Nat} {ls : List SessionD} {li li' : List ItemD} (h : ShelfAt w b c ls li) (ht : w.mapTurned w' c) (h' : HMap 9 itKl itV w' c li') : ShelfAt w' b c ls li' ∧ Past w w' :=
  ⟨⟨h.1, h.2.1.kept ht.grown (by simpa using h.1), h'⟩, ht.grown.size, fun _ _ _ q => q.past h.2.2 ht⟩
theorem below_turn {w0 w w' : World} {b : Nat} (h : Below w0.heap.size w0 w) (ht : w.mapTurned w' b) (hb : w0.heap.size ≤ b) : Below w0.heap.size w0 w' := h.grown ht.grown h.size (fun k e => by cases e; exact hb)

/-- a session is put in -/
theorem ShelfAt.putS {w : World} {b c : Nat} {ls : List SessionD} {li : List ItemD} (h : ShelfAt w b c ls li) (ha : AscBy tokenLt ls) (hl : ls.length ≤ 8) (x : SessionD) (h0 : -9223372036854775808 ≤ x.token) (h1 : x.token ≤ 9223372036854775807) :
    ∃ w', (Instr.mapUpdate 62 (.map (some b)) (.int .i64 x.token) (sesV x)).run Tryz.prog w = .ok () w' ∧ ShelfAt w' b c (putIn tokenLt ls x) li ∧ Past w w' ∧ w.mapTurned w' b := by
  obtain ⟨w', e1, e2, e3⟩ := h.2.1.put sKeyed (sNodup ha) (by unfold maxLen; omega) Tryz.underlying62 (a := x) (sKey h0 h1) (sLit _)
  have h4 := h.turnS e3 (e2 (putIn tokenLt ls x) (fun y => by rw [mem_putS, sKl_ne]))
  exact ⟨w', e1, h4.1, h4.2, e3⟩
theorem ShelfAt.dropS {w : World} {b c : Nat} {ls ls' : List SessionD} {li : List ItemD} (h : ShelfAt w b c ls li) (t : Int) (h0 : -9223372036854775808 ≤ t) (h1 : t ≤ 9223372036854775807) (hm : ∀ x, x ∈ ls' ↔ x ∈ ls ∧ x.token ≠ t) (ty : TypeId) :
    ∃ w', (Builtin.delete_ #[62, 3] ty #[.map (some b), .int .i64 t]).run Tryz.prog w = .ok (.tuple #[]) w' ∧ ShelfAt w' b c ls' li ∧ Past w w' ∧ w.mapTurned w' b := by
  obtain ⟨w', e1, e2, e3⟩ := h.2.1.del sKeyed Tryz.underlying62 (sKey h0 h1) ty
  have h4 := h.turnS e3 (e2 ls' (fun y => by rw [hm]; simp [sesKl]))
  exact ⟨w', e1, h4.1, h4.2, e3⟩
/-- an item is put in -/
theorem ShelfAt.putI {w : World} {b c : Nat} {ls : List SessionD} {li : List ItemD} (h : ShelfAt w b c ls li) (ha : AscBy keyLt li) (hl : li.length ≤ 8) (x : ItemD) (h0 : x.key.size ≤ maxLen) :
    ∃ w', (Instr.mapUpdate 63 (.map (some c)) (.string x.key) (itV x)).run Tryz.prog w = .ok () w' ∧ ShelfAt w' b c ls (putIn keyLt li x) ∧ Past w w' ∧ w.mapTurned w' c := by
  obtain ⟨w', e1, e2, e3⟩ := h.2.2.put iKeyed (iNodup ha) (by unfold maxLen; omega) Tryz.underlying63 (a := x) (iKey h0) (iLit _)
  have h4 := h.turnI e3 (e2 (putIn keyLt li x) (fun y => by rw [mem_putK, iKl_ne]))
  exact ⟨w', e1, h4.1, h4.2, e3⟩
theorem ShelfAt.dropI {w : World} {b c : Nat} {ls : List SessionD} {li : List ItemD} (h : ShelfAt w b c ls li) (k : ByteArray) (h0 : k.size ≤ maxLen) (ty : TypeId) :
    ∃ w', (Builtin.delete_ #[63, 9] ty #[.map (some c), .string k]).run Tryz.prog w = .ok (.tuple #[]) w' ∧ ShelfAt w' b c ls (li.filter (fun e => !(e.key.toList == k.toList))) ∧ Past w w' ∧ w.mapTurned w' c := by
  obtain ⟨w', e1, e2, e3⟩ := h.2.2.del iKeyed Tryz.underlying63 (iKey h0) ty
  have h4 := h.turnI e3 (e2 (li.filter (fun e => !(e.key.toList == k.toList))) (fun y => by
    rw [List.mem_filter]
    have : itKl y ≠ .string k.data.toList ↔ y.key ≠ k := not_congr itKl_eq
    rw [this]
    simp only [Bool.not_eq_true', beq_eq_false_iff_ne, ne_eq]
    exact ⟨fun ⟨q1, q2⟩ => ⟨q1, fun e => q2 (by rw [e])⟩, fun ⟨q1, q2⟩ => ⟨q1, fun e => q2 (text_ext e)⟩⟩))
  exact ⟨w', e1, h4.1, h4.2, e3⟩
/-- a session is looked for -/
theorem ShelfAt.lookS {w : World} {b c : Nat} {ls : List SessionD} {li : List ItemD} (h : ShelfAt w b c ls li) {t : Int} (h0 : -9223372036854775808 ≤ t) (h1 : t ≤ 9223372036854775807) :
    (Instr.lookup 62 (.map (some b)) (.int .i64 t) true).run Tryz.prog w = .ok (.tuple #[match sessOf ls t with | some s => sesV s | none => .agg #[.int .i64 0, .int .i64 0, .string ⟨#[]⟩], .bool (sessOf ls t).isSome]) w := by
  cases hs : sessOf ls t with
  | none => exact h.2.1.look_no sKeyed Tryz.underlying62 (sZero w) (k := .int .i64 t) (fun a ha => by simpa [sesKl] using sessOf_none hs a ha) (sKey h0 h1)
  | some s =>
    obtain ⟨h2, rfl⟩ := sessOf_some hs
    exact h.2.1.look_yes sKeyed Tryz.underlying62 (sZero w) h2 (sKey h0 h1)
/-- an item is looked for -/
theorem ShelfAt.lookI {w : World} {b c : Nat} {ls : List SessionD} {li : List ItemD} (h : ShelfAt w b c ls li) {k : ByteArray} (h0 : k.size ≤ maxLen) :
    (Instr.lookup 63 (.map (some c)) (.string k) true).run Tryz.prog w = .ok (.tuple #[.agg #[.string (itemOf li k).1.key, .string (itemOf li k).1.val, .int .i64 (itemOf li k).1.ver], .bool (itemOf li k).2]) w := by
  cases hs : (itemOf li k).2 with
  | false =>
    have he : (itemOf li k).1 = ⟨⟨#[]⟩, ⟨#[]⟩, 0⟩ := by
      unfold itemOf at hs ⊢
      cases hf : li.find? (fun e => e.key.toList == k.toList) with
      | none => rfl
      | some e => rw [hf] at hs; cases hs
    rw [he]
    exact h.2.2.look_no iKeyed Tryz.underlying63 (iZero w) (k := .string k.data.toList) (fun a ha => (not_congr itKl_eq).2 (itemOf_false hs a ha)) (iKey h0)
  | true =>
    obtain ⟨h2, h3⟩ := itemOf_true hs
    have := h.2.2.look_yes iKeyed Tryz.underlying63 (iZero w) h2 (key := .string k) (by rw [itKl, h3]; exact iKey h0)
    exact this
theorem ShelfAt.lenS {w : World} {b c : Nat} {ls : List SessionD} {li : List ItemD} (h : ShelfAt w b c ls li) (ha : AscBy tokenLt ls) (ty : TypeId) : (Builtin.len_ #[62] ty #[.map (some b)]).run Tryz.prog w = .ok (.int .i64 ls.length) w := h.2.1.len sKeyed (sNodup ha) Tryz.underlying62 ty
theorem ShelfAt.lenI {w : World} {b c : Nat} {ls : List SessionD} {li : List ItemD} (h : ShelfAt w b c ls li) (ha : AscBy keyLt li) (ty : TypeId) : (Builtin.len_ #[63] ty #[.map (some c)]).run Tryz.prog w = .ok (.int .i64 li.length) w := h.2.2.len iKeyed (iNodup ha) Tryz.underlying63 ty
end Go.Proofs.YtohpkegbmhmjeaaGreatDoor

namespace Go.Proofs.YtohpkegbmhmjeaaGreatDoor
open Go.RowKit Go.Maps Go.Sort

theorem keysS {w : World} {b : Nat} {ls : List SessionD} (h : HMap 3 sesKl sesV w b ls) (ha : AscBy tokenLt ls) : ∃ D : DataW Value, w.ownsMap Tryz.prog 3 heldR b (Maps.size D) D ∧ Maps.size D = ls.length ∧ (ls.map (fun s => s.token)).Perm (intKeys D) := by
  have hlen := h.len sKeyed (sNodup ha) Tryz.underlying62 0
  obtain ⟨D, h1, h2, h3⟩ := h
  rw [h1.len Tryz.underlying62 0] at hlen
  simp only [Result.ok.injEq, Value.int.injEq, true_and, and_true] at hlen
  refine ⟨D, h1, by omega, ?_⟩
  obtain ⟨es, rfl, hp⟩ := h1.tidy sKeyed
  obtain ⟨es', he, hk⟩ := h1.keysOf
  cases he
  refine perm_intKeys hp (fun p hq => by obtain ⟨v, hv⟩ := hk p hq; obtain ⟨x, _, hx, _⟩ := Maps.keyOf_i64 Tryz.underlying3 hv; exact ⟨x, hx⟩) ?_ fun x => ?_
  · rw [List.nodup_iff_pairwise_ne, List.pairwise_map]
    exact ha.imp fun q => tokenLt_ne q
  · rw [h2, List.mem_map]
    constructor
    · rintro ⟨a, q, rfl⟩; exact ⟨a, q, rfl⟩
    · rintro ⟨a, q, e⟩; exact ⟨a, q, by simpa [sesKl] using e⟩
theorem keysI {w : World} {c : Nat} {li : List ItemD} (h : HMap 9 itKl itV w c li) (ha : AscBy keyLt li) : ∃ D : DataW Value, w.ownsMap Tryz.prog 9 heldR c (Maps.size D) D ∧ Maps.size D = li.length ∧ (li.map (fun e => e.key.data.toList)).Perm (strKeys D) := by
  have hlen := h.len iKeyed (iNodup ha) Tryz.underlying63 0
  obtain ⟨D, h1, h2, h3⟩ := h
  rw [h1.len Tryz.underlying63 0] at hlen
  simp only [Result.ok.injEq, Value.int.injEq, true_and, and_true] at hlen
  refine ⟨D, h1, by omega, ?_⟩
  obtain ⟨es, rfl, hp⟩ := h1.tidy iKeyed
  obtain ⟨es', he, hk⟩ := h1.keysOf
  cases he
  refine perm_strKeys hp (fun p hq => by obtain ⟨v, hv⟩ := hk p hq; obtain ⟨x, _, hx, _⟩ := Maps.keyOf_str Tryz.underlying9 hv; exact ⟨x, hx⟩) ?_ fun x => ?_
  · rw [List.nodup_iff_pairwise_ne, List.pairwise_map]
    exact ha.imp fun q e => keyLt_ne q (data_ext.1 e)
  · rw [h2, List.mem_map]
    constructor
    · rintro ⟨a, q, rfl⟩; exact ⟨a, q, rfl⟩
    · rintro ⟨a, q, e⟩; exact ⟨a, q, by simpa only [itKl, Lit.string.injEq] using e⟩
theorem tokens_sorted {ls : List SessionD} (h : AscBy tokenLt ls) : (ls.map (fun s => s.token)).mergeSort (fun x y => decide (x ≤ y)) = ls.map (fun s => s.token) := by
  refine List.mergeSort_of_pairwise ?_
  rw [List.pairwise_map]
  refine h.imp fun {a b} q => ?_
  simp only [tokenLt, decide_eq_true_eq] at q ⊢
  omega
theorem keys_sorted {li : List ItemD} (h : AscBy keyLt li) : (li.map (fun e => e.key.data.toList)).mergeSort (fun x y => decide (x ≤ y)) = li.map (fun e => e.key.data.toList) := by
  refine List.mergeSort_of_pairwise ?_
  rw [List.pairwise_map]
  refine h.imp fun {a b} q => ?_
  rw [keyLt, bytesLess_lt, ByteArray.toList_eq, ByteArray.toList_eq] at q
  simpa using List.le_of_lt q
/-- the least of numbers -/
theorem minOf_mem : ∀ (zs : List Int), zs ≠ [] → Lib.minOf zs ∈ zs ∧ ∀ x ∈ zs, Lib.minOf zs ≤ x := by
  have key : ∀ (zs : List Int) (k : Nat), 0 < k → k ≤ zs.length → Lib.minOf (zs.take k) ∈ zs.take k ∧ ∀ x ∈ zs.take k, Lib.minOf (zs.take k) ≤ x := by
    intro zs k
    induction k with
    | zero => intro h; omega
    | succ k ih =>
      intro _ hk
      rcases Nat.eq_zero_or_pos k with rfl | hk0
      · match zs, hk with
        | z :: zs, _ =>
          have h1 : (z :: zs).take 1 = [z] := rfl
          have h2 := Lib.minOf_one (z :: zs)
          rw [h1] at h2 ⊢
          rw [h2]
          simp
      · obtain ⟨i1, i2⟩ := ih hk0 (by omega)
        have hg : zs.getD k 0 = zs[k]'(by omega) := by simp [List.getD, show k < zs.length by omega]
        have e := List.take_succ_eq_append_getElem (show k < zs.length by omega)
        rw [Lib.minOf_step zs k hk0 (by omega), hg, e]
        constructor
        · rcases Int.le_total (Lib.minOf (zs.take k)) (zs[k]'(by omega)) with q | q
          · rw [Int.min_eq_left q]; exact List.mem_append_left _ i1
          · rw [Int.min_eq_right q]; exact List.mem_append_right _ (List.mem_singleton.2 rfl)
        · intro x hx
          rcases List.mem_append.1 hx with hx | hx
          · exact Int.le_trans (Int.min_le_left _ _) (i2 x hx)
          · rw [List.mem_singleton] at hx; rw [hx]; exact Int.min_le_right _ _
  intro zs hne
  have h := key zs zs.length (List.length_pos_iff.2 hne) (Nat.le_refl _)
  rw [List.take_length] at h
  exact h
theorem min_head {ss : List Int} {ls : List SessionD} {s : SessionD} (h : AscBy tokenLt (s :: ls)) (hp : ss.Perm ((s :: ls).map (fun e => e.token))) : Lib.minOf ss = s.token := by
  have hne : ss ≠ [] := by
    intro e
    have := hp.length_eq
    rw [e] at this
    simp at this
  obtain ⟨h1, h2⟩ := minOf_mem ss hne
  have h3 := h2 s.token (hp.mem_iff.2 (by simp))
  have h4 := hp.mem_iff.1 h1
  rw [List.map_cons, List.mem_cons] at h4
  rcases h4 with q | q
  · exact q
  · obtain ⟨a, ha, e⟩ := List.mem_map.1 q
    have := (List.pairwise_cons.1 h).1 a ha
    simp only [tokenLt, decide_eq_true_eq] at this
    omega
theorem own_ofK {w : World} {base size n : Nat} {t : TypeId} {va : Option Addr} {vc : Nat} {cs : List Value} (h : w.ownsRow base t size (.slice va n vc) n cs) : OwnAt w t cs n va base w.heap.size := by
  rcases Nat.eq_zero_or_pos n with q | q
  · exact Or.inl q
  · obtain ⟨g, r, e, hb, hk⟩ := row_blockK q h
    exact Or.inr ⟨g, r, e, hb, hk.lt, hk⟩
theorem HMap.grownRow {α : Type} {kt : TypeId} {kl : α → Lit} {val : α → Value} {w w1 : World} {b base size n : Nat} {l : List α} {t : TypeId} {v : Value} {xs : List Value} (h : HMap kt kl val w b l) (hr : w.ownsRow base t size v n xs) (hg : w.grownBy w1 v.ownBlock) : HMap kt kl val w1 b l := by
  refine h.kept hg fun e => ?_
  obtain ⟨cs, hb, _⟩ := row_block hr e.symm
  exact h.apart hb rfl
theorem OwnAt.grownRow {w w1 : World} {t t' : TypeId} {cs xs : List Value} {n m : Nat} {va : Option Addr} {lo hi base size : Nat} {v : Value} (h : OwnAt w t cs n va lo hi) (hr : w.ownsRow base t' size v m xs) (hg : w.grownBy w1 v.ownBlock) (ht : t ≠ t') : OwnAt w1 t cs n va lo hi :=
  h.imp id fun ⟨g, r, a, b, c, d⟩ => ⟨g, r, a, b, c, block_grown d hr hg ht⟩
theorem own_cell {w : World} {t : TypeId} {cs : List Value} {n : Nat} {va : Option Addr} {lo hi k : Nat} {u : Value} (h : OwnAt w t cs n va lo hi) (hn : 0 < n) (hk : cs[k]? = some u) : ∃ g, va = some ⟨g, 0, none⟩ ∧ w.cell? ⟨g, k, none⟩ = some u := by
  rcases h with h | ⟨g, r, e, _, _, hb⟩
  · omega
  · exact ⟨g, e, hb.cell (by rw [List.getElem?_append_left (List.getElem?_eq_some_iff.1 hk).1]; exact hk)⟩
/-- numbers in a row of the call's own -/
theorem row_ints {w : World} {base : Nat} {v : Value} {zs : List Int} (h : w.ownsRow base 3 1 v zs.length (zs.map encZ)) (hne : zs ≠ []) : ∃ g vc, v = .slice (some ⟨g, 0, none⟩) zs.length vc ∧ ∀ j (hj : j < zs.length), w.cell? ⟨g, j, none⟩ = some (.int .i64 zs[j]) := by
  obtain ⟨va, vc, rfl⟩ := row_shape h
  obtain ⟨g, r, rfl, _, hb⟩ := row_blockK (List.length_pos_iff.2 hne) h
  refine ⟨g, vc, rfl, fun j hj => hb.cell ?_⟩
  rw [List.getElem?_append_left (by simpa using hj)]
  simp [hj]
theorem row_texts {w : World} {base : Nat} {v : Value} {li : List ItemD} (h : w.ownsRow base 9 1 v li.length ((li.map (fun e => e.key.data.toList)).map encStr)) (hne : li ≠ []) : ∃ g vc, v = .slice (some ⟨g, 0, none⟩) li.length vc ∧ ∀ j (hj : j < li.length), w.cell? ⟨g, j, none⟩ = some (.string li[j].key) := by
  obtain ⟨va, vc, rfl⟩ := row_shape h
  obtain ⟨g, r, rfl, _, hb⟩ := row_blockK (List.length_pos_iff.2 hne) h
  refine ⟨g, vc, rfl, fun j hj => hb.cell ?_⟩
  rw [List.getElem?_append_left (by simpa using hj)]
  simp [hj, encStr]
end Go.Proofs.YtohpkegbmhmjeaaGreatDoor

namespace Go.Proofs
open Go.RowKit Go.Maps Go.Sort Go.Shelf

shelf_lay_g SlLaysZI.n7 Ggz 7 at Tryz 69 as Tryz.keys69
theorem Tryz.maps_Keys_69 (mb : Option Nat) (W : World) : CallsIn Fence.wide 5 Tryz.prog 69 #[.map mb] W fun e w' => e = .returned (.func (.func 87) #[] #[.pointer (some ⟨W.heap.size, 0, none⟩)]) ∧ w' = W.alloc (.cells #[.map mb] 62) :=
  AnyZI.keys_in Tryz.keys69 Fence.wide 5 trivial rfl mb W
shelf_lay_g SlLaysZI.n6 Ggz 6 at Tryz 72 as Tryz.sorted72
shelf_lay_g SlLaysM.n5 Slgm 5 at Tryz 90 as Tryz.sort90
theorem Tryz.sorts72 (m : Nat) : AnyZI.SortsIn Tryz.prog Tryz.sorted72_ren Fence.wide m :=
  ⟨fun blk off cap ss W hH hblk hsz => callsIn_wide.2 (AnyM.slices_Sort_int Tryz.sort90 blk off cap ss W hH hblk hsz),
   fun p cap W => callsIn_wide.2 (AnyM.slices_Sort_int_none Tryz.sort90 p cap W)⟩
set_option maxHeartbeats 1000000 in
theorem Tryz.slices_Sorted_keys_72_69 {H : Type} (b nn : Nat) (D0 : DataW H) (R : Value → Option (DataW H × List MemPlace)) (w : World) (hown : w.ownsMap Tryz.prog 3 R b nn D0) (hmax : Maps.size D0 ≤ maxLen) (hbytes : Maps.size D0 * 8 ≤ 140737488355328) :
    CallsIn Fence.wide 5 Tryz.prog 72 #[.func (.func 87) #[] #[.pointer (some ⟨w.heap.size, 0, none⟩)]] (w.alloc (.cells #[.map (some b)] 62)) fun e w' => ∃ (v : Value) (ss : List Int), e = .returned v ∧ ss.Perm (intKeys D0) ∧
      w'.ownsRow (w.alloc (.cells #[.map (some b)] 62)).heap.size 3 1 v ss.length ((ss.mergeSort (fun x y => decide (x ≤ y))).map encZ) ∧ (v = .slice none 0 0 ↔ ss = []) ∧ Below (w.alloc (.cells #[.map (some b)] 62)).heap.size (w.alloc (.cells #[.map (some b)] 62)) w' := by
  have hbl := hown.lt
  have hseq : SeqGives Fence.wide 2 Tryz.prog 87 #[.pointer (some ⟨w.heap.size, 0, none⟩)] encZ (fun ss => ss.Perm (intKeys D0)) (Maps.size D0) (w.alloc (.cells #[.map (some b)] 62)) :=
    AnyZI.keys_gives (ρ := Tryz.keys69_ren) { Tryz.keys69 with } Fence.wide _ trivial rfl (by omega) w.heap.size b nn D0 _ (by simp) (by simp) (by
      obtain ⟨es, clock, hb, Ft, hs, hD⟩ := hown
      exact ⟨es, clock, (Below.heap_alloc _ _ b hbl).trans hb, Ft, hs, hD⟩)
  exact AnyZI.sorted_in Tryz.sorted72 Fence.wide 5 trivial trivial trivial trivial rfl (by omega) (Tryz.sorts72 _) (enters_of Tryz.func90 (by kernel_rfl) rfl) 87 #[.pointer (some ⟨w.heap.size, 0, none⟩)] trivial (enters_of Tryz.func87 (by kernel_rfl) rfl) _ _ hmax hbytes _ hseq
shelf_lay_g SlLaysZI.n8 Ggz 8 at Tryz 68 as Tryz.collect68
set_option maxHeartbeats 1000000 in
theorem Tryz.slices_Collect_keys_68_69 {H : Type} (b nn : Nat) (D0 : DataW H) (R : Value → Option (DataW H × List MemPlace)) (w : World) (hown : w.ownsMap Tryz.prog 3 R b nn D0) (hmax : Maps.size D0 ≤ maxLen) (hbytes : Maps.size D0 * 8 ≤ 140737488355328) :
    CallsIn Fence.wide 5 Tryz.prog 68 #[.func (.func 87) #[] #[.pointer (some ⟨w.heap.size, 0, none⟩)]] (w.alloc (.cells #[.map (some b)] 62)) fun e w' => ∃ (v : Value) (ss : List Int), e = .returned v ∧ ss.Perm (intKeys D0) ∧
      w'.ownsRow (w.alloc (.cells #[.map (some b)] 62)).heap.size 3 1 v ss.length (ss.map encZ) ∧ (v = .slice none 0 0 ↔ ss = []) ∧ Below (w.alloc (.cells #[.map (some b)] 62)).heap.size (w.alloc (.cells #[.map (some b)] 62)) w' := by
  have hbl := hown.lt
  have hseq : SeqGives Fence.wide 3 Tryz.prog 87 #[.pointer (some ⟨w.heap.size, 0, none⟩)] encZ (fun ss => ss.Perm (intKeys D0)) (Maps.size D0) (w.alloc (.cells #[.map (some b)] 62)) :=
    AnyZI.keys_gives (ρ := Tryz.keys69_ren) { Tryz.keys69 with } Fence.wide _ trivial rfl (by omega) w.heap.size b nn D0 _ (by simp) (by simp) (by
      obtain ⟨es, clock, hb, Ft, hs, hD⟩ := hown
      exact ⟨es, clock, (Below.heap_alloc _ _ b hbl).trans hb, Ft, hs, hD⟩)
  exact AnyZI.collect_in Tryz.collect68 Fence.wide 5 trivial trivial rfl (by omega) 87 #[.pointer (some ⟨w.heap.size, 0, none⟩)] trivial (enters_of Tryz.func87 (by kernel_rfl) rfl) _ _ hmax hbytes _ hseq
shelf_lay_g SlLaysN.n39 Slgn 39 at Tryz 67 as Tryz.min67
end Go.Proofs

namespace Go.Proofs.YtohpkegbmhmjeaaGreatDoor
open Go.RowKit Go.Sort

theorem command_other {x : CommandD} {t q : Int} (h : commandOk x = true) (hop : x.op ≠ 1) (ht : 0 ≤ t ∧ t ≤ 1000000) (hq : 0 ≤ q ∧ q ≤ 1000000) : commandOk ⟨x.op, t, q, x.key, x.val, x.ver⟩ = true := by
  simp only [commandOk, within, Bool.and_eq_true, decide_eq_true_eq] at h ⊢
  rw [if_neg hop] at h ⊢
  exact ⟨ht, hq, h.2.2⟩
theorem may_do {ls : List SessionD} {li : List ItemD} {index : Int} {x : CommandD} (hk : keepOk ls li = true) (hi : 1 ≤ index ∧ index ≤ 400000) (hx : commandOk x = true) : mayDo ls li index x = true := by
  simp only [mayDo, within, hk, hx, Bool.true_and, Bool.and_true, Bool.and_eq_true, decide_eq_true_eq]
  omega
theorem may_not {ls : List SessionD} {li : List ItemD} {index : Int} {x : CommandD} (hx : commandOk x = false) : (performD ls li index x).ok = false := by
  rw [performD, if_neg (by simp [mayDo, hx])]
/-- of a Token that is none -/
theorem talk_none {ls : List SessionD} {li : List ItemD} {index t : Int} {x : CommandD} (hk : keepOk ls li = true) (hi : 1 ≤ index ∧ index ≤ 400000) (hx : commandOk x = true) (hop : x.op ≠ 1) (ht : 0 ≤ t ∧ t ≤ 1000000) (hn : ∀ s ∈ ls, s.token ≠ t) :
    performD ls li index ⟨x.op, t, x.seq, x.key, x.val, x.ver⟩ = ⟨ls, li, txt [110, 111, 110, 101], true⟩ := by
  rw [performD, if_pos (may_do hk hi (command_other hx hop ht (command_ops hx).2.2)), doneD, if_neg hop]
  have : sessOf ls t = none := by
    cases h : sessOf ls t with
    | none => rfl
    | some s => exact absurd (sessOf_some h).2 (hn s (sessOf_some h).1)
  simp only [this]
/-- what one command leaves: nothing is changed, or its session's Last went on by one -/
theorem talk_did {ls : List SessionD} {li : List ItemD} {index : Int} {x : CommandD} (hk : keepOk ls li = true) (hi : 1 ≤ index ∧ index ≤ 400000) (hx : commandOk x = true) (hop : x.op ≠ 1) :
    ((performD ls li index x).ss = ls ∧ (performD ls li index x).is = li) ∨
    ∃ p, ∃ hp : p < ls.length, ls[p].token = x.token ∧ x.seq = ls[p].last + 1 ∧ (performD ls li index x).ss = ls.set p ⟨x.token, x.seq, (performD ls li index x).reply⟩ := by
  have hm := may_do hk hi hx
  obtain ⟨⟨ha, hsf, hl3⟩, _⟩ := keep_facts hk
  rw [performD, if_pos hm, doneD, if_neg hop]
  cases hs : sessOf ls x.token with
  | none => exact Or.inl ⟨rfl, rfl⟩
  | some s =>
    obtain ⟨hsm, hst⟩ := sessOf_some hs
    obtain ⟨p, hp, rfl⟩ := List.getElem_of_mem hsm
    have key : (∃ r, askD ls li index x ls[p] = ⟨ls, li, r, true⟩) ∨ (x.seq = ls[p].last + 1 ∧ ∃ r i, askD ls li index x ls[p] = ⟨putIn tokenLt ls ⟨x.token, x.seq, r⟩, i, r, true⟩) := by
      unfold askD
      split
      · exact Or.inl ⟨_, rfl⟩
      split
      · exact Or.inl ⟨_, rfl⟩
      split
      · exact Or.inl ⟨_, rfl⟩
      · exact Or.inr ⟨by omega, _, _, rfl⟩
    rcases key with ⟨r, h⟩ | ⟨hq, r, i, h⟩
    · dsimp only
      rw [h]
      exact Or.inl ⟨rfl, rfl⟩
    · dsimp only
      rw [h]
      exact Or.inr ⟨p, hp, hst, hq, (set_putIn ha hp hst.symm).symm⟩
/-- asked again; with a gap -/
theorem talk_again {ls ms : List SessionD} {mi : List ItemD} {index : Int} {x : CommandD} {p : Nat} {r : ByteArray} (hk : keepOk ms mi = true) (hi : 1 ≤ index ∧ index ≤ 400000) (hx : commandOk x = true) (hop : x.op ≠ 1) (hp : p < ls.length) (hl : 0 ≤ ls[p].last ∧ ls[p].last ≤ 999) (hq : x.seq = ls[p].last + 1) (hm : ms = ls.set p ⟨x.token, x.seq, r⟩) :
    performD ms mi index x = ⟨ms, mi, r, true⟩ ∧ performD ms mi index ⟨x.op, x.token, x.seq + 9, x.key, x.val, x.ver⟩ = ⟨ms, mi, txt [103, 97, 112], true⟩ := by
  obtain ⟨⟨ha, hsf, hl3⟩, _⟩ := keep_facts hk
  have hpm : p < ms.length := by rw [hm, List.length_set]; exact hp
  have hg : ms[p] = ⟨x.token, x.seq, r⟩ := by
    simp [hm]
  have hs : sessOf ms x.token = some ⟨x.token, x.seq, r⟩ := by
    rw [← hg]
    exact sessOf_at ha hpm (by rw [hg])
  constructor
  · rw [performD, if_pos (may_do hk hi hx), doneD, if_neg hop]
    simp only [hs]
    rw [askD, if_neg (by show ¬ (x.seq = 0 ∨ x.seq < x.seq); omega), if_pos rfl]
  · rw [performD, if_pos (may_do hk hi (command_other hx hop (command_ops hx).2.1 (by omega))), doneD, if_neg hop]
    simp only [hs]
    rw [askD, if_neg (by show ¬ (x.seq + 9 = 0 ∨ x.seq + 9 < x.seq); omega), if_neg (by show ¬ x.seq + 9 = x.seq; omega), if_pos (by show x.seq + 9 > x.seq + 1; omega)]
end Go.Proofs.YtohpkegbmhmjeaaGreatDoor

namespace Go.Proofs.YtohpkegbmhmjeaaGreatDoor
open Go.RowKit Go.Sort

theorem item_at {li : List ItemD} (ha : AscBy keyLt li) {e : ItemD} (he : e ∈ li) : itemOf li e.key = (e, true) := by
  cases h : (itemOf li e.key).2 with
  | false =>
    exfalso
    unfold itemOf at h
    cases hf : li.find? (fun x => x.key.toList == e.key.toList) with
    | none =>
      have := List.find?_eq_none.1 hf e he
      simp at this
    | some y => rw [hf] at h; cases h
  | true =>
    obtain ⟨h1, h2⟩ := itemOf_true h
    have : (itemOf li e.key).1 = e := by
      obtain ⟨i, hi, e1⟩ := List.getElem_of_mem h1
      obtain ⟨j, hj, e2⟩ := List.getElem_of_mem he
      rcases Nat.lt_trichotomy i j with q | q | q
      · have := keyLt_ne (List.pairwise_iff_getElem.1 ha i j hi hj q)
        rw [e1, e2] at this
        exact absurd h2 this
      · subst q
        rw [← e1, ← e2]
      · have := keyLt_ne (List.pairwise_iff_getElem.1 ha j i hj hi q)
        rw [e1, e2] at this
        exact absurd h2.symm this
    exact Prod.ext this h
theorem item_none {li : List ItemD} {k : ByteArray} (h : ∀ e ∈ li, e.key ≠ k) : (itemOf li k).2 = false := by
  cases q : (itemOf li k).2 with
  | false => rfl
  | true =>
    obtain ⟨h1, h2⟩ := itemOf_true q
    exact absurd h2 (h _ h1)
/-- one command of a session that is there, its next number -/
theorem next_did {ls : List SessionD} {li : List ItemD} {index : Int} {x : CommandD} {p : Nat} (hk : keepOk ls li = true) (hi : 1 ≤ index ∧ index ≤ 400000) (hx : commandOk x = true) (hop : x.op ≠ 1) (hp : p < ls.length) (ht : ls[p].token = x.token) (hq : x.seq = ls[p].last + 1) (hl : 0 ≤ ls[p].last) :
    performD ls li index x = ⟨ls.set p ⟨x.token, x.seq, (doD li index x).2⟩, (doD li index x).1, (doD li index x).2, true⟩ ∧
      keepOk (ls.set p ⟨x.token, x.seq, (doD li index x).2⟩) (doD li index x).1 = true := by
  have hm := may_do hk hi hx
  obtain ⟨⟨ha, hsf, hl3⟩, _⟩ := keep_facts hk
  have e : doneD ls li index x = ⟨ls.set p ⟨x.token, x.seq, (doD li index x).2⟩, (doD li index x).1, (doD li index x).2, true⟩ := by
    rw [doneD, if_neg hop]
    simp only [sessOf_at ha hp ht]
    rw [askD, if_neg (by omega), if_neg (by omega), if_neg (by omega), set_putIn ha hp (show x.token = ls[p].token from ht.symm)]
  have hd := (done_right hm).1
  rw [e] at hd
  exact ⟨by rw [performD, if_pos hm, e], hd⟩
theorem dec70 : decT 70 = ⟨#[55, 48]⟩ := by rfl
theorem dec73 : decT 73 = ⟨#[55, 51]⟩ := by rfl
theorem cmd_of {op t q : Int} {key val : ByteArray} {ver : Int} (ht : 0 ≤ t ∧ t ≤ 1000000) (hq : 0 ≤ q ∧ q ≤ 1000000) (hk : 1 ≤ key.size ∧ key.size ≤ 8) (h : (op = 2 ∧ val.size ≤ 20 ∧ ver = 0) ∨ (op = 5 ∧ val.size ≤ 20 ∧ 1 ≤ ver ∧ ver ≤ 1000000000) ∨ ((op = 3 ∨ op = 4) ∧ val.size = 0 ∧ ver = 0)) : commandOk ⟨op, t, q, key, val, ver⟩ = true := by
  simp only [commandOk, within, Bool.and_eq_true, decide_eq_true_eq]
  rcases h with ⟨rfl, h1, h2⟩ | ⟨rfl, h1, h2⟩ | ⟨rfl | rfl, h1, h2⟩
  · simp only [show ¬ (2 : Int) = 1 by decide, if_false, if_true, Bool.and_eq_true, decide_eq_true_eq]
    omega
  · simp only [show ¬ (5 : Int) = 1 by decide, show ¬ (5 : Int) = 2 by decide, if_false, if_true, Bool.and_eq_true, decide_eq_true_eq]
    omega
  · simp only [show ¬ (3 : Int) = 1 by decide, show ¬ (3 : Int) = 2 by decide, show ¬ (3 : Int) = 5 by decide, if_false, Bool.and_eq_true, decide_eq_true_eq]
    omega
  · simp only [show ¬ (4 : Int) = 1 by decide, show ¬ (4 : Int) = 2 by decide, show ¬ (4 : Int) = 5 by decide, if_false, Bool.and_eq_true, decide_eq_true_eq]
    omega

def valT : ByteArray := ⟨#[118, 97, 108]⟩
def xT : ByteArray := ⟨#[120]⟩
def yT : ByteArray := ⟨#[121]⟩
/-- all that is asked one behind the other -/
theorem put_get {ls : List SessionD} {li : List ItemD} {p : Nat} {t L : Int} {key : ByteArray} (hk : keepOk ls li = true) (hp : p < ls.length) (ht : ls[p].token = t) (hL : ls[p].last = L) (hLb : 0 ≤ L ∧ L ≤ 1000) (htb : 0 ≤ t ∧ t ≤ 1000000) (hkey : 1 ≤ key.size ∧ key.size ≤ 8) :
    (∃ s1 : List SessionD, performD ls li 70 ⟨2, t, L + 1, key, valT, 0⟩ = ⟨s1, li, ⟨#[102, 117, 108, 108]⟩, true⟩ ∧ s1.length = ls.length ∧ li.length = 8 ∧ (itemOf li key).2 = false) ∨
    ∃ s1 i1 s2 s3 s4 i4 s5 i5, performD ls li 70 ⟨2, t, L + 1, key, valT, 0⟩ = ⟨s1, i1, ⟨#[112, 117, 116, 32, 55, 48]⟩, true⟩ ∧
      performD s1 i1 71 ⟨3, t, L + 2, key, ⟨#[]⟩, 0⟩ = ⟨s2, i1, ⟨#[105, 115, 32, 55, 48, 32, 118, 97, 108]⟩, true⟩ ∧
      performD s2 i1 72 ⟨5, t, L + 3, key, xT, 69⟩ = ⟨s3, i1, ⟨#[110, 111, 116, 32, 55, 48]⟩, true⟩ ∧
      performD s3 i1 73 ⟨5, t, L + 4, key, yT, 70⟩ = ⟨s4, i4, ⟨#[112, 117, 116, 32, 55, 51]⟩, true⟩ ∧
      performD s4 i4 74 ⟨4, t, L + 5, key, ⟨#[]⟩, 0⟩ = ⟨s5, i5, ⟨#[100, 114, 111, 112]⟩, true⟩ ∧
      (itemOf i4 key = (⟨key, yT, 73⟩, true) ∧ (itemOf i5 key).2 = false ∧ ∀ e ∈ li, e.key ≠ key → itemOf i5 e.key = (e, true)) ∧
      ((s1.length = ls.length ∧ s2.length = ls.length ∧ s3.length = ls.length ∧ s4.length = ls.length ∧ s5.length = ls.length) ∧ keepOk s1 i1 = true ∧ keepOk s4 i4 = true ∧ keepOk s5 i5 = true) := by
  have v0 : valT.size = 3 := rfl
  have v1 : xT.size = 1 := rfl
  have v2 : yT.size = 1 := rfl
  have v3 : (⟨#[]⟩ : ByteArray).size = 0 := rfl
  have c1 : commandOk ⟨2, t, L + 1, key, valT, 0⟩ = true := cmd_of htb (by omega) hkey (Or.inl ⟨rfl, by omega, rfl⟩)
  have c2 : commandOk ⟨3, t, L + 2, key, ⟨#[]⟩, 0⟩ = true := cmd_of htb (by omega) hkey (Or.inr (Or.inr ⟨Or.inl rfl, v3, rfl⟩))
  have c3 : commandOk ⟨5, t, L + 3, key, xT, 69⟩ = true := cmd_of htb (by omega) hkey (Or.inr (Or.inl ⟨rfl, by omega, by decide, by decide⟩))
  have c4 : commandOk ⟨5, t, L + 4, key, yT, 70⟩ = true := cmd_of htb (by omega) hkey (Or.inr (Or.inl ⟨rfl, by omega, by decide, by decide⟩))
  have c5 : commandOk ⟨4, t, L + 5, key, ⟨#[]⟩, 0⟩ = true := cmd_of htb (by omega) hkey (Or.inr (Or.inr ⟨Or.inr rfl, v3, rfl⟩))
  obtain ⟨_, hai, hif, hl8⟩ := keep_facts hk
  have d1 := next_did (index := 70) hk (by decide) c1 (by show (2 : Int) ≠ 1; decide) hp ht (by show L + 1 = _; omega) (by omega)
  have e1 : doD li 70 ⟨2, t, L + 1, key, valT, 0⟩ = putD li 70 ⟨2, t, L + 1, key, valT, 0⟩ := if_pos rfl
  rw [e1] at d1
  by_cases hf : (putIn keyLt li ⟨key, valT, 70⟩).length > 8
  · left
    have e2 : putD li 70 ⟨2, t, L + 1, key, valT, 0⟩ = (li, txt [102, 117, 108, 108]) := if_pos hf
    rw [e2] at d1
    have hlen := putK_len hai ⟨key, valT, 70⟩
    refine ⟨_, d1.1, by rw [List.length_set], ?_, ?_⟩
    · split at hlen <;> omega
    · cases q : (itemOf li key).2 with
      | false => rfl
      | true =>
        rw [if_pos q] at hlen
        omega
  right
  have e2 : putD li 70 ⟨2, t, L + 1, key, valT, 0⟩ = (putIn keyLt li ⟨key, valT, 70⟩, txt [112, 117, 116, 32] ++ decT 70) := if_neg hf
  rw [e2, dec70] at d1
  obtain ⟨p1, k1⟩ := d1
  obtain ⟨i1, hi1⟩ : ∃ i, putIn keyLt li ⟨key, valT, 70⟩ = i := ⟨_, rfl⟩
  have m1 : ∀ e, e ∈ i1 ↔ e = ⟨key, valT, 70⟩ ∨ e ∈ li ∧ e.key ≠ key := by
    intro e
    rw [← hi1]
    exact mem_putK
  rw [hi1] at p1 k1 hf
  obtain ⟨s1, hs1⟩ : ∃ s, ls.set p ⟨t, L + 1, (txt [112, 117, 116, 32] ++ (⟨#[55, 48]⟩ : ByteArray))⟩ = s := ⟨_, rfl⟩
  have p1 : performD ls li 70 ⟨2, t, L + 1, key, valT, 0⟩ = ⟨s1, i1, ⟨#[112, 117, 116, 32, 55, 48]⟩, true⟩ := by rw [← hs1]; exact p1
  have k1 : keepOk s1 i1 = true := by rw [← hs1]; exact k1
  have hp1 : p < s1.length := by rw [← hs1, List.length_set]; exact hp
  have g1 : s1[p].token = t ∧ s1[p].last = L + 1 := by simp [← hs1]
  have n1 : s1.length = ls.length := by rw [← hs1, List.length_set]
  obtain ⟨_, ha1, hf1, hl1⟩ := keep_facts k1
  have it1 : itemOf i1 key = (⟨key, valT, 70⟩, true) := item_at ha1 (e := ⟨key, valT, 70⟩) ((m1 _).2 (Or.inl rfl))
  clear hi1 hs1
  -- got
  have d2 := next_did (index := 71) k1 (by decide) c2 (by show (3 : Int) ≠ 1; decide) hp1 g1.1 (by show L + 2 = _; omega) (by omega)
  have e3 : doD i1 71 ⟨3, t, L + 2, key, ⟨#[]⟩, 0⟩ = (i1, ⟨#[105, 115, 32, 55, 48, 32, 118, 97, 108]⟩) := by
    show (if (3 : Int) = 2 then _ else if (itemOf i1 key).2 = false then _ else if (3 : Int) = 3 then (i1, txt [105, 115, 32] ++ decT (itemOf i1 key).1.ver ++ txt [32] ++ (itemOf i1 key).1.val) else _) = _
    rw [if_neg (by decide), it1, if_neg (show ¬ true = false by decide), if_pos rfl]
    show (i1, txt [105, 115, 32] ++ decT 70 ++ txt [32] ++ valT) = _
    rw [dec70]
    rfl
  rw [e3] at d2
  obtain ⟨p2, k2⟩ := d2
  obtain ⟨s2, hs2⟩ : ∃ s, s1.set p ⟨t, L + 2, (⟨#[105, 115, 32, 55, 48, 32, 118, 97, 108]⟩ : ByteArray)⟩ = s := ⟨_, rfl⟩
  have p2 : performD s1 i1 71 ⟨3, t, L + 2, key, ⟨#[]⟩, 0⟩ = ⟨s2, i1, ⟨#[105, 115, 32, 55, 48, 32, 118, 97, 108]⟩, true⟩ := by rw [← hs2]; exact p2
  have k2 : keepOk s2 i1 = true := by rw [← hs2]; exact k2
  have hp2 : p < s2.length := by rw [← hs2, List.length_set]; exact hp1
  have g2 : s2[p].token = t ∧ s2[p].last = L + 2 := by simp [← hs2]
  have n2 : s2.length = ls.length := by rw [← hs2, List.length_set]; exact n1
  clear hs2
  -- not
  have d3 := next_did (index := 72) k2 (by decide) c3 (by show (5 : Int) ≠ 1; decide) hp2 g2.1 (by show L + 3 = _; omega) (by omega)
  have e4 : doD i1 72 ⟨5, t, L + 3, key, xT, 69⟩ = (i1, ⟨#[110, 111, 116, 32, 55, 48]⟩) := by
    show (if (5 : Int) = 2 then _ else if (itemOf i1 key).2 = false then _ else if (5 : Int) = 3 then _ else if (5 : Int) = 4 then _ else if (itemOf i1 key).1.ver = 69 then _ else (i1, txt [110, 111, 116, 32] ++ decT (itemOf i1 key).1.ver)) = _
    rw [if_neg (by decide), it1, if_neg (show ¬ true = false by decide), if_neg (by decide), if_neg (by decide), if_neg (show ¬ (70 : Int) = 69 by decide)]
    show (i1, txt [110, 111, 116, 32] ++ decT 70) = _
    rw [dec70]
    rfl
  rw [e4] at d3
  obtain ⟨p3, k3⟩ := d3
  obtain ⟨s3, hs3⟩ : ∃ s, s2.set p ⟨t, L + 3, (⟨#[110, 111, 116, 32, 55, 48]⟩ : ByteArray)⟩ = s := ⟨_, rfl⟩
  have p3 : performD s2 i1 72 ⟨5, t, L + 3, key, xT, 69⟩ = ⟨s3, i1, ⟨#[110, 111, 116, 32, 55, 48]⟩, true⟩ := by rw [← hs3]; exact p3
  have k3 : keepOk s3 i1 = true := by rw [← hs3]; exact k3
  have hp3 : p < s3.length := by rw [← hs3, List.length_set]; exact hp2
  have g3 : s3[p].token = t ∧ s3[p].last = L + 3 := by simp [← hs3]
  have n3 : s3.length = ls.length := by rw [← hs3, List.length_set]; exact n2
  clear hs3
  -- swapped
  have d4 := next_did (index := 73) k3 (by decide) c4 (by show (5 : Int) ≠ 1; decide) hp3 g3.1 (by show L + 4 = _; omega) (by omega)
  have hlen4 := putK_len ha1 ⟨key, yT, 73⟩
  rw [if_pos (by show (itemOf i1 key).2 = true; rw [it1])] at hlen4
  have e5 : doD i1 73 ⟨5, t, L + 4, key, yT, 70⟩ = (putIn keyLt i1 ⟨key, yT, 73⟩, ⟨#[112, 117, 116, 32, 55, 51]⟩) := by
    show (if (5 : Int) = 2 then _ else if (itemOf i1 key).2 = false then _ else if (5 : Int) = 3 then _ else if (5 : Int) = 4 then _ else if (itemOf i1 key).1.ver = 70 then putD i1 73 ⟨5, t, L + 4, key, yT, 70⟩ else _) = _
    rw [if_neg (by decide), it1, if_neg (show ¬ true = false by decide), if_neg (by decide), if_neg (by decide), if_pos rfl]
    have : putD i1 73 ⟨5, t, L + 4, key, yT, 70⟩ = (putIn keyLt i1 ⟨key, yT, 73⟩, txt [112, 117, 116, 32] ++ decT 73) := if_neg (by rw [hlen4]; omega)
    rw [this, dec73]
    rfl
  rw [e5] at d4
  obtain ⟨p4, k4⟩ := d4
  obtain ⟨i4, hi4⟩ : ∃ i, putIn keyLt i1 ⟨key, yT, 73⟩ = i := ⟨_, rfl⟩
  have m4 : ∀ e, e ∈ i4 ↔ e = ⟨key, yT, 73⟩ ∨ e ∈ i1 ∧ e.key ≠ key := by
    intro e
    rw [← hi4]
    exact mem_putK
  rw [hi4] at p4 k4
  obtain ⟨s4, hs4⟩ : ∃ s, s3.set p ⟨t, L + 4, (⟨#[112, 117, 116, 32, 55, 51]⟩ : ByteArray)⟩ = s := ⟨_, rfl⟩
  have p4 : performD s3 i1 73 ⟨5, t, L + 4, key, yT, 70⟩ = ⟨s4, i4, ⟨#[112, 117, 116, 32, 55, 51]⟩, true⟩ := by rw [← hs4]; exact p4
  have k4 : keepOk s4 i4 = true := by rw [← hs4]; exact k4
  have hp4 : p < s4.length := by rw [← hs4, List.length_set]; exact hp3
  have g4 : s4[p].token = t ∧ s4[p].last = L + 4 := by simp [← hs4]
  have n4 : s4.length = ls.length := by rw [← hs4, List.length_set]; exact n3
  obtain ⟨_, ha4, hf4, hl4⟩ := keep_facts k4
  have it4 : itemOf i4 key = (⟨key, yT, 73⟩, true) := item_at ha4 (e := ⟨key, yT, 73⟩) ((m4 _).2 (Or.inl rfl))
  clear hi4 hs4
  -- dropped
  have d5 := next_did (index := 74) k4 (by decide) c5 (by show (4 : Int) ≠ 1; decide) hp4 g4.1 (by show L + 5 = _; omega) (by omega)
  have e6 : doD i4 74 ⟨4, t, L + 5, key, ⟨#[]⟩, 0⟩ = (i4.filter (fun e => !(e.key.toList == key.toList)), ⟨#[100, 114, 111, 112]⟩) := by
    show (if (4 : Int) = 2 then _ else if (itemOf i4 key).2 = false then _ else if (4 : Int) = 3 then _ else if (4 : Int) = 4 then (i4.filter (fun e => !(e.key.toList == key.toList)), txt [100, 114, 111, 112]) else _) = _
    rw [if_neg (by decide), it4, if_neg (show ¬ true = false by decide), if_neg (by decide), if_pos rfl]
    rfl
  rw [e6] at d5
  obtain ⟨p5, k5⟩ := d5
  obtain ⟨i5, hi5⟩ : ∃ i, i4.filter (fun e => !(e.key.toList == key.toList)) = i := ⟨_, rfl⟩
  have m5 : ∀ e, e ∈ i5 ↔ e ∈ i4 ∧ e.key ≠ key := by
    intro e
    rw [← hi5, List.mem_filter]
    refine and_congr_right fun _ => ?_
    rw [Bool.not_eq_true', beq_eq_false_iff_ne]
    exact ⟨fun h q => h (by rw [q]), fun h q => h (text_ext q)⟩
  rw [hi5] at p5 k5
  obtain ⟨s5, hs5⟩ : ∃ s, s4.set p ⟨t, L + 5, (⟨#[100, 114, 111, 112]⟩ : ByteArray)⟩ = s := ⟨_, rfl⟩
  have p5 : performD s4 i4 74 ⟨4, t, L + 5, key, ⟨#[]⟩, 0⟩ = ⟨s5, i5, ⟨#[100, 114, 111, 112]⟩, true⟩ := by rw [← hs5]; exact p5
  have k5 : keepOk s5 i5 = true := by rw [← hs5]; exact k5
  have n5 : s5.length = ls.length := by rw [← hs5, List.length_set]; exact n4
  obtain ⟨_, ha5, _, _⟩ := keep_facts k5
  refine ⟨s1, i1, s2, s3, s4, i4, s5, i5, p1, p2, p3, p4, p5, ⟨it4, item_none fun e he => ((m5 e).1 he).2, fun e he hne => item_at ha5 ?_⟩, ⟨n1, n2, n3, n4, n5⟩, k1, k4, k5⟩
  exact (m5 e).2 ⟨(m4 e).2 (Or.inr ⟨(m1 e).2 (Or.inr ⟨he, hne⟩), hne⟩), hne⟩
end Go.Proofs.YtohpkegbmhmjeaaGreatDoor

namespace Go.Proofs.YtohpkegbmhmjeaaGreatDoor
open Go.RowKit

def sessEq (a b : SessionD) : Bool := a.token == b.token && (a.last == b.last && a.reply.toList == b.reply.toList)
def itemEq (a b : ItemD) : Bool := a.key.toList == b.key.toList && (a.val.toList == b.val.toList && a.ver == b.ver)
theorem text_ext16 {a b : ByteArray} (h : a.toList = b.toList) : a = b := by
  rw [ByteArray.toList_eq, ByteArray.toList_eq] at h
  exact ByteArray.ext (Array.toList_inj.1 h)
theorem sessEq_iff {a b : SessionD} : sessEq a b = true ↔ a = b := by
  obtain ⟨a1, a2, a3⟩ := a
  obtain ⟨b1, b2, b3⟩ := b
  simp only [sessEq, Bool.and_eq_true, beq_iff_eq, SessionD.mk.injEq]
  exact ⟨fun ⟨x, y, z⟩ => ⟨x, y, text_ext16 z⟩, fun ⟨x, y, z⟩ => ⟨x, y, by rw [z]⟩⟩
theorem itemEq_iff {a b : ItemD} : itemEq a b = true ↔ a = b := by
  obtain ⟨a1, a2, a3⟩ := a
  obtain ⟨b1, b2, b3⟩ := b
  simp only [itemEq, Bool.and_eq_true, beq_iff_eq, ItemD.mk.injEq]
  exact ⟨fun ⟨x, y, z⟩ => ⟨text_ext16 x, text_ext16 y, z⟩, fun ⟨x, y, z⟩ => ⟨by rw [x], by rw [y], z⟩⟩
def alikeBy {α : Type} (eq : α → α → Bool) : List α → List α → Bool
  | [], [] => true
  | x :: xs, y :: ys => eq x y && alikeBy eq xs ys
  | _, _ => false
theorem alikeBy_len {α : Type} {eq : α → α → Bool} : ∀ {l m : List α}, l.length ≠ m.length → alikeBy eq l m = false
  | [], [], h => absurd rfl h
  | [], _ :: _, _ => rfl
  | _ :: _, [], _ => rfl
  | x :: xs, y :: ys, h => by
    rw [alikeBy, alikeBy_len (l := xs) (m := ys) (by simpa using h), Bool.and_false]
theorem alikeBy_step {α : Type} {eq : α → α → Bool} {l m : List α} {k : Nat} (hl : k < l.length) (hm : k < m.length) : alikeBy eq (l.drop k) (m.drop k) = (eq l[k] m[k] && alikeBy eq (l.drop (k + 1)) (m.drop (k + 1))) := by
  rw [List.drop_eq_getElem_cons hl, List.drop_eq_getElem_cons hm, alikeBy]
theorem alikeBy_end {α : Type} {eq : α → α → Bool} {l m : List α} {k : Nat} (hl : l.length ≤ k) (hm : m.length ≤ k) : alikeBy eq (l.drop k) (m.drop k) = true := by
  rw [List.drop_of_length_le hl, List.drop_of_length_le hm, alikeBy]
theorem alikeBy_iff {α : Type} {eq : α → α → Bool} (he : ∀ a b, eq a b = true ↔ a = b) : ∀ {l m : List α}, alikeBy eq l m = true ↔ l = m
  | [], [] => by simp [alikeBy]
  | [], _ :: _ => by simp [alikeBy]
  | _ :: _, [] => by simp [alikeBy]
  | x :: xs, y :: ys => by
    rw [alikeBy, Bool.and_eq_true, he, alikeBy_iff he, List.cons.injEq]
def keepSame (a b : List SessionD) (c d : List ItemD) : Bool := alikeBy sessEq a b && alikeBy itemEq c d
end Go.Proofs.YtohpkegbmhmjeaaGreatDoor
