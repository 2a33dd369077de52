/-
  A number within bounds; nothing of the program stands here.
  Plain facts on the bytes of a number in sevens and on rows of bytes in memory; nothing of the program stands here.
  Plain facts on confs: when one is right, and their texts; nothing of the program stands here.
  Entries as plain data: when one is right, and its text; nothing of the program stands here.
  Logs as plain data: when one is right, its last term, the term of an index, what is put and what is left behind, what two share; nothing of the program stands here.
  A block of memory of the call's own: its cells as a list; rows of elements of so many cells each.
  Peer as data; rows of them in memory, one behind the other.
  Numbers in memory, one behind the other.
  Plain facts on rows that a call owns; nothing of the program stands here.
  Plain facts on the texts of confs; rows of numbers in memory; nothing of the program stands here.
  Plain facts on the text of an entry; nothing of the program stands here.
  A node as data, its conf, and when it is right; nothing of the program stands here.
  A struct in memory, of any number of cells: read and written whole.
  Entries as data, in memory, one behind the other.
  A node in memory: its cells, and its rows.
  A list of numbers: one of its cells is written.
  A list of numbers that came in, read as data.
  Peer that came in, read as data: one of them, and a row.
  A row of Peer that came in, read as data.
  An entry's cells and size, as the program tells them.
  An element of a row of Peer, written; a row that was just made.
  Rows of the call's own that grow: what stands behind an append.
  Rows of the call's own between two sizes of memory; blocks laid one behind the other.
  Rows of Peer of the call's own: they grow.
  A node whose rows are the call's own.
  When a node is right, in the order in which the program asks and in that of the specification; nothing of the program stands here.
  What NodeNew answers, in memory of its own.
  What Settle answers, in memory of its own.
  Ints behind a row of the call's own.
  Ints that a call answers, in memory of its own.
  Entries in a row of the call's own.
  Entries in memory: cell by cell, and those behind a place.
  Entries that are appended to an empty list of the call's own.
  Entries of the call's own, where a node's box is written.
  Memory stands while orders are drawn.
  Blocks that stand where others are written or new ones come; nothing of the program stands here.
  Plain facts on confs: a number held against the one ahead of it; how many of a conf are in a list; nothing of the program stands here.
  Plain facts on figures; nothing of the program stands here.
  Plain facts on the values of figures; nothing of the program stands here.
  Plain facts on decimal figures; nothing of the program stands here.
-/
import Derived.WalkKit
import Derived.RowKit
import Derived.WalkSmall
import Derived.BigQuiet
import Derived.Deep.LoopGhost
import Derived.Maps.AppendAt
import Derived.Test.YtglibbpigmpanaaRows
import Derived.Laws.CopyOwn
import Derived.Laws.Tables
import Derived.Deep.MidRow
import Derived.Sort.Statements
import Derived.OwnWalk
import Derived.Deep.Strs
import Derived.ChangeSame
import Derived.OpenShut
import Derived.Laws.AppendOwn
import Derived.Deep.Draws
namespace Go.Proofs.Ytglibbpigmpanaa
open Go.RowKit

/-- a number within bounds -/
def within (x a b : Int) : Bool := decide (a ≤ x) && decide (x ≤ b)
theorem within_yes {x a b : Int} (h1 : a ≤ x) (h2 : x ≤ b) : within x a b = true := by simp [within, h1, h2]
theorem within_no {x a b : Int} (h : x < a ∨ b < x) : within x a b = false := by
  simp only [within, Bool.and_eq_false_imp, decide_eq_true_eq, decide_eq_false_iff_not]
  omega
theorem within_iff {x a b : Int} : within x a b = true ↔ a ≤ x ∧ x ≤ b := by simp [within]
end Go.Proofs.Ytglibbpigmpanaa

namespace Go.Proofs.Ytglibbpigmpanaa
open Go.RowKit

/-- the bytes of n, seven bits a byte, the least first (with so many steps at the most) -/
def vbF : Nat → Nat → List UInt8
  | 0, n => [UInt8.ofNat n]
  | f + 1, n => if n ≤ 127 then [UInt8.ofNat n] else UInt8.ofNat (n % 128 + 128) :: vbF f (n / 128)
/-- the bytes of n, seven bits a byte, the least first -/
def vb (n : Nat) : List UInt8 := vbF n n

theorem vbF_eq : ∀ (f g n : Nat), n ≤ f → n ≤ g → vbF f n = vbF g n
  | 0, 0, _, _, _ => rfl
  | 0, g + 1, n, h, _ => by
    obtain rfl : n = 0 := by omega
    rw [vbF, vbF, if_pos (by omega)]
  | f + 1, 0, n, _, h => by
    obtain rfl : n = 0 := by omega
    rw [vbF, vbF, if_pos (by omega)]
  | f + 1, g + 1, n, h1, h2 => by
    rw [vbF, vbF]
    by_cases h : n ≤ 127
    · rw [if_pos h, if_pos h]
    · rw [if_neg h, if_neg h, vbF_eq f g (n / 128) (by omega) (by omega)]
theorem vb_small {n : Nat} (h : n ≤ 127) : vb n = [UInt8.ofNat n] := by
  rw [vb, vbF_eq n (n + 1) n (Nat.le_refl _) (by omega), vbF, if_pos h]
theorem vb_big {n : Nat} (h : 127 < n) : vb n = UInt8.ofNat (n % 128 + 128) :: vb (n / 128) := by
  rw [vb, vbF_eq n (n + 1) n (Nat.le_refl _) (by omega), vbF, if_neg (by omega), vb, vbF_eq n (n / 128) (n / 128) (by omega) (Nat.le_refl _)]

theorem vb_pos (n : Nat) : 0 < (vb n).length := by
  by_cases h : n ≤ 127
  · rw [vb_small h]; simp
  · rw [vb_big (by omega)]; simp

theorem vb_le (n : Nat) : (vb n).length ≤ n + 1 := by
  induction n using Nat.strongRecOn with
  | _ n ih =>
    by_cases h : n ≤ 127
    · rw [vb_small h]; simp
    · rw [vb_big (by omega)]
      have := ih (n / 128) (by omega)
      simp only [List.length_cons]
      omega

/-- bytes as the cells of a row -/
def cs (l : List UInt8) : List Value := l.map fun b => Value.int .u8 (b.toNat : Int)

theorem cs_append (l r : List UInt8) : cs (l ++ r) = cs l ++ cs r := by simp [cs]
theorem cs_length (l : List UInt8) : (cs l).length = l.length := by simp [cs]
theorem cs_one {x : Int} (h0 : 0 ≤ x) (h1 : x ≤ 255) : [Value.int .u8 x] = cs [UInt8.ofNat x.toNat] := by
  simp [cs]
  omega

/-- a row that the call owns, turned into a text -/
theorem text_of_row {P : Program} {w : World} {base : Nat} {v : Value} {l : List UInt8} {src dst e : TypeId} (hs : P.underlying src = some (.slice e)) (he : P.underlying e = some (.int .u8)) (hd : P.underlying dst = some .string)
    (h : w.ownsRow base e 1 v l.length (cs l)) : (convert src dst v).run P w = .ok (.string ⟨l.toArray⟩) w := by
  obtain ⟨h1, h2⟩ := h
  rcases h2 with ⟨hv, hn⟩ | ⟨g, cap, cur, hv, hg, hh, hle, hm, hsz, hx⟩
  · have hl : l = [] := by cases l with | nil => rfl | cons a r => simp at hn
    subst hl hv
    exact run_convert_bytes_nil w src e hs he 0 0 dst hd
  · subst hv
    refine run_convert_bytes_back w src dst e ⟨g, 0, none⟩ cap l hs he hd fun j hj => ?_
    have hu : (cs l)[j]? = some (.int .u8 (l[j].toNat : Int)) := by simp [cs, hj]
    exact World.ownsRow.cells (w := w) (base := base) (e := e) (size := 1) ⟨h1, Or.inr ⟨g, cap, cur, rfl, hg, hh, hle, hm, hsz, hx⟩⟩ rfl j _ hu

/-- a piece of a text, its bounds as whole numbers -/
theorem slice_nat {P : Program} {t : TypeId} (h : P.underlying t = some .string) (s : ByteArray) (a b : Nat) (x y : Int) (hx : x = a) (hy : y = b) (hab : a ≤ b) (hb : b ≤ s.size) (w : World) :
    (Instr.slice t (.string s) (some (.int .i64 x)) (some (.int .i64 y)) none).run P w = .ok (.string (s.extract a b)) w := by
  subst hx hy
  rw [run_slice_string w t s .i64 .i64 a b h (by omega) (by omega) (by omega)]
  simp

theorem extract_eq (s : ByteArray) (a b : Nat) : (s.extract a b).data.toList = (s.data.toList.drop a).take (b - a) := by
  simp [ByteArray.extract, ByteArray.copySlice]

theorem var_step {n m : Nat} {acc : List UInt8} {w wr w1 : World} {v v' : Value} (hm : 127 < m) (hacc : acc ++ vb m = vb n) (hown : wr.ownsRow w.heap.size 5 1 v acc.length (cs acc))
    (hown' : w1.ownsRow w.heap.size 5 1 v' (acc.length + 1) (cs acc ++ [.int .u8 ((m : Int) % 128 + 128)])) (hgrow : (wr.alloc (.cells #[.int .u8 ((m : Int) % 128 + 128)] 5)).grownBy w1 v.ownBlock) (hb : Below w.heap.size w wr) :
    (acc ++ [UInt8.ofNat (m % 128 + 128)]) ++ vb (m / 128) = vb n ∧ w1.ownsRow w.heap.size 5 1 v' (acc ++ [UInt8.ofNat (m % 128 + 128)]).length (cs (acc ++ [UInt8.ofNat (m % 128 + 128)])) ∧ Below w.heap.size w w1 := by
  refine ⟨by rw [← hacc, vb_big hm]; simp, ?_, (hb.alloc hb.size _).grown hgrow (by have := hb.size; simp; omega) (fun k hk => (hown.lt k hk).1)⟩
  have e : [Value.int .u8 ((m : Int) % 128 + 128)] = cs [UInt8.ofNat (m % 128 + 128)] := by
    rw [cs_one (by omega) (by omega)]
    have : ((m : Int) % 128 + 128).toNat = m % 128 + 128 := by omega
    rw [this]
  rw [e, ← cs_append] at hown'
  simpa using hown'

theorem var_end {n m : Nat} {acc : List UInt8} {w wr w1 : World} {v v' : Value} (hm : m ≤ 127) (hacc : acc ++ vb m = vb n) (hown : wr.ownsRow w.heap.size 5 1 v acc.length (cs acc))
    (hown' : w1.ownsRow w.heap.size 5 1 v' (acc.length + 1) (cs acc ++ [.int .u8 (m : Int)])) (hgrow : (wr.alloc (.cells #[.int .u8 (m : Int)] 5)).grownBy w1 v.ownBlock) (hb : Below w.heap.size w wr) :
    w1.ownsRow w.heap.size 5 1 v' (vb n).length (cs (vb n)) ∧ Below w.heap.size w w1 := by
  refine ⟨?_, (hb.alloc hb.size _).grown hgrow (by have := hb.size; simp; omega) (fun k hk => (hown.lt k hk).1)⟩
  have e : [Value.int .u8 (m : Int)] = cs [UInt8.ofNat m] := by
    rw [cs_one (by omega) (by omega)]
    simp
  rw [e, ← cs_append, ← vb_small hm, hacc] at hown'
  have hl : acc.length + 1 = (vb n).length := by rw [← hacc, vb_small hm]; simp
  rw [hl] at hown'
  exact hown'

end Go.Proofs.Ytglibbpigmpanaa

namespace Go.Proofs.Ytglibbpigmpanaa
open Go.RowKit

/-- a number stands behind the one ahead of it -/
def behindI (zs : List Int) (k : Nat) (x : Int) : Bool := match k with
  | 0 => true
  | j + 1 => match zs[j]? with
    | none => true
    | some y => decide (y < x)
/-- the first k numbers are in their bounds, and ascend -/
def riseTo (zs : List Int) : Nat → Bool
  | 0 => true
  | k + 1 => riseTo zs k && match zs[k]? with
    | none => true
    | some x => within x 1 4 && behindI zs k x
def confOk (zs : List Int) : Bool := within zs.length 1 4 && riseTo zs zs.length

theorem riseTo_step {zs : List Int} {k : Nat} (hk : k < zs.length) : riseTo zs (k + 1) = (riseTo zs k && (within zs[k] 1 4 && behindI zs k zs[k])) := by
  rw [riseTo, List.getElem?_eq_getElem hk]
theorem behindI_step {zs : List Int} {j : Nat} (hj : j + 1 < zs.length) : behindI zs (j + 1) zs[j + 1] = decide (zs[j] < zs[j + 1]) := by
  rw [behindI, List.getElem?_eq_getElem (show j < zs.length by omega)]
theorem riseTo_down {zs : List Int} {n k : Nat} (h : riseTo zs n = true) (hk : k ≤ n) : riseTo zs k = true := by
  induction n with
  | zero => obtain rfl : k = 0 := by omega
            rfl
  | succ n ih =>
    rcases Nat.lt_or_ge k (n + 1) with q | q
    · rw [riseTo, Bool.and_eq_true] at h
      exact ih h.1 (by omega)
    · obtain rfl : k = n + 1 := by omega
      exact h
theorem not_rise {zs : List Int} {k : Nat} (hk : k < zs.length) (h : (within zs[k] 1 4 && behindI zs k zs[k]) = false) : riseTo zs zs.length = false := by
  cases hd : riseTo zs zs.length with
  | false => rfl
  | true =>
    have := riseTo_down hd (show k + 1 ≤ zs.length by omega)
    rw [riseTo_step hk, h] at this
    simp at this
theorem rise_at {zs : List Int} (h : riseTo zs zs.length = true) {k : Nat} (hk : k < zs.length) : 1 ≤ zs[k] ∧ zs[k] ≤ 4 := by
  have := riseTo_down h (show k + 1 ≤ zs.length by omega)
  rw [riseTo_step hk, Bool.and_eq_true, Bool.and_eq_true] at this
  exact within_iff.1 this.2.1
theorem confOk_len {zs : List Int} (h : confOk zs = true) : 1 ≤ zs.length ∧ zs.length ≤ 4 := by
  rw [confOk, Bool.and_eq_true] at h
  have := within_iff.1 h.1
  omega
theorem confOk_big {zs : List Int} (h : zs.length < 1 ∨ 4 < zs.length) : confOk zs = false := by
  rw [confOk, within_no (by omega)]
  rfl
theorem confOk_of {zs : List Int} (h : 1 ≤ zs.length) (h4 : zs.length ≤ 4) : confOk zs = riseTo zs zs.length := by
  rw [confOk, within_yes (by omega) (by omega), Bool.true_and]
theorem confOk_at {zs : List Int} (h : confOk zs = true) {k : Nat} (hk : k < zs.length) : 1 ≤ zs[k] ∧ zs[k] ≤ 4 := by
  have hl := confOk_len h
  rw [confOk_of hl.1 hl.2] at h
  exact rise_at h hk

/-- the bytes of a conf, and the numbers of bytes -/
def confBytes (zs : List Int) : List UInt8 := zs.map fun x => UInt8.ofNat x.toNat
def intsOf (l : List UInt8) : List Int := l.map fun b => (b.toNat : Int)
theorem confBytes_length (zs : List Int) : (confBytes zs).length = zs.length := by simp [confBytes]
theorem intsOf_length (l : List UInt8) : (intsOf l).length = l.length := by simp [intsOf]
theorem confBytes_take (zs : List Int) (k : Nat) (hk : k < zs.length) : confBytes (zs.take (k + 1)) = confBytes (zs.take k) ++ [UInt8.ofNat zs[k].toNat] := by
  simp only [confBytes]
  rw [List.take_succ_eq_append_getElem hk, List.map_append]
  rfl
theorem intsOf_take (l : List UInt8) (k : Nat) (hk : k < l.length) : intsOf (l.take (k + 1)) = intsOf (l.take k) ++ [(l[k].toNat : Int)] := by
  simp only [intsOf]
  rw [List.take_succ_eq_append_getElem hk, List.map_append]
  rfl
/-- what is read of a text -/
def readConf (s : ByteArray) : List Int × Bool := if confOk (intsOf s.data.toList) = true then (intsOf s.data.toList, true) else ([], false)
def confText (zs : List Int) : ByteArray × Bool := if confOk zs = true then (⟨(confBytes zs).toArray⟩, true) else (ByteArray.empty, false)
end Go.Proofs.Ytglibbpigmpanaa

namespace Go.Proofs.Ytglibbpigmpanaa
open Go.RowKit

structure EntD where
  term : Int
  kind : Int
  data : ByteArray

def EntD.value (e : EntD) : Value := .agg #[.int .i64 e.term, .int .i64 e.kind, .string e.data]

/-- an entry is right -/
def entryOk (e : EntD) : Bool :=
  within e.term 0 100000 && (if e.kind = 1 then decide (e.data.size = 0) else if e.kind = 2 then (readConf e.data).2 else if e.kind = 3 then decide (e.data.size ≤ 120) else false)

/-- the text of an entry -/
def entText (i : Int) (e : EntD) : ByteArray := ⟨#[69]⟩ ++ ⟨(vb i.toNat).toArray⟩ ++ ⟨(vb e.term.toNat).toArray⟩ ++ ⟨#[UInt8.ofNat e.kind.toNat]⟩ ++ e.data
def entryText (i : Int) (e : EntD) : ByteArray × Bool := if (entryOk e && within i 1 1000000) = true then (entText i e, true) else (ByteArray.empty, false)

theorem entryOk_term {e : EntD} (h : within e.term 0 100000 = false) : entryOk e = false := by rw [entryOk, h]; rfl
theorem entryOk_one {e : EntD} (h : within e.term 0 100000 = true) (hk : e.kind = 1) : entryOk e = decide (e.data.size = 0) := by rw [entryOk, h, if_pos hk, Bool.true_and]
theorem entryOk_two {e : EntD} (h : within e.term 0 100000 = true) (hk : e.kind = 2) : entryOk e = (readConf e.data).2 := by rw [entryOk, h, if_neg (by omega), if_pos hk, Bool.true_and]
theorem entryOk_three {e : EntD} (h : within e.term 0 100000 = true) (hk : e.kind = 3) : entryOk e = decide (e.data.size ≤ 120) := by rw [entryOk, h, if_neg (by omega), if_neg (by omega), if_pos hk, Bool.true_and]
theorem entryOk_else {e : EntD} (h : within e.term 0 100000 = true) (h1 : e.kind ≠ 1) (h2 : e.kind ≠ 2) (h3 : e.kind ≠ 3) : entryOk e = false := by rw [entryOk, h, if_neg h1, if_neg h2, if_neg h3, Bool.true_and]
theorem entryOk_bd {e : EntD} (h : entryOk e = true) : 0 ≤ e.term ∧ e.term ≤ 100000 ∧ 1 ≤ e.kind ∧ e.kind ≤ 3 ∧ e.data.size ≤ 120 := by
  rw [entryOk, Bool.and_eq_true] at h
  obtain ⟨h1, h2⟩ := h
  have ht := within_iff.1 h1
  refine ⟨ht.1, ht.2, ?_⟩
  by_cases k1 : e.kind = 1
  · rw [if_pos k1] at h2
    have : e.data.size = 0 := by simpa using h2
    omega
  · rw [if_neg k1] at h2
    by_cases k2 : e.kind = 2
    · rw [if_pos k2] at h2
      have hc : confOk (intsOf e.data.data.toList) = true := by
        cases hA : confOk (intsOf e.data.data.toList) with
        | true => rfl
        | false => rw [readConf, if_neg (by simp [hA])] at h2; cases h2
      have hl := confOk_len hc
      rw [intsOf_length] at hl
      have : e.data.data.toList.length = e.data.size := by simp
      omega
    · rw [if_neg k2] at h2
      by_cases k3 : e.kind = 3
      · rw [if_pos k3] at h2
        have : e.data.size ≤ 120 := by simpa using h2
        omega
      · rw [if_neg k3] at h2
        cases h2
end Go.Proofs.Ytglibbpigmpanaa

namespace Go.Proofs.Ytglibbpigmpanaa
open Go.RowKit

/-- the term of the last entry, or the one that it begins with -/
def lastT : Int → List EntD → Int
  | t, [] => t
  | _, e :: r => lastT e.term r
/-- entries that are right, their terms never falling -/
def termsOk : Int → List EntD → Bool
  | _, [] => true
  | t, e :: r => entryOk e && decide (t ≤ e.term) && termsOk e.term r
theorem lastT_append (t : Int) (a b : List EntD) : lastT t (a ++ b) = lastT (lastT t a) b := by
  induction a generalizing t with
  | nil => rfl
  | cons e a ih => exact ih e.term
theorem termsOk_append (t : Int) (a b : List EntD) : termsOk t (a ++ b) = (termsOk t a && termsOk (lastT t a) b) := by
  induction a generalizing t with
  | nil => simp [termsOk, lastT]
  | cons e a ih => simp only [List.cons_append, termsOk, lastT, ih, Bool.and_assoc]
theorem lastT_take (t : Int) (l : List EntD) (k : Nat) (h : k < l.length) : lastT t (l.take (k + 1)) = l[k].term := by
  rw [List.take_succ_eq_append_getElem h, lastT_append]
  rfl
theorem lastT_last (t : Int) (l : List EntD) (h : 0 < l.length) : lastT t l = l[l.length - 1].term := by
  have := lastT_take t l (l.length - 1) (by omega)
  rw [List.take_of_length_le (by omega)] at this
  exact this
theorem termsOk_take (t : Int) (l : List EntD) (k : Nat) (h : k < l.length) : termsOk t (l.take (k + 1)) = (termsOk t (l.take k) && (entryOk l[k] && decide (lastT t (l.take k) ≤ l[k].term))) := by
  rw [List.take_succ_eq_append_getElem h, termsOk_append]
  simp [termsOk]
theorem termsOk_not (t : Int) (l : List EntD) (k : Nat) (h : termsOk t (l.take k) = false) : termsOk t l = false := by
  have := termsOk_append t (l.take k) (l.drop k)
  rw [List.take_append_drop, h] at this
  simpa using this
theorem termsOk_each (t : Int) (l : List EntD) (h : termsOk t l = true) : ∀ e ∈ l, entryOk e = true := by
  induction l generalizing t with
  | nil => intro e he; cases he
  | cons a l ih =>
    intro e he
    simp only [termsOk, Bool.and_eq_true] at h
    rcases List.mem_cons.1 he with rfl | he
    · exact h.1.1
    · exact ih _ h.2 e he

/-- a log is right -/
def logOk (s t : Int) (l : List EntD) : Bool := within s 0 1000000 && within t 0 100000 && decide (l.length ≤ 60) && decide (s + l.length ≤ 1000000) && termsOk t l
theorem logOk_iff {s t : Int} {l : List EntD} : logOk s t l = true ↔ (0 ≤ s ∧ s ≤ 1000000) ∧ (0 ≤ t ∧ t ≤ 100000) ∧ l.length ≤ 60 ∧ s + l.length ≤ 1000000 ∧ termsOk t l = true := by
  simp only [logOk, Bool.and_eq_true, within_iff, decide_eq_true_eq, and_assoc]
theorem logOk_start {s t : Int} {l : List EntD} (h : ¬ (0 ≤ s ∧ s ≤ 1000000)) : logOk s t l = false := by
  cases hq : logOk s t l with
  | false => rfl
  | true => exact absurd (logOk_iff.1 hq).1 h
theorem logOk_term {s t : Int} {l : List EntD} (h : ¬ (0 ≤ t ∧ t ≤ 100000)) : logOk s t l = false := by
  cases hq : logOk s t l with
  | false => rfl
  | true => exact absurd (logOk_iff.1 hq).2.1 h
theorem logOk_len {s t : Int} {l : List EntD} (h : ¬ l.length ≤ 60) : logOk s t l = false := by
  cases hq : logOk s t l with
  | false => rfl
  | true => exact absurd (logOk_iff.1 hq).2.2.1 h
theorem logOk_sum {s t : Int} {l : List EntD} (h : ¬ s + l.length ≤ 1000000) : logOk s t l = false := by
  cases hq : logOk s t l with
  | false => rfl
  | true => exact absurd (logOk_iff.1 hq).2.2.2.1 h
theorem logOk_ents {s t : Int} {l : List EntD} (h : termsOk t l = false) : logOk s t l = false := by
  rw [logOk, h, Bool.and_false]
theorem logOk_of {s t : Int} {l : List EntD} (hs : 0 ≤ s ∧ s ≤ 1000000) (ht : 0 ≤ t ∧ t ≤ 100000) (hl : l.length ≤ 60) (h2 : s + l.length ≤ 1000000) (h : termsOk t l = true) : logOk s t l = true := logOk_iff.2 ⟨hs, ht, hl, h2, h⟩

/-- the term of an index -/
def logTerm (s t : Int) (l : List EntD) (i : Int) : Int := if i = s then t else if s < i ∧ i ≤ s + l.length then (l.getD (i - s - 1).toNat ⟨0, 0, ByteArray.empty⟩).term else -1
/-- the log has the index -/
def logHas (s : Int) (n : Nat) (i : Int) : Bool := decide (s ≤ i ∧ i ≤ s + n)
/-- the log in which an entry has an index -/
def putAns (s t : Int) (l : List EntD) (i : Int) (e : EntD) : (Int × Int × List EntD) × Bool :=
  if logOk s t l = true ∧ (s + 1 ≤ i ∧ i ≤ s + l.length + 1) ∧ logOk s t (l.take (i - s - 1).toNat ++ [e]) = true then ((s, t, l.take (i - s - 1).toNat ++ [e]), true) else ((0, 0, []), false)
/-- the log that begins behind an index -/
def behindAns (s t : Int) (l : List EntD) (b tm : Int) : List EntD :=
  if logOk s t l = true ∧ (s ≤ b ∧ b ≤ s + l.length) ∧ logTerm s t l b = tm then l.drop (b - s).toNat else []
/-- how many entries two lists begin with alike -/
def alike : List EntD → List EntD → Nat
  | a :: l, b :: r => if a.term = b.term ∧ a.kind = b.kind ∧ a.data = b.data then alike l r + 1 else 0
  | _, _ => 0
/-- what two logs share -/
def sharedAns (s t : Int) (l : List EntD) (s' t' : Int) (l' : List EntD) : Int :=
  if logOk s t l = true ∧ logOk s' t' l' = true then
    if logHas s l.length (max s s') = true ∧ logHas s' l'.length (max s s') = true ∧ logTerm s t l (max s s') = logTerm s' t' l' (max s s') then max s s' + alike (l.drop (max s s' - s).toNat) (l'.drop (max s s' - s').toNat) else -1
  else -1
end Go.Proofs.Ytglibbpigmpanaa

namespace Go.Proofs.Ytglibbpigmpanaa
open Go.RowKit

/-- hidden from the walk -/
theorem hid {p : Prop} (h : p) : Hid p := h
theorem below_more {w w' : World} (h : Below w.heap.size w w') (o : Obj) : Below w.heap.size w (w'.alloc o) := h.alloc h.size o
theorem below_via {w w1 w2 : World} (h : Below w.heap.size w w1) (h2 : Below w1.heap.size w1 w2) : Below w.heap.size w w2 := h.trans (h2.mono h.size)

/-- block g holds just these cells, of elements of type t -/
def BlockIs (w : World) (g : Nat) (t : TypeId) (cs : List Value) : Prop := w.heap[g]? = some (.cells cs.toArray t (0, 0))

theorem BlockIs.lt {w : World} {g : Nat} {t : TypeId} {cs : List Value} (h : BlockIs w g t cs) : g < w.heap.size := by
  rcases Nat.lt_or_ge g w.heap.size with q | q
  · exact q
  · rw [BlockIs, Array.getElem?_eq_none q] at h; cases h
theorem BlockIs.cell {w : World} {g : Nat} {t : TypeId} {cs : List Value} (h : BlockIs w g t cs) {j : Nat} {v : Value} (hj : cs[j]? = some v) : w.cell? ⟨g, j, none⟩ = some v := by
  unfold BlockIs at h
  simp [World.cell?, h, hj]
theorem BlockIs.thaw {w : World} {g : Nat} {t : TypeId} {cs : List Value} (h : BlockIs w g t cs) (j : Nat) : w.frozen? ⟨g, j, none⟩ = false := by
  unfold BlockIs at h
  simp [World.frozen?, h]
theorem BlockIs.set {w : World} {g : Nat} {t : TypeId} {cs : List Value} (h : BlockIs w g t cs) (j : Nat) (v : Value) : BlockIs (w.setCell ⟨g, j, none⟩ v) g t (cs.set j v) := by
  unfold BlockIs at h ⊢
  simp only [World.setCell]
  rw [Array.getElem?_modify, if_pos rfl, h]
  simp [Array.setIfInBounds]
  exact fun hj => (List.set_eq_of_length_le hj).symm
theorem BlockIs.far {w : World} {g : Nat} {t : TypeId} {cs : List Value} (h : BlockIs w g t cs) {b j : Nat} (hb : b ≠ g) (v : Value) : BlockIs (w.setCell ⟨b, j, none⟩ v) g t cs := by
  unfold BlockIs at h ⊢
  simp only [World.setCell]
  rw [Array.getElem?_modify, if_neg hb]
  exact h
theorem BlockIs.on {w w' : World} {g : Nat} {t : TypeId} {cs : List Value} (h : BlockIs w g t cs) {B : Nat} (hb : Below B w w') (hg : g < B) : BlockIs w' g t cs := by
  unfold BlockIs
  rw [hb.block g hg]
  exact h
theorem BlockIs.made {w' : World} {g base : Nat} {t : TypeId} {n size : Nat} {xs : List Value} (h : w'.ownsRow base t size (.slice (some ⟨g, 0, none⟩) n n) n xs) : BlockIs w' g t xs := by
  obtain ⟨hx, (⟨h1, _⟩ | ⟨g', cap, cur, h1, _, hg, _, _, hs, ht⟩)⟩ := h
  · cases h1
  · cases h1
    unfold BlockIs
    rw [hg]
    have : cur.toList = xs := by rw [← ht, List.take_of_length_le (by simp [hs])]
    rw [← this]

/-- a cell of a row of elements of m cells each -/
theorem row_at {α : Type} (enc : α → List Value) (m : Nat) (hm : ∀ a, (enc a).length = m) (l : List α) (r : List Value) (j c : Nat) (hj : j < l.length) (hc : c < m) : (l.flatMap enc ++ r)[j * m + c]? = (enc l[j])[c]? := by
  induction l generalizing j with
  | nil => simp at hj
  | cons a l ih =>
    cases j with
    | zero =>
      simp only [List.flatMap_cons, Nat.zero_mul, Nat.zero_add, List.getElem_cons_zero, List.append_assoc]
      rw [List.getElem?_append_left (by rw [hm]; exact hc)]
    | succ j =>
      simp only [List.flatMap_cons, List.getElem_cons_succ, List.append_assoc]
      rw [List.getElem?_append_right (by rw [hm, Nat.succ_mul]; omega), hm, show (j + 1) * m + c - m = j * m + c by rw [Nat.succ_mul]; omega]
      exact ih j (by simpa using hj)
theorem row_length {α : Type} (enc : α → List Value) (m : Nat) (hm : ∀ a, (enc a).length = m) (l : List α) : (l.flatMap enc).length = l.length * m := by
  induction l with
  | nil => simp
  | cons a l ih => simp only [List.flatMap_cons, List.length_append, hm, ih, List.length_cons, Nat.succ_mul]; omega
/-- three cells of a list, written -/
theorem set_three (p : List Value) (a b c x y z : Value) (r : List Value) : (((p ++ x :: y :: z :: r).set p.length a).set (p.length + 1) b).set (p.length + 2) c = p ++ a :: b :: c :: r := by
  rw [List.set_append_right _ _ (Nat.le_refl _), List.set_append_right _ _ (by omega), List.set_append_right _ _ (by omega)]
  simp
end Go.Proofs.Ytglibbpigmpanaa

namespace Go.Proofs.Ytglibbpigmpanaa
open Go.RowKit

structure PeerD where
  pid : Int
  next : Int
  upto : Int
  sent : Int
/-- numbers that are numbers, texts that are texts -/
def PeerD.Fits (e : PeerD) : Prop := (-9223372036854775808 ≤ e.pid ∧ e.pid ≤ 9223372036854775807) ∧ (-9223372036854775808 ≤ e.next ∧ e.next ≤ 9223372036854775807) ∧ (-9223372036854775808 ≤ e.upto ∧ e.upto ≤ 9223372036854775807) ∧ (-9223372036854775808 ≤ e.sent ∧ e.sent ≤ 9223372036854775807)
def peerEnc (e : PeerD) : List Value := [.int .i64 e.pid, .int .i64 e.next, .int .i64 e.upto, .int .i64 e.sent]
/-- the cells of a row -/
def peerCells (l : List PeerD) : List Value := l.flatMap peerEnc
theorem peerCells_length (l : List PeerD) : (peerCells l).length = l.length * 4 := row_length peerEnc 4 (fun _ => rfl) l
theorem peerCells_take (l : List PeerD) (k : Nat) (h : k < l.length) : peerCells (l.take (k + 1)) = peerCells (l.take k) ++ peerEnc l[k] := by
  rw [List.take_succ_eq_append_getElem h, peerCells, peerCells, List.flatMap_append]
  simp
/-- how many letters -/
def peerOne (_e : PeerD) : Int := (0 : Int)
theorem peerOne_nonneg (e : PeerD) : 0 ≤ peerOne e := by unfold peerOne; omega
def peerBulk : List PeerD → Int
  | [] => 0
  | f :: l => peerOne f + peerBulk l
theorem peerBulk_nonneg (l : List PeerD) : 0 ≤ peerBulk l := by
  induction l with
  | nil => exact Int.le_refl 0
  | cons f l ih => have := peerOne_nonneg f; simp only [peerBulk]; omega
theorem peerBulk_take (l : List PeerD) (k : Nat) (h : k < l.length) : peerBulk (l.take (k + 1)) = peerBulk (l.take k) + peerOne l[k] := by
  induction l generalizing k with
  | nil => simp at h
  | cons f l ih =>
    cases k with
    | zero => simp [peerBulk]
    | succ k =>
      have := ih k (by simpa using h)
      simp only [List.take_succ_cons, peerBulk, List.getElem_cons_succ] at this ⊢
      omega
theorem peerBulk_le (l : List PeerD) (k : Nat) : peerBulk (l.take k) ≤ peerBulk l := by
  induction l generalizing k with
  | nil => simp [peerBulk]
  | cons f l ih =>
    cases k with
    | zero => have := peerBulk_nonneg (f :: l); simpa [peerBulk] using this
    | succ k => have := ih k; simp only [List.take_succ_cons, peerBulk]; omega
theorem peer_le_bulk {l : List PeerD} {f : PeerD} (h : f ∈ l) : peerOne f ≤ peerBulk l := by
  induction l with
  | nil => cases h
  | cons g l ih =>
    simp only [peerBulk]
    have := peerBulk_nonneg l
    have := peerOne_nonneg g
    rcases List.mem_cons.1 h with e | e
    · subst e; omega
    · have := ih e; omega
/-- few and short -/
def PeersSmall (l : List PeerD) : Prop := l.length ≤ 1048576 ∧ ∀ f ∈ l, peerOne f ≤ 1048576
theorem peersSmall {l : List PeerD} (h : 0 ≤ (1048576 : Int) - l.length - peerBulk l) : PeersSmall l := by
  have := peerBulk_nonneg l
  exact ⟨by omega, fun f hf => by have := peer_le_bulk hf; omega⟩
/-- they lie at an address, one behind the other -/
def PeersAt (w : World) (ao : Option Addr) (l : List PeerD) : Prop :=
  l ≠ [] → ∃ b off, ao = some ⟨b, off, none⟩ ∧ ∀ j (hj : j < l.length), w.cell? ⟨b, off + j * 4, none⟩ = some (.int .i64 l[j].pid) ∧ w.cell? ⟨b, off + j * 4 + 1, none⟩ = some (.int .i64 l[j].next) ∧ w.cell? ⟨b, off + j * 4 + 2, none⟩ = some (.int .i64 l[j].upto) ∧ w.cell? ⟨b, off + j * 4 + 3, none⟩ = some (.int .i64 l[j].sent)
theorem peersAt_of {w : World} {g : Nat} {t : TypeId} {l : List PeerD} {r : List Value} (h : BlockIs w g t (peerCells l ++ r)) : PeersAt w (some ⟨g, 0, none⟩) l := by
  intro _
  refine ⟨g, 0, rfl, fun j hj => ?_⟩
  rw [Nat.zero_add]
  exact ⟨h.cell (row_at peerEnc 4 (fun _ => rfl) l r j 0 hj (by omega)), h.cell (row_at peerEnc 4 (fun _ => rfl) l r j 1 hj (by omega)), h.cell (row_at peerEnc 4 (fun _ => rfl) l r j 2 hj (by omega)), h.cell (row_at peerEnc 4 (fun _ => rfl) l r j 3 hj (by omega))⟩
def PeersFit (l : List PeerD) : Prop := ∀ j (hj : j < l.length), l[j].Fits
theorem PeersAt.on {w w' : World} {ao : Option Addr} {l : List PeerD} (h : PeersAt w ao l) (hb : Below w.heap.size w w') : PeersAt w' ao l := by
  intro h0
  obtain ⟨b, off, e1, e2⟩ := h h0
  refine ⟨b, off, e1, fun j hj => ?_⟩
  obtain ⟨x0, x1, x2, x3⟩ := e2 j hj
  exact ⟨(hb.cell (p := ⟨b, off + j * 4, none⟩) (World.block_lt_of_cell? w _ x0)).trans x0, (hb.cell (p := ⟨b, off + j * 4 + 1, none⟩) (World.block_lt_of_cell? w _ x1)).trans x1, (hb.cell (p := ⟨b, off + j * 4 + 2, none⟩) (World.block_lt_of_cell? w _ x2)).trans x2, (hb.cell (p := ⟨b, off + j * 4 + 3, none⟩) (World.block_lt_of_cell? w _ x3)).trans x3⟩
/-- cells of a list, written -/
theorem peer_sets (p : List Value) (a0 a1 a2 a3 o0 o1 o2 o3 : Value) (r : List Value) : ((((p ++ o0 :: o1 :: o2 :: o3 :: r).set (p.length) a0).set (p.length + 1) a1).set (p.length + 2) a2).set (p.length + 3) a3 = p ++ a0 :: a1 :: a2 :: a3 :: r := by
  rw [List.set_append_right _ _ (Nat.le_refl _), List.set_append_right _ _ (by omega), List.set_append_right _ _ (by omega), List.set_append_right _ _ (by omega)]
  simp
theorem peer_set_other {cs : List Value} {i j : Nat} {v u : Value} (h : cs[j]? = some u) (hij : i ≠ j) : (cs.set i v)[j]? = some u := by
  rw [List.getElem?_set_ne hij]; exact h
end Go.Proofs.Ytglibbpigmpanaa

namespace Go.Proofs.Ytglibbpigmpanaa
open Go.RowKit

/-- numbers lie at an address, one behind the other -/
def IntsAt (w : World) (ao : Option Addr) (zs : List Int) : Prop := zs ≠ [] → ∃ b off, ao = some ⟨b, off, none⟩ ∧ ∀ j (hj : j < zs.length), w.cell? ⟨b, off + j, none⟩ = some (.int .i64 zs[j])
theorem IntsAt.on {w w' : World} {ao : Option Addr} {zs : List Int} (h : IntsAt w ao zs) (hb : Below w.heap.size w w') : IntsAt w' ao zs := by
  intro h0
  obtain ⟨b, off, e1, e2⟩ := h h0
  exact ⟨b, off, e1, fun j hj => (hb.cell (p := ⟨b, off + j, none⟩) (World.block_lt_of_cell? w _ (e2 j hj))).trans (e2 j hj)⟩
/-- numbers in their cells -/
def intCells (zs : List Int) : List Value := zs.map (Value.int .i64)
theorem intsAt_of {w : World} {g : Nat} {t : TypeId} {zs : List Int} {r : List Value} (h : BlockIs w g t (intCells zs ++ r)) : IntsAt w (some ⟨g, 0, none⟩) zs := by
  intro _
  refine ⟨g, 0, rfl, fun j hj => ?_⟩
  rw [Nat.zero_add]
  refine h.cell ?_
  rw [List.getElem?_append_left (by simpa [intCells] using hj)]
  simp [intCells, hj]
/-- a cell of a list, written -/
theorem set_one (p : List Value) (a x : Value) (r : List Value) : (p ++ x :: r).set p.length a = p ++ a :: r := by
  rw [List.set_append_right _ _ (Nat.le_refl _)]
  simp
end Go.Proofs.Ytglibbpigmpanaa

namespace Go.Proofs.Ytglibbpigmpanaa
open Go.RowKit

theorem grown_of_below {w w' : World} (h : Below w.heap.size w w') (row : Option Nat) : w.grownBy w' row := ⟨h.os, h.tape, h.output, h.size, fun k hk _ => h.block k hk⟩

theorem add_at (g j : Nat) : (⟨g, 0, none⟩ : Addr).add j = ⟨g, j, none⟩ := by
  simp only [Addr.add]
  split
  · simp_all
  · simp

/-- where an owned row lies -/
theorem row_lie {w : World} {base : Nat} {e : TypeId} {v : Value} {n : Nat} {xs : List Value} (h : w.ownsRow base e 1 v n xs) :
    xs.length = n ∧ ∃ ao cap, v = .slice ao n cap ∧ (0 < n → ∃ g, ao = some ⟨g, 0, none⟩ ∧ base ≤ g ∧ g < w.heap.size ∧ n ≤ cap ∧ v.ownBlock = some g ∧ (∀ (j : Nat) u, xs[j]? = some u → w.cell? ⟨g, j, none⟩ = some u) ∧ ∀ j, w.frozen? ⟨g, j, none⟩ = false) := by
  have h' := h
  obtain ⟨h1, h2⟩ := h
  refine ⟨by omega, ?_⟩
  rcases h2 with ⟨hv, hn⟩ | ⟨g, cap, cur, hv, hgb, hh, hle, hmx, hsz, hx⟩
  · exact ⟨none, 0, by rw [hv, hn], fun h0 => by omega⟩
  · refine ⟨_, cap, hv, fun _ => ⟨g, rfl, hgb, (h'.lt g (by rw [hv]; rfl)).2, hle, by rw [hv]; rfl, fun j u hu => ?_, fun j => ?_⟩⟩
    · have := h'.cells (g := g) (by rw [hv]; rfl) j _ hu
      rw [add_at] at this
      exact this
    · simp [World.frozen?, hh]

/-- an owned row, one of its cells written -/
theorem ownsRow_set {w : World} {base : Nat} {e : TypeId} {v : Value} {n : Nat} {xs : List Value} (h : w.ownsRow base e 1 v n xs) {g : Nat} (hg : v.ownBlock = some g) (k : Nat) (u : Value) :
    (w.setCell ⟨g, k, none⟩ u).ownsRow base e 1 v n (xs.set k u) := by
  obtain ⟨h1, h2⟩ := h
  rcases h2 with ⟨hv, hn⟩ | ⟨g', cap, cur, hv, hgb, hh, hle, hmx, hsz, hx⟩
  · rw [hv] at hg; cases hg
  · rw [hv] at hg
    simp only [Value.ownBlock, Option.some.injEq] at hg
    subst hg
    refine ⟨by simpa using h1, Or.inr ⟨g', cap, cur.setIfInBounds k u, hv, hgb, ?_, hle, hmx, by simpa using hsz, ?_⟩⟩
    · simp only [World.setCell]
      rw [Array.getElem?_modify, if_pos rfl, hh]
      rfl
    · rw [Array.toList_setIfInBounds, ← hx, List.take_set]

/-- a place of an owned row may be written -/
theorem at_row {w : World} {base : Nat} {e : TypeId} {g n c : Nat} {xs : List Value} (h : w.ownsRow base e 1 (.slice (some ⟨g, 0, none⟩) n c) n xs) (k : Nat) (hk : k < n) : ∃ u, w.cell? ⟨g, k, none⟩ = some u ∧ w.frozen? ⟨g, k, none⟩ = false := by
  obtain ⟨hl, ao, cap, hv, hf⟩ := row_lie h
  obtain ⟨g', e1, _, _, _, _, hc, hz⟩ := hf (by omega)
  simp only [Value.slice.injEq] at hv
  obtain ⟨rfl, _, _⟩ := hv
  simp only [Option.some.injEq, Addr.mk.injEq, and_true] at e1
  subst e1
  have hk' : k < xs.length := by omega
  exact ⟨xs[k], hc k _ (List.getElem?_eq_getElem hk'), hz k⟩

theorem grownBy_set (w : World) (g k : Nat) (u : Value) : w.grownBy (w.setCell ⟨g, k, none⟩ u) (some g) :=
  ⟨rfl, rfl, rfl, by simp [World.setCell], fun j _ hj => Below.heap_setCell _ _ _ _ (fun e => hj (by simp [e]))⟩

/-- the one cell of a new block -/
theorem one_new (w : World) (x : Value) (t : TypeId) : ∀ (j : Nat) u, [x][j]? = some u → (w.alloc (.cells #[x] t)).cell? ((⟨w.heap.size, 0, none⟩ : Addr).add j) = some u := by
  intro j u hj
  match j, hj with
  | 0, hj => simp at hj; subst hj; simp [Addr.add]

/-- texts as the cells of a row -/
def st (l : List ByteArray) : List Value := l.map Value.string
theorem st_append (l r : List ByteArray) : st (l ++ r) = st l ++ st r := by simp [st]
theorem st_length (l : List ByteArray) : (st l).length = l.length := by simp [st]
theorem st_at (l : List ByteArray) (k : Nat) (h : k < l.length) : (st l)[k]? = some (.string l[k]) := by simp [st, h]
end Go.Proofs.Ytglibbpigmpanaa

namespace Go.Proofs.Ytglibbpigmpanaa
open Go.RowKit

theorem confText_yes {zs : List Int} (h : confOk zs = true) : confText zs = (⟨(confBytes zs).toArray⟩, true) := by rw [confText, if_pos h]
theorem confText_no {zs : List Int} (h : confOk zs = false) : confText zs = (ByteArray.empty, false) := by rw [confText, if_neg (by simp [h])]
theorem readConf_yes {s : ByteArray} (h : confOk (intsOf s.data.toList) = true) : readConf s = (intsOf s.data.toList, true) := by rw [readConf, if_pos h]
theorem readConf_no {s : ByteArray} (h : confOk (intsOf s.data.toList) = false) : readConf s = ([], false) := by rw [readConf, if_neg (by simp [h])]

theorem conf_byte {x : Int} (h1 : 1 ≤ x) (h4 : x ≤ 4) : IntKind.u8.wrap x = x := by
  rw [IntKind.wrap_u8]
  omega
/-- what both answer -/
def readConfAns (s : ByteArray) (w : World) (e : Ending) (w' : World) : Prop :=
  ∃ v, e = .returned (.tuple #[v, .bool (readConf s).2]) ∧ w'.ownsRow w.heap.size 3 1 v (readConf s).1.length (intCells (readConf s).1) ∧ Below w.heap.size w w'

theorem ints_row {w : World} {base : Nat} {ao : Option Addr} {n c : Nat} {zs : List Int} (hn : zs.length = n) (h : w.ownsRow base 3 1 (.slice ao n c) n (intCells zs)) : IntsAt w ao zs := by
  intro hne
  obtain ⟨_, va, vc, hv, hf⟩ := row_lie h
  simp only [Value.slice.injEq] at hv
  obtain ⟨rfl, _, _⟩ := hv
  have hp : 0 < zs.length := List.length_pos_iff.2 hne
  obtain ⟨g, e1, _, _, _, _, hc, _⟩ := hf (by omega)
  refine ⟨g, 0, e1, fun j hj => ?_⟩
  rw [Nat.zero_add]
  exact hc j _ (by simp [intCells, hj])

theorem readConf_none {s : ByteArray} {w w' : World} {v : Value} (h : confOk (intsOf s.data.toList) = false) (ho : w'.ownsRow w.heap.size 3 1 v 0 []) (hb : Below w.heap.size w w') : readConfAns s w (.returned (.tuple #[v, .bool false])) w' := by
  refine ⟨v, by rw [readConf_no h], ?_, hb⟩
  rw [readConf_no h]
  exact ho

theorem readConf_some {s : ByteArray} {w w' : World} {v : Value} (h : confOk (intsOf s.data.toList) = true) (ho : w'.ownsRow w.heap.size 3 1 v s.size (intCells (intsOf s.data.toList))) (hb : Below w.heap.size w w') : readConfAns s w (.returned (.tuple #[v, .bool true])) w' := by
  refine ⟨v, by rw [readConf_yes h], ?_, hb⟩
  rw [readConf_yes h]
  have : (intsOf s.data.toList).length = s.size := by rw [intsOf_length]; simp
  rw [this]
  exact ho

theorem kept_conf {w w2 : World} {base : Nat} {e : TypeId} {v : Value} {n : Nat} {xs : List Value} (h : w.ownsRow base e 1 v n xs) (hb : Below w.heap.size w w2) : w2.ownsRow base e 1 v n xs := by
  refine h.kept (grown_of_below hb none) ?_
  cases v.ownBlock with
  | none => exact Or.inl rfl
  | some g => exact Or.inr (by simp)
end Go.Proofs.Ytglibbpigmpanaa

namespace Go.Proofs.Ytglibbpigmpanaa
open Go.RowKit

theorem entryText_yes {i : Int} {d : EntD} (h : entryOk d = true) (hi : within i 1 1000000 = true) : entryText i d = (entText i d, true) := by rw [entryText, if_pos (by rw [h, hi]; rfl)]
theorem entryText_no {i : Int} {d : EntD} (h : entryOk d = false ∨ within i 1 1000000 = false) : entryText i d = (ByteArray.empty, false) := by
  rw [entryText, if_neg]
  rcases h with h | h <;> simp [h]
theorem confBytes_intsOf (l : List UInt8) : confBytes (intsOf l) = l := by
  simp only [confBytes, intsOf, List.map_map]
  conv => rhs; rw [← List.map_id l]
  apply List.map_congr_left
  intro b _
  simp
theorem readConf_true {s : ByteArray} (h : (readConf s).2 = true) : confOk (intsOf s.data.toList) = true ∧ (readConf s).1 = intsOf s.data.toList := by
  cases hA : confOk (intsOf s.data.toList) with
  | true => rw [readConf_yes hA]; exact ⟨rfl, rfl⟩
  | false => rw [readConf_no hA] at h; cases h
theorem size_E (V : ByteArray) : ((⟨#[69]⟩ : ByteArray) ++ V).size = 1 + V.size := by rw [ByteArray.size_append]; rfl
theorem size_one (A : ByteArray) (k : UInt8) : (A ++ ⟨#[k]⟩).size = A.size + 1 := by rw [ByteArray.size_append]; rfl
theorem entText_none (n t : Nat) : entText n ⟨t, 1, ByteArray.empty⟩ = (⟨#[69]⟩ : ByteArray) ++ ⟨(vb n).toArray⟩ ++ ⟨(vb t).toArray⟩ ++ ⟨#[1]⟩ := by
  simp only [entText, ByteArray.append_empty, Int.toNat_natCast]
  rfl
theorem empty_data {s : ByteArray} (h : s.size = 0) : s = ByteArray.empty := by
  apply ByteArray.ext
  exact Array.eq_empty_of_size_eq_zero h
theorem entText_of (n t q : Nat) (s : ByteArray) : entryText n ⟨t, q, s⟩ = (entText n ⟨t, q, s⟩, true) ↔ entryText n ⟨t, q, s⟩ = ((⟨#[69]⟩ : ByteArray) ++ ⟨(vb n).toArray⟩ ++ ⟨(vb t).toArray⟩ ++ ⟨#[UInt8.ofNat q]⟩ ++ s, true) := Iff.rfl
theorem vb_size (n : Nat) (h : n ≤ 1000000) : (⟨(vb n).toArray⟩ : ByteArray).size ≤ 1000001 := by
  have := vb_le n
  show (vb n).toArray.size ≤ 1000001
  simp
  omega
end Go.Proofs.Ytglibbpigmpanaa

namespace Go.Proofs.Ytglibbpigmpanaa
open Go.RowKit

structure NodeD where
  id : Int
  term : Int
  vote : Int
  role : Int
  lead : Int
  conf : List Int
  start : Int
  sterm : Int
  ents : List EntD
  commit : Int
  clock : Int
  limit : Int
  votes : List Int
  peers : List PeerD
/-- how many of the first k entries there are up to the last conf entry -/
def lastTo (l : List EntD) : Nat → Nat
  | 0 => 0
  | k + 1 => match l[k]? with
    | none => lastTo l k
    | some e => if e.kind = 2 then k + 1 else lastTo l k
/-- the conf behind the first k entries, those passed over that tell none -/
def confTo (c : List Int) (l : List EntD) : Nat → List Int
  | 0 => c
  | k + 1 => match l[k]? with
    | none => confTo c l k
    | some e => if e.kind = 2 ∧ (readConf e.data).2 = true then (readConf e.data).1 else confTo c l k
/-- the conf of the last conf entry, whatever it tells -/
def confIn (c : List Int) (l : List EntD) : List Int := match lastTo l l.length with
  | 0 => c
  | k + 1 => match l[k]? with
    | none => c
    | some e => (readConf e.data).1
def othersD (zs : List Int) (x : Int) : List Int := zs.filter fun y => !(y == x)
def peerOk (p : PeerD) (last : Int) : Bool := within p.next 1 (last + 1) && within p.upto 0 (p.next - 1) && within p.sent 0 20000
/-- the first k peers are those of these ids, and right -/
def peersTo (ps : List PeerD) (os : List Int) (last : Int) : Nat → Bool
  | 0 => true
  | k + 1 => peersTo ps os last k && match ps[k]?, os[k]? with
    | some p, some o => decide (p.pid = o) && peerOk p last
    | _, _ => true
def peersAre (ps : List PeerD) (os : List Int) (last : Int) : Bool := decide (ps.length = os.length) && peersTo ps os last os.length
def lastD (d : NodeD) : Int := d.start + d.ents.length
/-- what a node's fields are asked first -/
def nodeHead (d : NodeD) : Bool := within d.id 1 4 && confOk d.conf && logOk d.start d.sterm d.ents
def nodeMid (d : NodeD) : Bool := within d.term 0 100000 && within d.vote 0 4 && within d.lead 0 4 && within d.role 0 2 && decide (lastT d.sterm d.ents ≤ d.term) && within d.commit d.start (lastD d) && within d.clock 0 20 && within d.limit 1 20
def roleD (d : NodeD) : Bool := riseTo d.votes d.votes.length && (decide (d.votes.length = 0) || decide (d.role = 1)) && (if d.role = 2 then peersAre d.peers (othersD (confTo d.conf d.ents d.ents.length) d.id) (lastD d) else decide (d.peers.length = 0))
def nodeOk (d : NodeD) : Bool := nodeHead d && nodeMid d && roleD d

theorem lastTo_step {l : List EntD} {k : Nat} (hk : k < l.length) : lastTo l (k + 1) = if l[k].kind = 2 then k + 1 else lastTo l k := by rw [lastTo, List.getElem?_eq_getElem hk]
theorem confTo_step {c : List Int} {l : List EntD} {k : Nat} (hk : k < l.length) : confTo c l (k + 1) = if l[k].kind = 2 ∧ (readConf l[k].data).2 = true then (readConf l[k].data).1 else confTo c l k := by rw [confTo, List.getElem?_eq_getElem hk]
theorem lastTo_le (l : List EntD) : ∀ k, lastTo l k ≤ k
  | 0 => Nat.le_refl _
  | k + 1 => by
    have := lastTo_le l k
    rw [lastTo]
    split
    · omega
    · split <;> omega
theorem entry_conf {e : EntD} (h : entryOk e = true) (hk : e.kind = 2) : (readConf e.data).2 = true := by
  rw [entryOk, Bool.and_eq_true] at h
  have h2 := h.2
  rw [if_neg (by omega), if_pos hk] at h2
  exact h2
theorem conf_upto (c : List Int) (l : List EntD) (h : ∀ e ∈ l, entryOk e = true) : ∀ k, k ≤ l.length → confTo c l k = match lastTo l k with
    | 0 => c
    | j + 1 => match l[j]? with
      | none => c
      | some e => (readConf e.data).1
  | 0, _ => rfl
  | k + 1, hk => by
    have hk' : k < l.length := hk
    rw [confTo_step hk', lastTo_step hk']
    by_cases h2 : l[k].kind = 2
    · rw [if_pos ⟨h2, entry_conf (h _ (List.getElem_mem hk')) h2⟩, if_pos h2]
      show _ = match l[k]? with
        | none => c
        | some e => (readConf e.data).1
      rw [List.getElem?_eq_getElem hk']
    · rw [if_neg (fun q => h2 q.1), if_neg h2]
      exact conf_upto c l h k (by omega)
theorem conf_both (c : List Int) (l : List EntD) (h : ∀ e ∈ l, entryOk e = true) : confIn c l = confTo c l l.length := (conf_upto c l h l.length (Nat.le_refl _)).symm
theorem logOk_each {s t : Int} {l : List EntD} (h : logOk s t l = true) : ∀ e ∈ l, entryOk e = true := termsOk_each t l (logOk_iff.1 h).2.2.2.2
theorem confTo_ok (c : List Int) (l : List EntD) (hc : confOk c = true) : ∀ k, k ≤ l.length → confOk (confTo c l k) = true
  | 0, _ => hc
  | k + 1, hk => by
    have hk' : k < l.length := hk
    rw [confTo_step hk']
    by_cases h2 : l[k].kind = 2 ∧ (readConf l[k].data).2 = true
    · rw [if_pos h2]
      have := readConf_true h2.2
      rw [this.2]
      exact this.1
    · rw [if_neg h2]
      exact confTo_ok c l hc k (by omega)
theorem rise_len {zs : List Int} (h : riseTo zs zs.length = true) : zs.length ≤ 4 := by
  have key : ∀ k (hk : k < zs.length), (k : Int) + 1 ≤ zs[k] := by
    intro k
    induction k with
    | zero => intro hk; have := (rise_at h hk).1; omega
    | succ j ih =>
      intro hk
      have h1 := ih (by omega)
      have h2 := riseTo_down h (show j + 1 + 1 ≤ zs.length by omega)
      rw [riseTo_step hk, behindI_step hk, Bool.and_eq_true, Bool.and_eq_true] at h2
      have := of_decide_eq_true h2.2.2
      omega
  by_cases h4 : zs.length ≤ 4
  · exact h4
  · have := key 4 (by omega)
    have := (rise_at h (show 4 < zs.length by omega)).2
    omega
theorem votes_conf (zs : List Int) : (decide (zs.length = 0) || confOk zs) = riseTo zs zs.length := by
  by_cases h0 : zs.length = 0
  · have : zs = [] := List.eq_nil_of_length_eq_zero h0
    subst this
    rfl
  · rw [decide_eq_false h0, Bool.false_or]
    by_cases h4 : zs.length ≤ 4
    · exact confOk_of (by omega) h4
    · rw [confOk_big (by omega)]
      cases hr : riseTo zs zs.length with
      | false => rfl
      | true => exact absurd (rise_len hr) h4
end Go.Proofs.Ytglibbpigmpanaa

namespace Go.Proofs.Ytglibbpigmpanaa
open Go.RowKit

/-- a struct is read whole -/
theorem load_whole {n : Nat} {T : TypeId} {fs : Array Field} (hu : Try.prog.underlying T = some (.struct fs)) (hs : (Try.prog.info? T).map (·.size) = some n) {W : World} {b : Nat} {t : TypeId} {cs : List Value} {r : List Value} (hb : BlockIs W b t (cs ++ r)) (hn : cs.length = n) : (Instr.loadAt T (.pointer (some ⟨b, 0, none⟩))).run Try.prog W = .ok (.agg cs.toArray) W := by
  refine run_loadAt_mid W b 0 T cs _ (fun j v hv => ?_) hu rfl (by rw [hs, hn])
  rw [Nat.zero_add]
  exact hb.cell (by rw [List.getElem?_append_left (List.getElem?_eq_some_iff.1 hv).1]; exact hv)
theorem wpList_load_whole {n : Nat} {T : TypeId} {fs : Array Field} (hu : Try.prog.underlying T = some (.struct fs)) (hs : (Try.prog.info? T).map (·.size) = some n) {ops : Array Oper} {rest : List Oper} {op : Oper} {a : Act} {w : World} {Q : Exit → Act → World → Prop} {b : Nat} {t : TypeId} {cs : List Value} (hb : BlockIs w b t cs) (hn : cs.length = n) (hgd : op.guard = none) (x : Operand) (ho : op.op = .load T x)
    (hx : a.eval x = .pointer (some ⟨b, 0, none⟩)) (h : wpList Try.prog ops Q rest (a.put op.dst (.agg cs.toArray)) w) : wpList Try.prog ops Q (op :: rest) a w :=
  wpList_plain hgd fun _ hK => by
    unfold Oper.wp execOp
    simp only [ho, hx, load_whole hu hs (r := []) (by rw [List.append_nil]; exact hb) hn, Sem.run_bind, Sem.run_pure, Result.andThen_ok]
    exact hK _ _ h
/-- a struct is written whole -/
theorem store_whole {n : Nat} {T : TypeId} (hs : (Try.prog.info? T).map (·.size) = some n) {W : World} {b : Nat} {cs : List Value} (hb : BlockIs W b T cs) (hn : cs.length = n) {A : Array Value} (hA : A.size = n) (h1 : A.all (·.oneCell') = true) : (Instr.storeAt T (.pointer (some ⟨b, 0, none⟩)) (.agg A)).run Try.prog W = .ok () (W.setRow b A) := by
  simp only [Instr.storeAt, Instr.sureAddr, Sem.run_bind, Sem.run_pure, Result.andThen_ok, run_storeVar_row W b T T cs.toArray A hb (by rw [hs, hA]) (by simp [hn, hA]) h1]
theorem whole_block {W : World} {b : Nat} {cs : List Value} {t : TypeId} (hb : BlockIs W b t cs) (A : Array Value) : BlockIs (W.setRow b A) b t A.toList := setRow_heap W b _ _ _ _ hb
theorem whole_other {W : World} {b g : Nat} {cs : List Value} {t : TypeId} (hb : BlockIs W g t cs) (hg : b ≠ g) (A : Array Value) : BlockIs (W.setRow b A) g t cs := by
  unfold BlockIs
  rw [setRow_other W b g A (by omega)]
  exact hb
/-- a box that is written whole is as if it had been laid so -/
theorem whole_over (w : World) (c c' : Array Value) (t : TypeId) : (w.alloc (.cells c t)).setRow w.heap.size c' = w.alloc (.cells c' t) := by
  simp only [World.setRow, World.alloc]
  congr 1
  apply Array.ext_getElem?
  intro i
  rw [Array.getElem?_modify]
  by_cases h : w.heap.size = i
  · subst h
    simp
  · have h' : ¬ i = w.heap.size := fun e => h e.symm
    simp [h, h', Array.getElem?_push]
theorem wpList_store_whole {n : Nat} {T : TypeId} (hs : (Try.prog.info? T).map (·.size) = some n) {ops : Array Oper} {rest : List Oper} {op : Oper} {a : Act} {w : World} {Q : Exit → Act → World → Prop} {b : Nat} {cs : List Value} (hb : BlockIs w b T cs) (hn : cs.length = n) (hgd : op.guard = none) (x y : Operand) (ho : op.op = .store T x y)
    (A : Array Value) (hx : a.eval x = .pointer (some ⟨b, 0, none⟩)) (hy : a.eval y = .agg A) (hA : A.size = n) (h1 : A.all (·.oneCell') = true)
    (h : wpList Try.prog ops Q rest (a.put op.dst undef) (w.setRow b A)) : wpList Try.prog ops Q (op :: rest) a w :=
  wpList_plain hgd fun _ hK => by
    unfold Oper.wp execOp
    simp only [ho, hx, hy, store_whole hs hb hn hA h1, Sem.run_bind, Sem.run_pure, Result.andThen_ok]
    exact hK _ _ h
end Go.Proofs.Ytglibbpigmpanaa

namespace Go.Proofs.Ytglibbpigmpanaa
open Go.RowKit

/-- numbers that are numbers, a text that is a text -/
def EntD.Fits (e : EntD) : Prop := (-9223372036854775808 ≤ e.term ∧ e.term ≤ 9223372036854775807) ∧ (-9223372036854775808 ≤ e.kind ∧ e.kind ≤ 9223372036854775807) ∧ e.data.size ≤ maxLen
def entEnc (e : EntD) : List Value := [.int .i64 e.term, .int .i64 e.kind, .string e.data]
/-- the cells of entries -/
def entCells (l : List EntD) : List Value := l.flatMap entEnc
theorem entCells_length (l : List EntD) : (entCells l).length = l.length * 3 := row_length entEnc 3 (fun _ => rfl) l
theorem entCells_take (l : List EntD) (k : Nat) (h : k < l.length) : entCells (l.take (k + 1)) = entCells (l.take k) ++ entEnc l[k] := by
  rw [List.take_succ_eq_append_getElem h, entCells, entCells, List.flatMap_append]
  simp
/-- how many letters -/
def entBulk : List EntD → Int
  | [] => 0
  | f :: l => f.data.size + entBulk l
theorem entBulk_nonneg (l : List EntD) : 0 ≤ entBulk l := by
  induction l with
  | nil => exact Int.le_refl 0
  | cons f l ih => simp only [entBulk]; omega
theorem entBulk_take (l : List EntD) (k : Nat) (h : k < l.length) : entBulk (l.take (k + 1)) = entBulk (l.take k) + l[k].data.size := by
  induction l generalizing k with
  | nil => simp at h
  | cons f l ih =>
    cases k with
    | zero => simp [entBulk]
    | succ k =>
      have := ih k (by simpa using h)
      simp only [List.take_succ_cons, entBulk, List.getElem_cons_succ] at this ⊢
      omega
theorem entBulk_le (l : List EntD) (k : Nat) : entBulk (l.take k) ≤ entBulk l := by
  induction l generalizing k with
  | nil => simp [entBulk]
  | cons f l ih =>
    cases k with
    | zero => have := entBulk_nonneg (f :: l); simpa [entBulk] using this
    | succ k => have := ih k; simp only [List.take_succ_cons, entBulk]; omega
theorem ent_le_bulk {l : List EntD} {f : EntD} (h : f ∈ l) : (f.data.size : Int) ≤ entBulk l := by
  induction l with
  | nil => cases h
  | cons g l ih =>
    simp only [entBulk]
    have := entBulk_nonneg l
    rcases List.mem_cons.1 h with e | e
    · subst e; omega
    · have := ih e; omega
/-- entries that are few and short -/
def EntsSmall (l : List EntD) : Prop := l.length ≤ 1048576 ∧ ∀ f ∈ l, f.data.size ≤ 1048576
theorem entsSmall {l : List EntD} (h : 0 ≤ (1048576 : Int) - l.length - entBulk l) : EntsSmall l := by
  have := entBulk_nonneg l
  exact ⟨by omega, fun f hf => by have := ent_le_bulk hf; omega⟩

/-- entries lie at an address, one behind the other -/
def EntsAt (w : World) (ao : Option Addr) (l : List EntD) : Prop :=
  l ≠ [] → ∃ b off, ao = some ⟨b, off, none⟩ ∧ ∀ j (hj : j < l.length), w.cell? ⟨b, off + j * 3, none⟩ = some (.int .i64 l[j].term) ∧ w.cell? ⟨b, off + j * 3 + 1, none⟩ = some (.int .i64 l[j].kind) ∧ w.cell? ⟨b, off + j * 3 + 2, none⟩ = some (.string l[j].data)
theorem entsAt_of {w : World} {g : Nat} {t : TypeId} {l : List EntD} {r : List Value} (h : BlockIs w g t (entCells l ++ r)) : EntsAt w (some ⟨g, 0, none⟩) l := by
  intro _
  refine ⟨g, 0, rfl, fun j hj => ?_⟩
  rw [Nat.zero_add]
  exact ⟨h.cell (row_at entEnc 3 (fun _ => rfl) l r j 0 hj (by omega)), h.cell (row_at entEnc 3 (fun _ => rfl) l r j 1 hj (by omega)), h.cell (row_at entEnc 3 (fun _ => rfl) l r j 2 hj (by omega))⟩
def EntsFit (l : List EntD) : Prop := ∀ j (hj : j < l.length), l[j].Fits
theorem EntsAt.on {w w' : World} {ao : Option Addr} {l : List EntD} (h : EntsAt w ao l) (hb : Below w.heap.size w w') : EntsAt w' ao l := by
  intro h0
  obtain ⟨b, off, e1, e2⟩ := h h0
  refine ⟨b, off, e1, fun j hj => ?_⟩
  obtain ⟨x, y, z⟩ := e2 j hj
  exact ⟨(hb.cell (p := ⟨b, off + j * 3, none⟩) (World.block_lt_of_cell? w _ x)).trans x, (hb.cell (p := ⟨b, off + j * 3 + 1, none⟩) (World.block_lt_of_cell? w _ y)).trans y, (hb.cell (p := ⟨b, off + j * 3 + 2, none⟩) (World.block_lt_of_cell? w _ z)).trans z⟩
/-- a log as data -/
structure LogD where
  start : Int
  sterm : Int
  ents : List EntD
end Go.Proofs.Ytglibbpigmpanaa

namespace Go.Proofs.Ytglibbpigmpanaa
open Go.RowKit Go.Sort

/-- where a node's rows lie -/
structure NodeL where
  co : Option Addr
  cc : Nat
  eo : Option Addr
  ec : Nat
  vo : Option Addr
  vc : Nat
  po : Option Addr
  pc : Nat
structure NodeAt (w : World) (d : NodeD) (p : NodeL) : Prop where
  conf : IntsAt w p.co d.conf
  ents : EntsAt w p.eo d.ents
  votes : IntsAt w p.vo d.votes
  peers : PeersAt w p.po d.peers
theorem NodeAt.on {w w' : World} {d : NodeD} {p : NodeL} (h : NodeAt w d p) (hb : Below w.heap.size w w') : NodeAt w' d p := ⟨h.conf.on hb, h.ents.on hb, h.votes.on hb, h.peers.on hb⟩
/-- its rows and its texts are small -/
structure NodeD.Small (d : NodeD) : Prop where
  conf : d.conf.length ≤ 1048576
  ents : d.ents.length ≤ 1048576
  each : ∀ f ∈ d.ents, f.data.size ≤ 1048576
  votes : d.votes.length ≤ 1048576
  peers : d.peers.length ≤ 1048576
set_option maxRecDepth 1000000 in
theorem node_size : (Try.prog.info? 35).map (·.size) = some 14 := by kernel_rfl
end Go.Proofs.Ytglibbpigmpanaa

namespace Go.Proofs.Ytglibbpigmpanaa
open Go.RowKit

theorem int_info : (Try.prog.info? 3).map (fun i => (i.zero, i.size, i.bytes)) = some (some (.int .i64 0), 1, 8) := by kernel_rfl
theorem made_ints (n : Nat) : (madeCells #[Value.int .i64 0] n).toList.length = n := by simp [madeCells]

/-- a number's cell is written -/
theorem put_int {w : World} {g k : Nat} {t : TypeId} {zs : List Int} {r : List Value} (z : Int) (h : BlockIs w g t (intCells zs ++ r)) (hk : zs.length = k) (hr : 0 < r.length) :
    (∃ x, w.cell? ⟨g, k, none⟩ = some x) ∧ w.frozen? ⟨g, k, none⟩ = false ∧ BlockIs (w.setCell ⟨g, k, none⟩ (.int .i64 z)) g t (intCells (zs ++ [z]) ++ r.drop 1) := by
  have hlen : (intCells zs).length = k := by simp [intCells, hk]
  match r, hr with
  | x :: r', _ =>
    have hs := h.set k (.int .i64 z)
    have e1 := set_one (intCells zs) (.int .i64 z) x r'
    rw [hlen] at e1
    rw [e1] at hs
    refine ⟨⟨x, h.cell ?_⟩, h.thaw k, ?_⟩
    · rw [List.getElem?_append_right (by omega), hlen, Nat.sub_self]; rfl
    · simpa [intCells] using hs
end Go.Proofs.Ytglibbpigmpanaa

namespace Go.Proofs.Ytglibbpigmpanaa
open Go.ChangeShapes Go.WideShapes Go.RowKit Go.Deep

set_option maxRecDepth 1000000 in
theorem ints_cells3 : Try.prog.cellsOf 3 = 1 := by kernel_rfl
/-- numbers that are numbers -/
def IntsFit (zs : List Int) : Prop := ∀ j (hj : j < zs.length), -9223372036854775808 ≤ zs[j] ∧ zs[j] ≤ 9223372036854775807

set_option maxRecDepth 1000000 in
theorem open_intS {H : Type} {enc : TypeId × Value → H} {W : World} {r : Reach} {b0 base : Nat} {sp : Nat → Bool} {held : Bool} {v : Value} {d : DataW H} {ps : List MemPlace} (hval : Value.okWide Try.prog W r b0 22 v) (hd : DataW.Trod enc Try.prog W base sp held 22 v d ps) :
    ∃ ao zs cap, v = .slice ao zs.length cap ∧ zs.length ≤ cap ∧ cap ≤ maxLen ∧ IntsAt W ao zs ∧ IntsFit zs := by
  obtain ⟨ao, ln, cp, rfl⟩ := okWide_slice Try.underlying22 hval
  obtain ⟨fuel, hf⟩ := hd
  rcases open_slice Try.underlying22 hf with ⟨hcs, _⟩ | ⟨a, len, cap, m, n, D, Pl, hcs, hb, hl, hm, hmm, _, hx⟩
  · simp [Value.cells] at hcs
    obtain ⟨rfl, rfl, rfl⟩ := hcs
    exact ⟨none, [], 0, rfl, Nat.le_refl _, by unfold maxLen; omega, fun h => absurd rfl h, fun j hj => by simp at hj⟩
  · simp [Value.cells] at hcs
    obtain ⟨rfl, rfl, rfl⟩ := hcs
    have hlm : ln ≤ m := by rw [hmm]; split <;> omega
    have each : ∀ i, i < ln → ∃ z : Int, (W.cells? base (a.add (i * 1)) 1 = some [.int .i64 z]) ∧ -9223372036854775808 ≤ z ∧ z ≤ 9223372036854775807 := fun i hi => by
      obtain ⟨cs', e1, e2⟩ := hx i (by omega)
      rw [ints_cells3] at e1
      obtain ⟨z, rfl, _, s⟩ := DataW.trod_int Try.underlying3 e2
      have := bounds_i64 s
      exact ⟨z, e1, this.1, this.2⟩
    obtain ⟨F, hF⟩ := choose_lt each
    have hll : ((List.range ln).map F).length = ln := by simp
    refine ⟨some a, (List.range ln).map F, cp, by rw [hll], by rw [hll]; exact hl, hm, ?_, ?_⟩
    · intro hne
      have hp : 0 < ln := by
        rcases Nat.eq_zero_or_pos ln with e | e
        · subst e; exact absurd rfl hne
        · exact e
      obtain ⟨b, off, spot⟩ := a
      have hc : ∀ i, i < ln → W.cell? ((Addr.add ⟨b, off, spot⟩ (i * 1)).add 0) = some (.int .i64 (F i)) := fun i hi => (World.cells?_some (hF i hi).1).2.2 0 (by omega)
      have hspot : spot = none := by
        have := hc 0 hp
        simpa [Addr.add] using World.cell?_spot this
      subst hspot
      refine ⟨b, off, rfl, fun j hj => ?_⟩
      simp only [List.getElem_map, List.getElem_range]
      have h0 := hc j (by omega)
      rw [add_plain, add_plain, Nat.mul_one, Nat.add_zero] at h0
      exact h0
    · intro j hj
      simp only [List.getElem_map, List.getElem_range]
      exact (hF j (by omega)).2
end Go.Proofs.Ytglibbpigmpanaa

namespace Go.Proofs.Ytglibbpigmpanaa
open Go.ChangeShapes Go.WideShapes Go.RowKit Go.Deep

set_option maxRecDepth 1000000 in
theorem peer_cellsE : Try.prog.cellsOf 75 = 4 := by kernel_rfl
set_option maxRecDepth 1000000 in
theorem peer_cells9 : Try.prog.cellsOf 9 = 1 := by kernel_rfl
set_option maxRecDepth 1000000 in
theorem peer_cells3 : Try.prog.cellsOf 3 = 1 := by kernel_rfl
set_option maxRecDepth 1000000 in
theorem peer_fields {H : Type} {enc : TypeId × Value → H} {P : Program} {W : World} {base : Nat} {sp : Nat → Bool} {held : Bool} {fuel : Nat} {t : TypeId} {f0 f1 f2 f3 : Field} {cs : List Value} {x : DataW H × List MemPlace} (ht : P.underlying t = some (.struct #[f0, f1, f2, f3])) (h : DataW.trod enc P W base sp held fuel t cs = some x) :
    ∃ y0 y1 y2 y3 n, cs.length = P.cellsOf t ∧ DataW.trod enc P W base sp held n f0.type ((cs.drop f0.offset).take (P.cellsOf f0.type)) = some y0 ∧ DataW.trod enc P W base sp held n f1.type ((cs.drop f1.offset).take (P.cellsOf f1.type)) = some y1 ∧ DataW.trod enc P W base sp held n f2.type ((cs.drop f2.offset).take (P.cellsOf f2.type)) = some y2 ∧ DataW.trod enc P W base sp held n f3.type ((cs.drop f3.offset).take (P.cellsOf f3.type)) = some y3 := by
  obtain ⟨xs, n, _, _, hl, hlen, hf⟩ := DataW.trod_struct ht h
  match xs, hlen with
  | [y0, y1, y2, y3], _ => exact ⟨y0, y1, y2, y3, n, hl, by simpa using hf 0 f0 rfl, by simpa using hf 1 f1 rfl, by simpa using hf 2 f2 rfl, by simpa using hf 3 f3 rfl⟩

set_option maxRecDepth 1000000 in
theorem open_peerCells {H : Type} {enc : TypeId × Value → H} {W : World} {base : Nat} {sp : Nat → Bool} {held : Bool} {fuel : Nat} {cs : List Value} {x : DataW H × List MemPlace} (h : DataW.trod enc Try.prog W base sp held fuel 75 cs = some x) :
    ∃ e : PeerD, cs = peerEnc e ∧ e.Fits := by
  obtain ⟨y0, y1, y2, y3, n, hl, h0, h1, h2, h3⟩ := peer_fields Try.underlying75 h
  rw [peer_cellsE] at hl
  match cs, hl with
  | [c0, c1, c2, c3], _ =>
    simp only [peer_cells3] at h0 h1 h2 h3
    obtain ⟨k0, e0, _, s0⟩ := DataW.trod_int Try.underlying3 h0
    obtain ⟨k1, e1, _, s1⟩ := DataW.trod_int Try.underlying3 h1
    obtain ⟨k2, e2, _, s2⟩ := DataW.trod_int Try.underlying3 h2
    obtain ⟨k3, e3, _, s3⟩ := DataW.trod_int Try.underlying3 h3
    simp at e0 e1 e2 e3
    subst e0 e1 e2 e3
    exact ⟨⟨k0, k1, k2, k3⟩, rfl, bounds_i64 s0, bounds_i64 s1, bounds_i64 s2, bounds_i64 s3⟩

set_option maxRecDepth 1000000 in
/-- one of them as a parameter -/
theorem open_peer {H : Type} {enc : TypeId × Value → H} {W : World} {r : Reach} {b0 base : Nat} {sp : Nat → Bool} {held : Bool} {v : Value} {d : DataW H} {ps : List MemPlace} (hval : Value.okWide Try.prog W r b0 75 v) (hd : DataW.Trod enc Try.prog W base sp held 75 v d ps) :
    ∃ e : PeerD, v = .agg #[.int .i64 e.pid, .int .i64 e.next, .int .i64 e.upto, .int .i64 e.sent] ∧ e.Fits := by
  obtain ⟨cs, rfl, _⟩ := okWide_struct Try.underlying75 hval
  obtain ⟨fuel, hf⟩ := hd
  obtain ⟨a, e, r⟩ := open_peerCells hf
  refine ⟨a, ?_, r⟩
  obtain ⟨c⟩ := cs
  have e' : c = peerEnc a := by simpa [Value.cells] using e
  rw [e']
  rfl
end Go.Proofs.Ytglibbpigmpanaa

namespace Go.Proofs.Ytglibbpigmpanaa
open Go.ChangeShapes Go.WideShapes Go.RowKit Go.Deep

set_option maxRecDepth 1000000 in
theorem peer_cellsS : Try.prog.cellsOf 26 = 1 := by kernel_rfl
set_option maxRecDepth 1000000 in
theorem open_peerRow {H : Type} {enc : TypeId × Value → H} {W : World} {base : Nat} {sp : Nat → Bool} {held : Bool} {fuel : Nat} {cs : List Value} {x : DataW H × List MemPlace} (h : DataW.trod enc Try.prog W base sp held fuel 26 cs = some x) :
    ∃ ao l cap, cs = [.slice ao l.length cap] ∧ l.length ≤ cap ∧ cap ≤ maxLen ∧ PeersAt W ao l ∧ PeersFit l := by
  rcases open_slice Try.underlying26 h with ⟨rfl, _⟩ | ⟨a, len, cap, m, n, D, Pl, rfl, hb, hl, hm, hmm, _, hx⟩
  · exact ⟨none, [], 0, rfl, Nat.le_refl _, by unfold maxLen; omega, fun h => absurd rfl h, fun j hj => by simp at hj⟩
  · have hlm : len ≤ m := by rw [hmm]; split <;> omega
    have each : ∀ i, i < len → ∃ f : PeerD, (W.cells? base (a.add (i * 4)) 4 = some (peerEnc f)) ∧ f.Fits := fun i hi => by
      obtain ⟨cs', e1, e2⟩ := hx i (by omega)
      rw [peer_cellsE] at e1
      obtain ⟨f, rfl, r⟩ := open_peerCells e2
      exact ⟨f, e1, r⟩
    have hin : Inhabited PeerD := ⟨⟨0, 0, 0, 0⟩⟩
    obtain ⟨F, hF⟩ := choose_lt each
    have hll : ((List.range len).map F).length = len := by simp
    refine ⟨some a, (List.range len).map F, cap, by rw [hll], by rw [hll]; exact hl, hm, ?_, ?_⟩
    · intro hne
      have hp : 0 < len := by
        rcases Nat.eq_zero_or_pos len with e | e
        · subst e; exact absurd rfl hne
        · exact e
      obtain ⟨b, off, spot⟩ := a
      have hc : ∀ i c, i < len → c < 4 → W.cell? ((Addr.add ⟨b, off, spot⟩ (i * 4)).add c) = (peerEnc (F i))[c]? := fun i c hi hc => (World.cells?_some (hF i hi).1).2.2 c hc
      have hspot : spot = none := by
        have := hc 0 0 hp (by omega)
        simpa [Addr.add] using World.cell?_spot this
      subst hspot
      refine ⟨b, off, rfl, fun j hj => ?_⟩
      simp only [List.getElem_map, List.getElem_range]
      have hj' : j < len := by omega
      have h0 := hc j 0 hj' (by omega)
      have h1 := hc j 1 hj' (by omega)
      have h2 := hc j 2 hj' (by omega)
      have h3 := hc j 3 hj' (by omega)
      rw [add_plain, add_plain] at h0 h1 h2 h3
      exact ⟨h0, h1, h2, h3⟩
    · intro j hj
      simp only [List.getElem_map, List.getElem_range]
      exact (hF j (by omega)).2

set_option maxRecDepth 1000000 in
/-- a row as a parameter -/
theorem open_peerS {H : Type} {enc : TypeId × Value → H} {W : World} {r : Reach} {b0 base : Nat} {sp : Nat → Bool} {held : Bool} {v : Value} {d : DataW H} {ps : List MemPlace} (hval : Value.okWide Try.prog W r b0 26 v) (hd : DataW.Trod enc Try.prog W base sp held 26 v d ps) :
    ∃ ao l cap, v = .slice ao l.length cap ∧ l.length ≤ cap ∧ cap ≤ maxLen ∧ PeersAt W ao l ∧ PeersFit l := by
  obtain ⟨a, l, c, rfl⟩ := okWide_slice Try.underlying26 hval
  obtain ⟨fuel, hf⟩ := hd
  obtain ⟨ao, l, cap, e, r⟩ := open_peerRow hf
  simp [Value.cells] at e
  obtain ⟨rfl, rfl, rfl⟩ := e
  exact ⟨_, _, _, rfl, r⟩
end Go.Proofs.Ytglibbpigmpanaa

namespace Go.Proofs.Ytglibbpigmpanaa
open Go.RowKit

theorem toEnt_info : (Try.prog.info? 69).map (fun i => (i.zero, i.size, i.bytes)) = some (some (.agg #[.int .i64 0, .int .i64 0, .string ByteArray.empty]), 3, 32) := by kernel_rfl
theorem made_ents (n : Nat) : (madeCells (Value.agg #[.int .i64 0, .int .i64 0, .string ByteArray.empty]).cells (n * 3)).toList.length = n * 3 := by
  simp [madeCells]

end Go.Proofs.Ytglibbpigmpanaa

namespace Go.Proofs.Ytglibbpigmpanaa
open Go.RowKit

theorem toPeer_info : (Try.prog.info? 67).map (fun i => (i.zero, i.size, i.bytes)) = some (some (.agg #[.int .i64 0, .int .i64 0, .int .i64 0, .int .i64 0]), 4, 32) := by kernel_rfl
/-- an element's cells are written -/
theorem put_peer {w w2 : World} {g k : Nat} {t : TypeId} {l : List PeerD} {r : List Value} (hk : k < l.length) (h : BlockIs w g t (peerCells (l.take k) ++ r)) (hr : r.length = (l.length - k) * 4) {B : Nat} (hb : Below B w w2) (hg : g < B) :
    (∃ o0 o1 o2 o3, w2.cell? ⟨g, k * 4, none⟩ = some o0 ∧ w2.cell? ⟨g, k * 4 + 1, none⟩ = some o1 ∧ w2.cell? ⟨g, k * 4 + 2, none⟩ = some o2 ∧ w2.cell? ⟨g, k * 4 + 3, none⟩ = some o3) ∧ (∀ j, w2.frozen? ⟨g, j, none⟩ = false) ∧
    ∃ r', r'.length = (l.length - (k + 1)) * 4 ∧ BlockIs ((((w2.setCell ⟨g, k * 4, none⟩ (.int .i64 l[k].pid)).setCell ⟨g, k * 4 + 1, none⟩ (.int .i64 l[k].next)).setCell ⟨g, k * 4 + 2, none⟩ (.int .i64 l[k].upto)).setCell ⟨g, k * 4 + 3, none⟩ (.int .i64 l[k].sent)) g t (peerCells (l.take (k + 1)) ++ r') := by
  have h2 := h.on hb hg
  have hlen : (peerCells (l.take k)).length = k * 4 := by rw [peerCells_length, List.length_take]; omega
  match r, hr with
  | z0 :: z1 :: z2 :: z3 :: r', hr =>
    have hs := (((h2.set (k * 4) (.int .i64 l[k].pid)).set (k * 4 + 1) (.int .i64 l[k].next)).set (k * 4 + 2) (.int .i64 l[k].upto)).set (k * 4 + 3) (.int .i64 l[k].sent)
    have e3 := peer_sets (peerCells (l.take k)) (.int .i64 l[k].pid) (.int .i64 l[k].next) (.int .i64 l[k].upto) (.int .i64 l[k].sent) z0 z1 z2 z3 r'
    rw [hlen] at e3
    rw [e3] at hs
    refine ⟨⟨z0, z1, z2, z3, h2.cell ?_, h2.cell ?_, h2.cell ?_, h2.cell ?_⟩, fun j => h2.thaw j, r', ?_, ?_⟩
    · rw [List.getElem?_append_right (by omega), hlen, Nat.sub_self]; rfl
    · rw [List.getElem?_append_right (by omega), hlen, show k * 4 + 1 - k * 4 = 1 by omega]; rfl
    · rw [List.getElem?_append_right (by omega), hlen, show k * 4 + 2 - k * 4 = 2 by omega]; rfl
    · rw [List.getElem?_append_right (by omega), hlen, show k * 4 + 3 - k * 4 = 3 by omega]; rfl
    · simp at hr; omega
    · rw [peerCells_take l k hk, List.append_assoc]
      exact hs
  | [], hr => simp at hr; omega
  | [_], hr => simp at hr; omega
  | [_, _], hr => simp at hr; omega
  | [_, _, _], hr => simp at hr; omega

theorem made_peer (n : Nat) : (madeCells (Value.agg #[.int .i64 0, .int .i64 0, .int .i64 0, .int .i64 0]).cells (n * 4)).toList.length = n * 4 := by
  simp [madeCells]
end Go.Proofs.Ytglibbpigmpanaa

namespace Go.Proofs.Ytglibbpigmpanaa
open Go.RowKit

theorem row_shape {w : World} {base size n : Nat} {t : TypeId} {v : Value} {xs : List Value} (h : w.ownsRow base t size v n xs) : ∃ a c, v = .slice a n c := by
  obtain ⟨_, (⟨rfl, rfl⟩ | ⟨g, cap, _, rfl, _⟩)⟩ := h
  · exact ⟨_, _, rfl⟩
  · exact ⟨_, _, rfl⟩
theorem row_down {w : World} {base base' size n : Nat} {t : TypeId} {v : Value} {xs : List Value} (h : w.ownsRow base t size v n xs) (hb : base' ≤ base) : w.ownsRow base' t size v n xs :=
  ⟨h.1, h.2.imp id fun ⟨g, cap, cur, a, b, r⟩ => ⟨g, cap, cur, a, Nat.le_trans hb b, r⟩⟩
/-- behind an append to a row of the call's own: all that was there ahead of the row stands -/
theorem behind_append {w wr w1 : World} {v : Value} {base n : Nat} {t : TypeId} {size : Nat} {xs : List Value} {o : Obj} (hB : w.heap.size ≤ base) (BR : Below w.heap.size w wr) (OR : wr.ownsRow base t size v n xs) (hz : base ≤ wr.heap.size) (hg : (wr.alloc o).drew.grownBy w1 v.ownBlock) :
    Below w.heap.size w w1 ∧ base ≤ w1.heap.size ∧ ∀ j tj cs, j < base → BlockIs wr j tj cs → BlockIs w1 j tj cs := by
  have hown : ∀ j, v.ownBlock = some j → base ≤ j := fun j hj => (OR.lt j hj).1
  have hd : Below wr.heap.size wr (wr.alloc o).drew := below_drewN (below_more (Below.refl _ wr) o) 1
  have h1 : Below base wr w1 := ((hd.mono hz).grown hg (Nat.le_trans hz hd.size) hown)
  refine ⟨BR.trans (h1.mono hB), Nat.le_trans hz h1.size, fun j tj cs hj hb => hb.on h1 hj⟩
end Go.Proofs.Ytglibbpigmpanaa

namespace Go.Proofs.Ytglibbpigmpanaa
open Go.RowKit

/-- four blocks laid one behind the other -/
theorem four_log (w : World) (o p q : Obj) : Below w.heap.size w (((w.alloc o).alloc p).alloc q) ∧ (((w.alloc o).alloc p).alloc q).heap[w.heap.size]? = some o ∧ (((w.alloc o).alloc p).alloc q).heap[w.heap.size + 1]? = some p ∧ (((w.alloc o).alloc p).alloc q).heap[w.heap.size + 1 + 1]? = some q := by
  refine ⟨below_more (below_more (below_more (Below.refl _ w) _) _) _, ?_, ?_, ?_⟩
  · show (((w.heap.push o).push p).push q)[w.heap.size]? = some o
    rw [Array.getElem?_push, if_neg (by simp; omega), Array.getElem?_push, if_neg (by simp), Array.getElem?_push, if_pos rfl]
  · show (((w.heap.push o).push p).push q)[w.heap.size + 1]? = some p
    rw [Array.getElem?_push, if_neg (by simp), Array.getElem?_push, if_pos (by simp)]
  · show (((w.heap.push o).push p).push q)[w.heap.size + 1 + 1]? = some q
    rw [Array.getElem?_push, if_pos (by simp)]

/-- a row of the call's own, made between two sizes of memory -/
def OwnAt (w : World) (t : TypeId) (cs : List Value) (n : Nat) (va : Option Addr) (lo hi : Nat) : Prop :=
  n = 0 ∨ ∃ g r, va = some ⟨g, 0, none⟩ ∧ lo ≤ g ∧ g < hi ∧ BlockIs w g t (cs ++ r)
theorem OwnAt.on {w w' : World} {t : TypeId} {cs : List Value} {n : Nat} {va : Option Addr} {lo hi : Nat} (h : OwnAt w t cs n va lo hi) (hb : Below w.heap.size w w') : OwnAt w' t cs n va lo hi :=
  h.imp id fun ⟨g, r, a, b, c, d⟩ => ⟨g, r, a, b, c, d.on hb d.lt⟩
theorem OwnAt.down {w : World} {t : TypeId} {cs : List Value} {n : Nat} {va : Option Addr} {lo hi lo' hi' : Nat} (h : OwnAt w t cs n va lo hi) (h1 : lo' ≤ lo) (h2 : hi ≤ hi') : OwnAt w t cs n va lo' hi' :=
  h.imp id fun ⟨g, r, a, b, c, d⟩ => ⟨g, r, a, Nat.le_trans h1 b, Nat.lt_of_lt_of_le c h2, d⟩
/-- a cell below is written -/
theorem OwnAt.far {w : World} {t : TypeId} {cs : List Value} {n : Nat} {va : Option Addr} {lo b j : Nat} (h : OwnAt w t cs n va lo w.heap.size) (hb : b < lo) (v : Value) : OwnAt (w.setCell ⟨b, j, none⟩ v) t cs n va lo (w.setCell ⟨b, j, none⟩ v).heap.size := by
  rw [World.size_setCell]
  exact h.imp id fun ⟨g, r, a, c, d, e⟩ => ⟨g, r, a, c, d, e.far (by omega) v⟩
/-- nothing but blocks between two sizes has turned -/
def KeptBut (lo hi : Nat) (w w' : World) : Prop := ∀ j t cs, ¬ (lo ≤ j ∧ j < hi) → BlockIs w j t cs → BlockIs w' j t cs
theorem OwnAt.kept {w w' : World} {t : TypeId} {cs : List Value} {n : Nat} {va : Option Addr} {lo hi lo2 hi2 : Nat} (h : OwnAt w t cs n va lo hi) (hk : KeptBut lo2 hi2 w w') (ho : hi ≤ lo2 ∨ hi2 ≤ lo) : OwnAt w' t cs n va lo hi :=
  h.imp id fun ⟨g, r, a, b, c, d⟩ => ⟨g, r, a, b, c, hk _ _ _ (by omega) d⟩
theorem BlockIs.kept {w w' : World} {g lo hi : Nat} {t : TypeId} {cs : List Value} (h : BlockIs w g t cs) (hk : KeptBut lo hi w w') (ho : g < lo ∨ hi ≤ g) : BlockIs w' g t cs := hk _ _ _ (by omega) h
theorem row_ext {x y : World} {base size n : Nat} {t : TypeId} {v : Value} {xs : List Value} (h : x.ownsRow base t size v n xs) (hb : ∀ g cs, BlockIs x g t cs → BlockIs y g t cs) : y.ownsRow base t size v n xs := by
  refine ⟨h.1, h.2.imp id ?_⟩
  rintro ⟨g, cap, cur, a, b, c, r⟩
  have := hb g cur.toList (by unfold BlockIs; rw [c])
  unfold BlockIs at this
  exact ⟨g, cap, cur, a, b, by rw [this], r⟩
theorem OwnAt.ext {x y : World} {t : TypeId} {cs : List Value} {n : Nat} {va : Option Addr} {lo : Nat} (h : OwnAt x t cs n va lo x.heap.size) (hs : x.heap.size ≤ y.heap.size) (hb : ∀ g r, BlockIs x g t (cs ++ r) → BlockIs y g t (cs ++ r)) : OwnAt y t cs n va lo y.heap.size :=
  h.imp id fun ⟨g, r, a, b, c, d⟩ => ⟨g, r, a, b, Nat.lt_of_lt_of_le c hs, hb g r d⟩
theorem row_block {w : World} {base size n : Nat} {t : TypeId} {v : Value} {xs : List Value} (h : w.ownsRow base t size v n xs) {g : Nat} (hg : v.ownBlock = some g) : ∃ cs, BlockIs w g t cs ∧ base ≤ g := by
  obtain ⟨_, (⟨rfl, _⟩ | ⟨g', cap, cur, rfl, hb, hc, _⟩)⟩ := h
  · cases hg
  · cases hg
    exact ⟨cur.toList, by unfold BlockIs; rw [hc], hb⟩
theorem block_one {w : World} {g : Nat} {t t' : TypeId} {cs cs' : List Value} (h : BlockIs w g t cs) (h' : BlockIs w g t' cs') : t = t' ∧ cs = cs' := by
  unfold BlockIs at h h'
  rw [h] at h'
  simp only [Option.some.injEq, Obj.cells.injEq] at h'
  exact ⟨h'.2.1, by simpa using h'.1⟩
end Go.Proofs.Ytglibbpigmpanaa

namespace Go.Proofs.Ytglibbpigmpanaa
open Go.RowKit

theorem peerR_one (a : PeerD) : ∀ u ∈ peerEnc a, u.oneCell' = true := by
  intro u hu
  simp only [peerEnc, List.mem_cons, List.not_mem_nil, or_false] at hu
  rcases hu with rfl | rfl | rfl | rfl <;> rfl
theorem peerR_all (l : List PeerD) : ∀ u ∈ peerCells l, u.oneCell' = true := by
  intro u hu
  obtain ⟨a, _, h⟩ := List.mem_flatMap.1 hu
  exact peerR_one a u h
theorem peerR_snoc (l : List PeerD) (a : PeerD) : peerCells (l ++ [a]) = peerCells l ++ peerEnc a := by simp [peerCells]
theorem peerR_append (l m : List PeerD) : peerCells (l ++ m) = peerCells l ++ peerCells m := by simp [peerCells]
/-- the cells of a list that lies at an address -/
theorem peers_cells {w : World} {b off : Nat} {l : List PeerD} (h : ∀ j (hj : j < l.length), w.cell? ⟨b, off + j * 4, none⟩ = some (.int .i64 l[j].pid) ∧ w.cell? ⟨b, off + j * 4 + 1, none⟩ = some (.int .i64 l[j].next) ∧ w.cell? ⟨b, off + j * 4 + 2, none⟩ = some (.int .i64 l[j].upto) ∧ w.cell? ⟨b, off + j * 4 + 3, none⟩ = some (.int .i64 l[j].sent)) :
    ∀ j u, (peerCells l)[j]? = some u → w.cell? ((⟨b, off, none⟩ : Addr).add j) = some u := by
  intro j u hu
  have hlt : j < (peerCells l).length := (List.getElem?_eq_some_iff.1 hu).1
  rw [peerCells_length] at hlt
  have hj : j / 4 < l.length := by omega
  have hr := row_at peerEnc 4 (fun _ => rfl) l [] (j / 4) (j % 4) hj (Nat.mod_lt _ (by omega))
  rw [List.append_nil, show j / 4 * 4 + j % 4 = j by omega] at hr
  have hu' : (peerEnc l[j / 4])[j % 4]? = some u := by rw [← hr]; exact hu
  have hadd : (⟨b, off, none⟩ : Addr).add j = ⟨b, off + j, none⟩ := Addr.add_lit _ _ _
  rw [hadd]
  obtain ⟨h0, h1, h2, h3⟩ := h (j / 4) hj
  have h3 : j % 4 = 0 ∨ j % 4 = 1 ∨ j % 4 = 2 ∨ j % 4 = 3 := by omega
  rcases h3 with e | e | e | e
  · rw [e] at hu'
    rw [show off + j = off + j / 4 * 4 by omega, h0]
    exact hu'
  · rw [e] at hu'
    rw [show off + j = off + j / 4 * 4 + 1 by omega, h1]
    exact hu'
  · rw [e] at hu'
    rw [show off + j = off + j / 4 * 4 + 2 by omega, h2]
    exact hu'
  · rw [e] at hu'
    rw [show off + j = off + j / 4 * 4 + 3 by omega, h3]
    exact hu'
theorem peerR_below {w w2 : World} {base n : Nat} {v : Value} {xs : List Value} (h : w.ownsRow base 67 4 v n xs) (hb : Below w.heap.size w w2) : w2.ownsRow base 67 4 v n xs := by
  refine h.kept (grown_of_below hb none) ?_
  cases v.ownBlock with
  | none => exact Or.inl rfl
  | some g => exact Or.inr (by simp)
theorem peerR_block {w : World} {base n j : Nat} {v : Value} {xs : List Value} (h : w.ownsRow base 67 4 v n xs) (hv : v.ownBlock = some j) : base ≤ j ∧ ∃ cs, BlockIs w j 67 cs := by
  rcases h.2 with ⟨rfl, _⟩ | ⟨g, cap, cur, rfl, hb, hh, _⟩
  · simp [Value.ownBlock] at hv
  · have : g = j := by simpa [Value.ownBlock] using hv
    subst this
    exact ⟨hb, cur.toList, by unfold BlockIs; rw [hh]⟩
/-- a block of another type stands where a row grows -/
theorem peerR_other {w w1 : World} {base n g : Nat} {t : TypeId} {v : Value} {xs cs : List Value} (h : BlockIs w g t cs) (hr : w.ownsRow base 67 4 v n xs) (hg : w.grownBy w1 v.ownBlock) (ht : t ≠ 67) : BlockIs w1 g t cs := by
  have hlt := h.lt
  unfold BlockIs at h ⊢
  rw [hg.block g hlt ?_]
  · exact h
  · intro e
    obtain ⟨_, cs2, h2⟩ := peerR_block hr e.symm
    unfold BlockIs at h2
    rw [h] at h2
    simp only [Option.some.injEq, Obj.cells.injEq] at h2
    exact ht h2.2.1
theorem peerR_down {w w1 w2 : World} {m base n : Nat} {v : Value} {xs : List Value} (h : Below m w w1) (hr : w1.ownsRow base 67 4 v n xs) (hg : w1.grownBy w2 v.ownBlock) (hb : m ≤ base) (hm : m ≤ w1.heap.size) : Below m w w2 :=
  h.grown hg hm (fun k e => by have := (peerR_block hr e).1; omega)
theorem peerR_nil (w : World) (m : Nat) (hm : m ≤ w.heap.size) : World.ownsRow (w.alloc (.cells #[] 67)) m 67 4 (.slice (some ⟨w.heap.size, 0, none⟩) 0 0) 0 (peerCells []) :=
  row_down (World.ownsRow_made w (size := 4) (e := 67) #[] 0 (Nat.le_refl _) (Nat.zero_le _) rfl) hm
/-- one that is laid by itself -/
theorem peerR_new (w : World) (a : PeerD) : ∀ j u, (peerEnc a)[j]? = some u → (w.alloc (.cells #[.int .i64 a.pid, .int .i64 a.next, .int .i64 a.upto, .int .i64 a.sent] 67)).cell? ((⟨w.heap.size, 0, none⟩ : Addr).add j) = some u := by
  intro j u hu
  rw [Addr.add_lit, Nat.zero_add]
  exact (show BlockIs _ _ 67 (peerEnc a) from heap_alloc_new w _).cell hu
/-- a list behind a row of the call's own -/
theorem append_peers {W : World} {v : Value} {base c : Nat} {L M : List PeerD} {ao : Option Addr} (hn : L.length + M.length ≤ 2097153) (hbase : base ≤ W.heap.size) (hr : W.ownsRow base 67 4 v L.length (peerCells L)) (hM : PeersAt W ao M) :
    ∃ v' W', (Builtin.append_ #[33, 33] 33 #[v, .slice ao M.length c]).run Try.prog W = .ok v' W' ∧ W'.ownsRow base 67 4 v' (L ++ M).length (peerCells (L ++ M)) ∧ W.grownBy W' v.ownBlock := by
  obtain ⟨i0, hi, hz0, hz1, hz2⟩ := info_parts toPeer_info
  rw [List.length_append, peerR_append]
  cases ao with
  | none =>
    have hM0 : M = [] := by
      by_cases hne : M = []
      · exact hne
      · obtain ⟨b, off, e, _⟩ := hM hne
        cases e
    subst hM0
    refine ⟨v, W, ?_, by simpa [peerCells] using hr, World.grownBy.refl _ _⟩
    obtain ⟨va, vc, rfl⟩ := row_shape hr
    have hlc : L.length ≤ vc := by
      rcases hr.2 with ⟨hq, hz⟩ | ⟨_, cp, _, hq, _, _, hle, _⟩
      · omega
      · simp only [Value.slice.injEq] at hq
        omega
    cases va <;> simp [Builtin.append_, run_underlying Try.underlying33, sizeOf, typeInfo, hi, Builtin.lenOf, Builtin.firstCells, storeCells, hlc]
  | some ad =>
    have hnews : ∀ j u, (peerCells M)[j]? = some u → W.cell? (ad.add j) = some u := by
      by_cases hne : M = []
      · subst hne
        intro j u hu
        simp [peerCells] at hu
      · obtain ⟨b, off, e, hc⟩ := hM hne
        cases e
        exact peers_cells hc
    obtain ⟨v', W', h1, h2, h3, _⟩ := run_append_own (P := Try.prog) W base 33 33 67 i0 _ 4 32 Try.underlying33 hi hz0 hz1 hz2 rfl (by decide) v L.length _ hr ad M.length c (peerCells M) (peerCells_length M) hnews (peerR_all M) (by unfold maxLen; omega) (by omega) hbase
    exact ⟨v', W', h1, h2, h3⟩
theorem wpList_append_peers {w : World} {ops : Array Oper} {rest : List Oper} {o : Oper} {a : Act} {Q : Exit → Act → World → Prop} (hgd : o.guard = none) (s x : Operand)
    (ho : o.op = .call { callee := .builtin .append, args := #[s, x], argTypes := #[33, 33] }) (hty : o.type = 33) {v : Value} {base c m N : Nat} {L M : List PeerD} {ao : Option Addr} (hs : a.eval s = v) (hx : a.eval x = .slice ao m c)
    (hm : M.length = m) (hN : (L ++ M).length = N) (hn : N ≤ 2097153) (hbase : base ≤ w.heap.size) (hr : w.ownsRow base 67 4 v L.length (peerCells L)) (hM : PeersAt w ao M)
    (h : ∀ va vc w1, w1.ownsRow base 67 4 (.slice va N vc) N (peerCells (L ++ M)) → w.grownBy w1 v.ownBlock → wpList Try.prog ops Q rest (a.put o.dst (.slice va N vc)) w1) : wpList Try.prog ops Q (o :: rest) a w := by
  subst hm hN
  obtain ⟨v', W', hrun, h2, h3⟩ := append_peers (c := c) (by rw [← List.length_append]; exact hn) hbase hr hM
  obtain ⟨va, vc, rfl⟩ := row_shape h2
  refine wpList_plain hgd fun K hK => ?_
  unfold Oper.wp
  simp [execOp, ho, hty, resolve, invoke, builtin, hs, hx, hrun, Result.andThen]
  have h4 := h va vc W' h2 h3
  rw [List.length_append] at h4
  exact hK _ _ h4
/-- they lie there -/
theorem peerR_at {w : World} {base : Nat} {va : Option Addr} {vc : Nat} {l : List PeerD} (h : w.ownsRow base 67 4 (.slice va l.length vc) l.length (peerCells l)) : PeersAt w va l := by
  rcases h.2 with ⟨hv, h0⟩ | ⟨g, cp, cur, hv, _, hh, _, _, _, ht⟩
  · exact fun hne => absurd (List.length_eq_zero_iff.1 h0) hne
  · simp only [Value.slice.injEq] at hv
    obtain ⟨rfl, _, rfl⟩ := hv
    have hcur : cur.toList = peerCells l ++ cur.toList.drop (l.length * 4) := by rw [← ht, List.take_append_drop]
    exact peersAt_of (r := cur.toList.drop (l.length * 4)) (by unfold BlockIs; rw [hh, ← hcur])
end Go.Proofs.Ytglibbpigmpanaa

namespace Go.Proofs.Ytglibbpigmpanaa
open Go.RowKit Go.Sort

/-- a row that is no nil -/
def RowS (ao : Option Addr) : Prop := ∃ b off, ao = some ⟨b, off, none⟩
structure NodeLies (p : NodeL) : Prop where
  conf : RowS p.co
  ents : RowS p.eo
  votes : RowS p.vo
  peers : RowS p.po
structure NodeRows (W : World) (lo : Nat) (d : NodeD) (p : NodeL) : Prop where
  conf : W.ownsRow lo 3 1 (.slice p.co d.conf.length p.cc) d.conf.length (intCells d.conf)
  ents : W.ownsRow lo 69 3 (.slice p.eo d.ents.length p.ec) d.ents.length (entCells d.ents)
  votes : W.ownsRow lo 3 1 (.slice p.vo d.votes.length p.vc) d.votes.length (intCells d.votes)
  peers : W.ownsRow lo 67 4 (.slice p.po d.peers.length p.pc) d.peers.length (peerCells d.peers)
  apart : ∀ g, (Value.slice p.co d.conf.length p.cc).ownBlock = some g → (Value.slice p.vo d.votes.length p.vc).ownBlock ≠ some g
theorem entsN_at {w : World} {base : Nat} {va : Option Addr} {vc : Nat} {l : List EntD} (h : w.ownsRow base 69 3 (.slice va l.length vc) l.length (entCells l)) : EntsAt w va l := by
  rcases h.2 with ⟨hv, h0⟩ | ⟨g, cp, cur, hv, _, hh, _, _, _, ht⟩
  · exact fun hne => absurd (List.length_eq_zero_iff.1 h0) hne
  · simp only [Value.slice.injEq] at hv
    obtain ⟨rfl, _, rfl⟩ := hv
    have hcur : cur.toList = entCells l ++ cur.toList.drop (l.length * 3) := by rw [← ht, List.take_append_drop]
    exact entsAt_of (r := cur.toList.drop (l.length * 3)) (by unfold BlockIs; rw [hh, ← hcur])
theorem NodeRows.at {W : World} {lo : Nat} {d : NodeD} {p : NodeL} (h : NodeRows W lo d p) : NodeAt W d p := ⟨ints_row rfl h.conf, entsN_at h.ents, ints_row rfl h.votes, peerR_at h.peers⟩
theorem NodeRows.on {W W' : World} {lo : Nat} {d : NodeD} {p : NodeL} (h : NodeRows W lo d p) (hb : Below W.heap.size W W') : NodeRows W' lo d p :=
  ⟨row_ext h.conf fun _ _ h9 => h9.on hb h9.lt, row_ext h.ents fun _ _ h9 => h9.on hb h9.lt, row_ext h.votes fun _ _ h9 => h9.on hb h9.lt, row_ext h.peers fun _ _ h9 => h9.on hb h9.lt, h.apart⟩
theorem NodeRows.down {W : World} {lo lo' : Nat} {d : NodeD} {p : NodeL} (h : NodeRows W lo d p) (hl : lo' ≤ lo) : NodeRows W lo' d p := ⟨row_down h.conf hl, row_down h.ents hl, row_down h.votes hl, row_down h.peers hl, h.apart⟩
theorem NodeRows.other {W W' : World} {lo : Nat} {d : NodeD} {p : NodeL} (h : NodeRows W lo d p) (hb : ∀ g t cs, BlockIs W g t cs → t ≠ 35 → BlockIs W' g t cs) : NodeRows W' lo d p :=
  ⟨row_ext h.conf fun g cs h9 => hb g _ cs h9 (by decide), row_ext h.ents fun g cs h9 => hb g _ cs h9 (by decide), row_ext h.votes fun g cs h9 => hb g _ cs h9 (by decide), row_ext h.peers fun g cs h9 => hb g _ cs h9 (by decide), h.apart⟩
end Go.Proofs.Ytglibbpigmpanaa

namespace Go.Proofs.Ytglibbpigmpanaa
open Go.RowKit

def peersD (d : NodeD) : Bool := peersAre d.peers (othersD (confIn d.conf d.ents) d.id) (lastD d)
/-- what the role asks of votes and peers -/
def roleI (d : NodeD) : Bool :=
  if d.role = 0 then decide (d.votes.length = 0) && decide (d.peers.length = 0)
  else if d.role = 1 then riseTo d.votes d.votes.length && decide (d.peers.length = 0)
  else if d.role = 2 then decide (d.votes.length = 0) && peersD d
  else false
theorem no_votes {zs : List Int} (h : zs.length = 0) : riseTo zs zs.length = true := by
  rw [List.eq_nil_of_length_eq_zero h]
  rfl
theorem role_is {d : NodeD} (hh : nodeHead d = true) : (within d.role 0 2 && roleD d) = roleI d := by
  rw [nodeHead, Bool.and_eq_true, Bool.and_eq_true] at hh
  have hc : confTo d.conf d.ents d.ents.length = confIn d.conf d.ents := (conf_both _ _ (logOk_each hh.2)).symm
  unfold roleI roleD peersD
  rw [hc]
  by_cases h0 : d.role = 0
  · rw [if_pos h0, within_yes (by omega) (by omega), if_neg (by omega), decide_eq_false (show ¬ d.role = 1 by omega), Bool.or_false]
    by_cases hv : d.votes.length = 0
    · rw [no_votes hv]; simp [hv]
    · simp [hv]
  · rw [if_neg h0]
    by_cases h1 : d.role = 1
    · rw [if_pos h1, within_yes (by omega) (by omega), if_neg (by omega), decide_eq_true h1, Bool.or_true]
      simp
    · rw [if_neg h1]
      by_cases h2 : d.role = 2
      · rw [if_pos h2, within_yes (by omega) (by omega), if_pos h2, decide_eq_false h1, Bool.or_false]
        by_cases hv : d.votes.length = 0
        · rw [no_votes hv]; simp [hv]
        · simp [hv]
      · rw [if_neg h2, if_neg h2, within_no (by omega), Bool.false_and]
theorem lastT_low : ∀ (t : Int) (l : List EntD), 0 ≤ t → termsOk t l = true → 0 ≤ lastT t l
  | _, [], h, _ => h
  | t, e :: r, h, ht => by
    rw [termsOk, Bool.and_eq_true, Bool.and_eq_true] at ht
    have := of_decide_eq_true ht.1.2
    exact lastT_low e.term r (by omega) ht.2
theorem node_last {d : NodeD} (hh : nodeHead d = true) : 0 ≤ d.start ∧ d.start ≤ 1000000 ∧ d.ents.length ≤ 60 ∧ lastD d ≤ 1000000 ∧ 0 ≤ lastT d.sterm d.ents ∧ d.conf.length ≤ 4 ∧ d.conf ≠ [] ∧ confOk (confIn d.conf d.ents) = true := by
  rw [nodeHead, Bool.and_eq_true, Bool.and_eq_true] at hh
  obtain ⟨⟨_, h2⟩, h3⟩ := hh
  have hl := logOk_iff.1 h3
  refine ⟨hl.1.1, hl.1.2, hl.2.2.1, hl.2.2.2.1, lastT_low _ _ hl.2.1.1 hl.2.2.2.2, (confOk_len h2).2, fun e => ?_, ?_⟩
  · have := (confOk_len h2).1
    rw [e] at this
    simp at this
  · rw [conf_both _ _ (logOk_each h3)]
    exact confTo_ok _ _ h2 _ (Nat.le_refl _)
theorem nodeOk_is {d : NodeD} (hh : nodeHead d = true) : nodeOk d = (decide (lastT d.sterm d.ents ≤ d.term) && decide (d.term ≤ 100000) && within d.vote 0 4 && within d.lead 0 4 && decide (d.start ≤ d.commit) && decide (d.commit ≤ lastD d) && decide (0 ≤ d.clock) && decide (d.clock ≤ 20) && within d.limit 1 20 && roleI d) := by
  rw [← role_is hh, nodeOk, hh, Bool.true_and]
  have h5 := (node_last hh).2.2.2.2.1
  unfold nodeMid
  rw [Bool.eq_iff_iff]
  simp only [Bool.and_eq_true, within_iff, decide_eq_true_eq]
  constructor
  · rintro ⟨⟨⟨⟨⟨⟨⟨⟨a1, a2⟩, a3⟩, a4⟩, a5⟩, a6⟩, a7⟩, a8⟩, a9⟩
    exact ⟨⟨⟨⟨⟨⟨⟨⟨⟨a5, a1.2⟩, a2⟩, a3⟩, a6.1⟩, a6.2⟩, a7.1⟩, a7.2⟩, a8⟩, a4, a9⟩
  · rintro ⟨⟨⟨⟨⟨⟨⟨⟨⟨a5, a12⟩, a2⟩, a3⟩, a61⟩, a62⟩, a71⟩, a72⟩, a8⟩, a4, a9⟩
    exact ⟨⟨⟨⟨⟨⟨⟨⟨⟨by omega, a12⟩, a2⟩, a3⟩, a4⟩, a5⟩, a61, a62⟩, a71, a72⟩, a8⟩, a9⟩
theorem nodeOk_no {d : NodeD} (hh : nodeHead d = false) : nodeOk d = false := by rw [nodeOk, hh]; rfl
theorem peersTo_step {ps : List PeerD} {os : List Int} {last : Int} {k : Nat} (h1 : k < ps.length) (h2 : k < os.length) : peersTo ps os last (k + 1) = (peersTo ps os last k && (decide (ps[k].pid = os[k]) && peerOk ps[k] last)) := by
  rw [peersTo, List.getElem?_eq_getElem h1, List.getElem?_eq_getElem h2]
theorem peersTo_down {ps : List PeerD} {os : List Int} {last : Int} {n k : Nat} (h : peersTo ps os last n = true) (hk : k ≤ n) : peersTo ps os last k = true := by
  induction n with
  | zero => obtain rfl : k = 0 := by omega
            exact h
  | succ n ih =>
    by_cases he : k = n + 1
    · subst he; exact h
    · rw [peersTo, Bool.and_eq_true] at h
      exact ih h.1 (by omega)
theorem peers_no {ps : List PeerD} {os : List Int} {last : Int} {k : Nat} (h1 : k < ps.length) (h2 : k < os.length) (h : (decide (ps[k].pid = os[k]) && peerOk ps[k] last) = false) : peersAre ps os last = false := by
  cases hp : peersAre ps os last with
  | false => rfl
  | true =>
    rw [peersAre, Bool.and_eq_true] at hp
    have := peersTo_down hp.2 (show k + 1 ≤ os.length from h2)
    rw [peersTo_step h1 h2, h, Bool.and_false] at this
    cases this
end Go.Proofs.Ytglibbpigmpanaa

namespace Go.Proofs.Ytglibbpigmpanaa
open Go.RowKit Go.Sort

def newD (i : Int) (zs : List Int) (l : Int) : NodeD := ⟨i, 0, 0, 0, 0, zs, 0, 0, [], 0, 0, l, [], []⟩
theorem newD_small {i l : Int} {zs : List Int} (h : zs.length ≤ 1048576) : (newD i zs l).Small := ⟨h, Nat.zero_le _, (fun f hf => by cases hf), Nat.zero_le _, Nat.zero_le _⟩
theorem newD_at {i l : Int} {zs : List Int} {W : World} {co eo vo po : Option Addr} {cc ec vc pc : Nat} (h : IntsAt W co zs) : NodeAt W (newD i zs l) ⟨co, cc, eo, ec, vo, vc, po, pc⟩ :=
  ⟨h, fun q => absurd rfl q, fun q => absurd rfl q, fun q => absurd rfl q⟩
def newI (i : Int) (zs : List Int) : Int := if nodeOk (newD i zs 20) = true then i else 0
def newC (i : Int) (zs : List Int) : List Int := if nodeOk (newD i zs 20) = true then zs else []
def newL (i : Int) (zs : List Int) : Int := if nodeOk (newD i zs 20) = true then 20 else 0
def newDid (ok : Bool) (I : Int) (C : List Int) (L : Int) (w : World) (e : Ending) (w' : World) : Prop :=
  ∃ co cc eo ec, e = .returned (.tuple #[.agg #[.int .i64 I, .int .i64 0, .int .i64 0, .int .i64 0, .int .i64 0, .slice co C.length cc, .int .i64 0, .int .i64 0, .slice eo 0 ec, .int .i64 0, .int .i64 0, .int .i64 L, .slice none 0 0, .slice none 0 0], .bool ok]) ∧ w'.ownsRow w.heap.size 3 1 (.slice co C.length cc) C.length (intCells C) ∧ Below w.heap.size w w'
theorem new_conf {i : Int} {zs : List Int} (h : nodeOk (newD i zs 20) = true) : zs ≠ [] := by
  rw [nodeOk, Bool.and_eq_true, Bool.and_eq_true] at h
  exact (node_last h.1.1).2.2.2.2.2.2.1
theorem newC_small {i : Int} {zs : List Int} (h : zs.length ≤ 1048576) : (newC i zs).length ≤ 1048576 := by
  unfold newC
  split
  · exact h
  · exact Nat.zero_le _
end Go.Proofs.Ytglibbpigmpanaa

namespace Go.Proofs.Ytglibbpigmpanaa
open Go.RowKit Go.Sort

theorem confTo_take (c : List Int) (l : List EntD) (m : Nat) : ∀ k, k ≤ m → confTo c (l.take m) k = confTo c l k
  | 0, _ => rfl
  | k + 1, hk => by
    rw [confTo, confTo, List.getElem?_take, if_pos (by omega), confTo_take c l m k (by omega)]
def setOk (d : NodeD) (x : Int) : Bool := nodeOk d && within x d.start d.commit
def setD (d : NodeD) (x : Int) : NodeD := ⟨d.id, d.term, d.vote, d.role, d.lead, confTo d.conf d.ents (min d.ents.length (x - d.start).toNat), x, logTerm d.start d.sterm d.ents x, behindAns d.start d.sterm d.ents x (logTerm d.start d.sterm d.ents x), d.commit, d.clock, d.limit, d.votes, d.peers⟩
def setR (d : NodeD) (x : Int) : NodeD := if setOk d x = true then setD d x else newD 0 [] 0
/-- its rows are the call's own; of the entries no more than they -/
structure SetRows (W : World) (lo : Nat) (d : NodeD) (p : NodeL) : Prop where
  conf : W.ownsRow lo 3 1 (.slice p.co d.conf.length p.cc) d.conf.length (intCells d.conf)
  ents : OwnAt W 69 (entCells d.ents) d.ents.length p.eo lo W.heap.size
  votes : W.ownsRow lo 3 1 (.slice p.vo d.votes.length p.vc) d.votes.length (intCells d.votes)
  peers : W.ownsRow lo 67 4 (.slice p.po d.peers.length p.pc) d.peers.length (peerCells d.peers)
  apart : ∀ g, (Value.slice p.co d.conf.length p.cc).ownBlock = some g → (Value.slice p.vo d.votes.length p.vc).ownBlock ≠ some g
theorem ownEnts_at {W : World} {lo hi : Nat} {va : Option Addr} {l : List EntD} (h : OwnAt W 69 (entCells l) l.length va lo hi) : EntsAt W va l := by
  rcases h with h0 | ⟨g, r, rfl, _, _, hb⟩
  · exact fun q => absurd (List.eq_nil_of_length_eq_zero h0) q
  · exact entsAt_of hb
theorem SetRows.at {W : World} {lo : Nat} {d : NodeD} {p : NodeL} (h : SetRows W lo d p) : NodeAt W d p := ⟨ints_row rfl h.conf, ownEnts_at h.ents, ints_row rfl h.votes, peerR_at h.peers⟩
theorem SetRows.on {W W' : World} {lo : Nat} {d : NodeD} {p : NodeL} (h : SetRows W lo d p) (hb : Below W.heap.size W W') : SetRows W' lo d p :=
  ⟨row_ext h.conf fun _ _ h9 => h9.on hb h9.lt, (h.ents.on hb).down (Nat.le_refl _) hb.size, row_ext h.votes fun _ _ h9 => h9.on hb h9.lt, row_ext h.peers fun _ _ h9 => h9.on hb h9.lt, h.apart⟩
theorem setRows_none (W : World) (lo : Nat) : SetRows W lo (newD 0 [] 0) ⟨none, 0, none, 0, none, 0, none, 0⟩ := ⟨⟨rfl, Or.inl ⟨rfl, rfl⟩⟩, Or.inl rfl, ⟨rfl, Or.inl ⟨rfl, rfl⟩⟩, ⟨rfl, Or.inl ⟨rfl, rfl⟩⟩, fun g h => by cases h⟩
def setDid (ok : Bool) (D : NodeD) (w : World) (e : Ending) (w' : World) : Prop := ∃ q : NodeL, e = .returned (.tuple #[.agg #[.int .i64 D.id, .int .i64 D.term, .int .i64 D.vote, .int .i64 D.role, .int .i64 D.lead, .slice q.co D.conf.length q.cc, .int .i64 D.start, .int .i64 D.sterm, .slice q.eo D.ents.length q.ec, .int .i64 D.commit, .int .i64 D.clock, .int .i64 D.limit, .slice q.vo D.votes.length q.vc, .slice q.po D.peers.length q.pc], .bool ok]) ∧ SetRows w' w.heap.size D q ∧ Below w.heap.size w w'
end Go.Proofs.Ytglibbpigmpanaa

namespace Go.Proofs.Ytglibbpigmpanaa
open Go.RowKit

theorem append_ints {W : World} {v : Value} {base b off c : Nat} {L zs : List Int} (hL : L.length + zs.length ≤ 2097153) (hbase : base ≤ W.heap.size) (hr : W.ownsRow base 3 1 v L.length (intCells L)) (hc : ∀ j (hj : j < zs.length), W.cell? ⟨b, off + j, none⟩ = some (.int .i64 zs[j])) :
    ∃ v' W', (Builtin.append_ #[22, 22] 22 #[v, .slice (some ⟨b, off, none⟩) zs.length c]).run Try.prog W = .ok v' W' ∧ W'.ownsRow base 3 1 v' (L.length + zs.length) (intCells L ++ intCells zs) ∧ W.grownBy W' v.ownBlock := by
  obtain ⟨i0, hi, hz0, hz1, hz2⟩ := info_parts int_info
  have hnews : ∀ j u, (intCells zs)[j]? = some u → W.cell? ((⟨b, off, none⟩ : Addr).add j) = some u := by
    intro j u hu
    rw [Addr.add_lit]
    rw [intCells, List.getElem?_map, Option.map_eq_some_iff] at hu
    obtain ⟨z, hz, rfl⟩ := hu
    obtain ⟨hj, rfl⟩ := List.getElem?_eq_some_iff.1 hz
    exact hc j hj
  have hone : ∀ u ∈ intCells zs, u.oneCell' = true := by
    intro u hu
    rw [intCells, List.mem_map] at hu
    obtain ⟨z, _, rfl⟩ := hu
    rfl
  obtain ⟨v', W', h1, h2, h3, _⟩ := run_append_own (P := Try.prog) W base 22 22 3 i0 _ 1 8 Try.underlying22 hi hz0 hz1 hz2 rfl (by decide) v L.length _ hr ⟨b, off, none⟩ zs.length c (intCells zs) (by simp [intCells]) hnews hone (by unfold maxLen; omega) (by omega) hbase
  exact ⟨v', W', h1, h2, h3⟩
theorem wpList_append_ints {w : World} {ops : Array Oper} {rest : List Oper} {o : Oper} {a : Act} {Q : Exit → Act → World → Prop} (hgd : o.guard = none) (s x : Operand)
    (ho : o.op = .call { callee := .builtin .append, args := #[s, x], argTypes := #[22, 22] }) (hty : o.type = 22) {v : Value} {base b off c n : Nat} {L zs : List Int} (hs : a.eval s = v) (hx : a.eval x = .slice (some ⟨b, off, none⟩) n c) (hn : zs.length = n)
    (hL : L.length + zs.length ≤ 2097153) (hbase : base ≤ w.heap.size) (hr : w.ownsRow base 3 1 v L.length (intCells L)) (hc : ∀ j (hj : j < zs.length), w.cell? ⟨b, off + j, none⟩ = some (.int .i64 zs[j]))
    (h : ∀ va vc w1, w1.ownsRow base 3 1 (.slice va (L ++ zs).length vc) (L ++ zs).length (intCells (L ++ zs)) → w.grownBy w1 v.ownBlock → wpList Try.prog ops Q rest (a.put o.dst (.slice va (L ++ zs).length vc)) w1) : wpList Try.prog ops Q (o :: rest) a w := by
  subst hn
  obtain ⟨v', W', hrun, h2, h3⟩ := append_ints (c := c) hL hbase hr hc
  have e1 : intCells L ++ intCells zs = intCells (L ++ zs) := by simp [intCells]
  have e2 : L.length + zs.length = (L ++ zs).length := by simp
  rw [e1, e2] at h2
  obtain ⟨va, vc, rfl⟩ := row_shape h2
  refine wpList_plain hgd fun K hK => ?_
  unfold Oper.wp
  simp [execOp, ho, hty, resolve, invoke, builtin, hs, hx, hrun, Result.andThen]
  have h4 := h va vc W' h2 h3
  rw [List.length_append] at h4
  exact hK _ _ h4
theorem no_ints {W : World} {g base : Nat} (h : W.heap[g]? = some (.cells #[] 3)) (hg : base ≤ g) : W.ownsRow base 3 1 (.slice (some ⟨g, 0, none⟩) 0 0) 0 (intCells []) :=
  ⟨rfl, Or.inr ⟨g, 0, #[], rfl, hg, h, Nat.le_refl _, Nat.zero_le _, rfl, rfl⟩⟩
end Go.Proofs.Ytglibbpigmpanaa

namespace Go.Proofs.Ytglibbpigmpanaa
open Go.RowKit Go.Sort

/-- a row of ints, made by the call -/
def confDid (zs : List Int) (w : World) (e : Ending) (w' : World) : Prop := ∃ va vc, e = .returned (.slice va zs.length vc) ∧ w'.ownsRow w.heap.size 3 1 (.slice va zs.length vc) zs.length (intCells zs) ∧ Below w.heap.size w w'
end Go.Proofs.Ytglibbpigmpanaa

namespace Go.Proofs.Ytglibbpigmpanaa
open Go.RowKit

theorem OwnAt.ents {w : World} {l : List EntD} {va : Option Addr} {lo hi : Nat} (h : OwnAt w 69 (entCells l) l.length va lo hi) : EntsAt w va l := by
  rcases h with h | ⟨g, r, rfl, _, _, h⟩
  · intro h0
    exact absurd (List.length_eq_zero_iff.1 h) h0
  · exact entsAt_of h
theorem own_of_ents {w : World} {base g : Nat} {l : List EntD} (hb : base ≤ g) (hk : BlockIs w g 69 (entCells l)) : OwnAt w 69 (entCells l) l.length (some ⟨g, 0, none⟩) base w.heap.size :=
  Or.inr ⟨g, [], rfl, hb, hk.lt, by rw [List.append_nil]; exact hk⟩
/-- entries in a row of the call's own -/
theorem own_of_row {w : World} {base : Nat} {v : Value} {l : List EntD} (h : w.ownsRow base 69 3 v l.length (entCells l)) : ∃ va vc, v = .slice va l.length vc ∧ l.length ≤ vc ∧ OwnAt w 69 (entCells l) l.length va base w.heap.size := by
  obtain ⟨_, (⟨rfl, h0⟩ | ⟨g, cap, cur, rfl, hb, hg, hc, _, _, ht⟩)⟩ := h
  · exact ⟨none, 0, by rw [h0], by omega, Or.inl h0⟩
  · have hcur : cur.toList = entCells l ++ cur.toList.drop (l.length * 3) := by rw [← ht, List.take_append_drop]
    have hk : BlockIs w g 69 (entCells l ++ cur.toList.drop (l.length * 3)) := by
      unfold BlockIs
      rw [hg, ← hcur]
    exact ⟨_, _, rfl, hc, Or.inr ⟨g, _, rfl, hb, hk.lt, hk⟩⟩
end Go.Proofs.Ytglibbpigmpanaa

namespace Go.Proofs.Ytglibbpigmpanaa
open Go.RowKit

theorem EntsAt.drop {w : World} {b off : Nat} {l : List EntD} (h : EntsAt w (some ⟨b, off, none⟩) l) (k : Nat) : EntsAt w (some ⟨b, off + k * 3, none⟩) (l.drop k) := by
  intro hne
  obtain ⟨b', off', e, hc⟩ := h (by intro e; rw [e] at hne; simp at hne)
  simp only [Option.some.injEq, Addr.mk.injEq, and_true] at e
  obtain ⟨rfl, rfl⟩ := e
  refine ⟨b, off + k * 3, rfl, fun j hj => ?_⟩
  have hj2 : k + j < l.length := by simp at hj; omega
  have := hc (k + j) hj2
  simp only [List.getElem_drop]
  rw [show off + k * 3 + j * 3 = off + (k + j) * 3 by omega]
  exact this

theorem entCells_one (l : List EntD) : ∀ u ∈ entCells l, u.oneCell' = true := by
  intro u hu
  simp only [entCells, List.mem_flatMap] at hu
  obtain ⟨e, _, hu⟩ := hu
  simp only [entEnc, List.mem_cons, List.not_mem_nil, or_false] at hu
  rcases hu with rfl | rfl | rfl <;> rfl
/-- a cell of entries that lie in memory -/
theorem ents_cells {w : World} {b off : Nat} {l : List EntD} (h : ∀ j (hj : j < l.length), w.cell? ⟨b, off + j * 3, none⟩ = some (.int .i64 l[j].term) ∧ w.cell? ⟨b, off + j * 3 + 1, none⟩ = some (.int .i64 l[j].kind) ∧ w.cell? ⟨b, off + j * 3 + 2, none⟩ = some (.string l[j].data)) :
    ∀ j u, (entCells l)[j]? = some u → w.cell? ((⟨b, off, none⟩ : Addr).add j) = some u := by
  intro j u hu
  have hlt : j < (entCells l).length := (List.getElem?_eq_some_iff.1 hu).1
  rw [entCells_length] at hlt
  have hj : j / 3 < l.length := by omega
  have hr := row_at entEnc 3 (fun _ => rfl) l [] (j / 3) (j % 3) hj (Nat.mod_lt _ (by omega))
  rw [List.append_nil, show j / 3 * 3 + j % 3 = j by omega] at hr
  have hu' : (entEnc l[j / 3])[j % 3]? = some u := by rw [← hr]; exact hu
  have hadd : (⟨b, off, none⟩ : Addr).add j = ⟨b, off + j, none⟩ := Addr.add_lit _ _ _
  rw [hadd]
  obtain ⟨h0, h1, h2⟩ := h (j / 3) hj
  have h3 : j % 3 = 0 ∨ j % 3 = 1 ∨ j % 3 = 2 := by omega
  rcases h3 with e | e | e
  · rw [e] at hu'
    simp only [entEnc, List.getElem?_cons_zero, Option.some.injEq] at hu'
    rw [← hu', show off + j = off + j / 3 * 3 by omega]
    exact h0
  · rw [e] at hu'
    simp only [entEnc, List.getElem?_cons_succ, List.getElem?_cons_zero, Option.some.injEq] at hu'
    rw [← hu', show off + j = off + j / 3 * 3 + 1 by omega]
    exact h1
  · rw [e] at hu'
    simp only [entEnc, List.getElem?_cons_succ, List.getElem?_cons_zero, Option.some.injEq] at hu'
    rw [← hu', show off + j = off + j / 3 * 3 + 2 by omega]
    exact h2
theorem set_same {cs : List Value} {i : Nat} {v : Value} (h : cs[i]? = some v) : cs.set i v = cs := by
  apply List.ext_getElem?
  intro j
  rw [List.getElem?_set]
  split
  · rename_i e
    subst e
    rw [h]
    have := (List.getElem?_eq_some_iff.1 h).1
    simp [this]
  · rfl
end Go.Proofs.Ytglibbpigmpanaa

namespace Go.Proofs.Ytglibbpigmpanaa
open Go.RowKit

/-- entries behind an empty list -/
theorem append_ents {W : World} {g0 : Nat} (h0 : BlockIs W g0 69 []) {vo : Option Addr} {L : List EntD} {c : Nat} (hL : L.length ≤ 1048577) (hE : EntsAt W vo L) :
    ∃ v' W', (Builtin.append_ #[30, 30] 30 #[.slice (some ⟨g0, 0, none⟩) 0 0, .slice vo L.length c]).run Try.prog W = .ok v' W' ∧ W'.ownsRow g0 69 3 v' L.length (entCells L) ∧ W.grownBy W' (some g0) := by
  obtain ⟨i0, hi, hz0, hz1, hz2⟩ := info_parts toEnt_info
  have hown : W.ownsRow g0 69 3 (.slice (some ⟨g0, 0, none⟩) 0 0) 0 [] := ⟨by simp, Or.inr ⟨g0, 0, #[], rfl, Nat.le_refl _, h0, by omega, by unfold maxLen; omega, by simp, by simp⟩⟩
  cases vo with
  | some ad =>
    have hnews : ∀ j u, (entCells L)[j]? = some u → W.cell? (ad.add j) = some u := by
      by_cases hne : L = []
      · subst hne
        intro j u hu
        simp [entCells] at hu
      · obtain ⟨b, off, e, hc⟩ := hE hne
        cases e
        exact ents_cells hc
    obtain ⟨v', W', hr, h2, h3, _⟩ := run_append_own (P := Try.prog) W g0 30 30 69 i0 _ 3 32 Try.underlying30 hi hz0 hz1 hz2 rfl (by decide) _ 0 [] hown ad L.length c (entCells L) (entCells_length L) hnews (entCells_one L) (by unfold maxLen; omega) (by omega) (Nat.le_of_lt h0.lt)
    rw [Nat.zero_add, List.nil_append] at h2
    exact ⟨v', W', hr, h2, h3⟩
  | none =>
    have hne : L = [] := by
      by_cases hne : L = []
      · exact hne
      · obtain ⟨b, off, e, _⟩ := hE hne
        cases e
    subst hne
    refine ⟨.slice (some ⟨g0, 0, none⟩) 0 0, W, ?_, hown, World.grownBy.refl _ _⟩
    simp [Builtin.append_, run_underlying Try.underlying30, sizeOf, typeInfo, hi, Builtin.lenOf, Builtin.firstCells, storeCells]
/-- nothing behind an empty list -/
theorem append_nothing {W : World} {g0 : Nat} (vo : Option Addr) (c : Nat) : (Builtin.append_ #[30, 30] 30 #[.slice (some ⟨g0, 0, none⟩) 0 0, .slice vo 0 c]).run Try.prog W = .ok (.slice (some ⟨g0, 0, none⟩) 0 0) W := by
  obtain ⟨i0, hi, hz0, hz1, hz2⟩ := info_parts toEnt_info
  have hl : ∀ (x : Addr), (loadCells x 0).run Try.prog W = .ok #[] W := fun x => by simpa using run_loadCells_list (P := Try.prog) W x [] (by simp)
  cases vo <;> simp [Builtin.append_, run_underlying Try.underlying30, sizeOf, typeInfo, hi, Builtin.lenOf, Builtin.firstCells, storeCells, hl]
theorem wpList_append_zero {w : World} {ops : Array Oper} {rest : List Oper} {o : Oper} {a : Act} {Q : Exit → Act → World → Prop} (hgd : o.guard = none) (s x : Operand)
    (ho : o.op = .call { callee := .builtin .append, args := #[s, x], argTypes := #[30, 30] }) (hty : o.type = 30) (g0 : Nat) (vo : Option Addr) (c : Nat) (hs : a.eval s = .slice (some ⟨g0, 0, none⟩) 0 0) (hx : a.eval x = .slice vo 0 c)
    (h : wpList Try.prog ops Q rest (a.put o.dst (.slice (some ⟨g0, 0, none⟩) 0 0)) w) : wpList Try.prog ops Q (o :: rest) a w := by
  refine wpList_plain hgd fun K hK => ?_
  have hrun := append_nothing (W := w) (g0 := g0) vo c
  rw [← hty] at hrun
  unfold Oper.wp
  rw [hty] at hrun
  simp [execOp, ho, hty, resolve, invoke, builtin, hs, hx, hrun, Result.andThen]
  exact hK _ _ h
/-- one entry behind a row of the call's own -/
theorem append_one {W : World} {v : Value} {k base g : Nat} {L : List EntD} {d : EntD} (hL : k ≤ 1048576) (hbase : base ≤ W.heap.size) (hr : W.ownsRow base 69 3 v k (entCells L)) (hg : BlockIs W g 69 (entEnc d)) :
    ∃ v' W', (Builtin.append_ #[30, 30] 30 #[v, .slice (some ⟨g, 0, none⟩) 1 1]).run Try.prog W = .ok v' W' ∧ W'.ownsRow base 69 3 v' (k + 1) (entCells L ++ entEnc d) ∧ W.grownBy W' v.ownBlock := by
  obtain ⟨i0, hi, hz0, hz1, hz2⟩ := info_parts toEnt_info
  have hnews : ∀ j u, (entEnc d)[j]? = some u → W.cell? ((⟨g, 0, none⟩ : Addr).add j) = some u := by
    intro j u hu
    rw [Addr.add_lit, Nat.zero_add]
    exact hg.cell hu
  have hone : ∀ u ∈ entEnc d, u.oneCell' = true := by
    intro u hu
    simp only [entEnc, List.mem_cons, List.not_mem_nil, or_false] at hu
    rcases hu with rfl | rfl | rfl <;> rfl
  obtain ⟨v', W', h1, h2, h3, _⟩ := run_append_own (P := Try.prog) W base 30 30 69 i0 _ 3 32 Try.underlying30 hi hz0 hz1 hz2 rfl (by decide) v k _ hr ⟨g, 0, none⟩ 1 1 (entEnc d) rfl hnews hone (by unfold maxLen; omega) (by omega) hbase
  exact ⟨v', W', h1, h2, h3⟩
end Go.Proofs.Ytglibbpigmpanaa

namespace Go.Proofs.Ytglibbpigmpanaa
open Go.RowKit Go.Sort

theorem ents_far3 {W : World} {b lo hi n : Nat} {va : Option Addr} {cs xs : List Value} (h : OwnAt W 69 xs n va lo hi) (hb : BlockIs W b 35 cs) (u v z : Value) : OwnAt (((W.setCell ⟨b, 6, none⟩ u).setCell ⟨b, 7, none⟩ v).setCell ⟨b, 8, none⟩ z) 69 xs n va lo hi := by
  refine h.imp id ?_
  rintro ⟨g, r, e1, e2, e3, h9⟩
  have hne : g ≠ b := by
    intro q
    subst q
    exact absurd (block_one h9 hb).1 (by decide)
  exact ⟨g, r, e1, e2, e3, ((h9.far (fun q => hne q.symm) u).far (fun q => hne q.symm) v).far (fun q => hne q.symm) z⟩
theorem ents_whole {W : World} {b lo hi n : Nat} {t : TypeId} {va : Option Addr} {cs xs : List Value} (h : OwnAt W 69 xs n va lo hi) (hb : BlockIs W b t cs) (ht : t ≠ 69) (A : Array Value) : OwnAt (W.setRow b A) 69 xs n va lo (W.setRow b A).heap.size := by
  refine h.imp id ?_
  rintro ⟨g, r, e1, e2, e3, h9⟩
  have hne : b ≠ g := by
    intro q
    subst q
    exact ht (block_one hb h9).1
  have h10 := whole_other h9 hne A
  exact ⟨g, r, e1, e2, h10.lt, h10⟩
end Go.Proofs.Ytglibbpigmpanaa

namespace Go.Proofs.Ytglibbpigmpanaa
open Go

theorem grown_draws (w : World) (r : Option Nat) (n : Nat) : w.grownBy (w.drewN n) r := ⟨rfl, rfl, rfl, Nat.le_refl _, fun _ _ _ => rfl⟩
end Go.Proofs.Ytglibbpigmpanaa

namespace Go.Proofs.Ytglibbpigmpanaa
open Go.RowKit

theorem blk_grown {w w' : World} {g r : Nat} {t : TypeId} {cs : List Value} (h : BlockIs w g t cs) (hg : w.grownBy w' (some r)) (hr : g ≠ r) : BlockIs w' g t cs := by
  have hlt := h.lt
  unfold BlockIs at h ⊢
  rw [hg.block g hlt (by simp; omega)]
  exact h
theorem below_grown {n r : Nat} {w w1 w2 : World} (h : Below n w w1) (hg : w1.grownBy w2 (some r)) (hr : n ≤ r) (hs : n ≤ w1.heap.size) : Below n w w2 :=
  h.grown hg hs (fun k e => by simp at e; omega)
theorem grown_none {w w' : World} (h : w.grownBy w' none) (r : Nat) : w.grownBy w' (some r) := by
  obtain ⟨h1, h2, h3, h4, h5⟩ := h
  exact ⟨h1, h2, h3, h4, fun b hb _ => h5 b hb (by simp)⟩
theorem three_blocks (w : World) (o p q : Obj) : Below w.heap.size w (((w.alloc o).alloc p).alloc q) ∧ (((w.alloc o).alloc p).alloc q).heap.size = w.heap.size + 3 ∧ (((w.alloc o).alloc p).alloc q).heap[w.heap.size]? = some o ∧ (((w.alloc o).alloc p).alloc q).heap[w.heap.size + 1]? = some p ∧ (((w.alloc o).alloc p).alloc q).heap[w.heap.size + 1 + 1]? = some q := by
  refine ⟨below_more (below_more (below_more (Below.refl _ w) _) _) _, by simp [World.alloc, -World.alloc_eq], ?_, ?_, ?_⟩
  · show (((w.heap.push o).push p).push q)[w.heap.size]? = some o
    rw [Array.getElem?_push, if_neg (by simp; omega), Array.getElem?_push, if_neg (by simp), Array.getElem?_push, if_pos rfl]
  · show (((w.heap.push o).push p).push q)[w.heap.size + 1]? = some p
    rw [Array.getElem?_push, if_neg (by simp), Array.getElem?_push, if_pos (by simp)]
  · show (((w.heap.push o).push p).push q)[w.heap.size + 1 + 1]? = some q
    rw [Array.getElem?_push, if_pos (by simp)]
theorem two_blocks (w : World) (o p : Obj) : Below w.heap.size w ((w.alloc o).alloc p) ∧ ((w.alloc o).alloc p).heap.size = w.heap.size + 2 ∧ ((w.alloc o).alloc p).heap[w.heap.size]? = some o ∧ ((w.alloc o).alloc p).heap[w.heap.size + 1]? = some p := by
  refine ⟨below_more (below_more (Below.refl _ w) _) _, by simp [World.alloc, -World.alloc_eq], ?_, ?_⟩
  · show ((w.heap.push o).push p)[w.heap.size]? = some o
    rw [Array.getElem?_push, if_neg (by simp), Array.getElem?_push, if_pos rfl]
  · show ((w.heap.push o).push p)[w.heap.size + 1]? = some p
    rw [Array.getElem?_push, if_pos (by simp)]

/-- what hangs on blocks of two types alone -/
def Stays (t1 t2 : TypeId) (Q : World → Prop) : Prop := ∀ x y : World, (∀ g t cs, t = t1 ∨ t = t2 → BlockIs x g t cs → BlockIs y g t cs) → Q x → Q y
theorem Stays.alloc {t1 t2 : TypeId} {Q : World → Prop} (h : Stays t1 t2 Q) {x : World} (q : Q x) (o : Obj) : Q (x.alloc o) :=
  h _ _ (fun _ _ _ _ hb => hb.on (below_more (Below.refl _ _) o) hb.lt) q
theorem Stays.drawn {t1 t2 : TypeId} {Q : World → Prop} (h : Stays t1 t2 Q) {x : World} (q : Q x) (n : Nat) : Q (x.drewN n) := h x (x.drewN n) (fun _ _ _ _ hb => hb) q
theorem Stays.put {t1 t2 tb : TypeId} {Q : World → Prop} {cb : List Value} {b : Nat} (h : Stays t1 t2 Q) {x : World} (q : Q x) (hb : BlockIs x b tb cb) (h1 : tb ≠ t1) (h2 : tb ≠ t2) (j : Nat) (u : Value) : Q (x.setCell ⟨b, j, none⟩ u) :=
  h _ _ (fun _ _ _ ht hg => hg.far (fun e => by subst e; have := (block_one hb hg).1; rcases ht with rfl | rfl; exact h1 this; exact h2 this) u) q
theorem Stays.grown {t1 t2 tb : TypeId} {Q : World → Prop} {cb : List Value} {b : Nat} (h : Stays t1 t2 Q) {x y : World} (q : Q x) (hg : x.grownBy y (some b)) (hb : BlockIs x b tb cb) (h1 : tb ≠ t1) (h2 : tb ≠ t2) : Q y :=
  h _ _ (fun _ _ _ ht hc => blk_grown hc hg (fun e => by subst e; have := (block_one hb hc).1; rcases ht with rfl | rfl; exact h1 this; exact h2 this)) q
end Go.Proofs.Ytglibbpigmpanaa

namespace Go.Proofs.Ytglibbpigmpanaa
open Go.RowKit

/-- the number ahead of a place, 0 at the first -/
def lastOf (zs : List Int) (k : Nat) : Int := match k with
  | 0 => 0
  | j + 1 => (zs[j]?).getD 0
theorem lastOf_step {zs : List Int} {k : Nat} (hk : k < zs.length) : lastOf zs (k + 1) = zs[k] := by
  rw [lastOf, List.getElem?_eq_getElem hk, Option.getD_some]
theorem rise_last {zs : List Int} {k : Nat} (hk : k < zs.length) (h : riseTo zs k = true) : (within zs[k] 1 4 && behindI zs k zs[k]) = true ↔ lastOf zs k < zs[k] ∧ zs[k] ≤ 4 := by
  cases k with
  | zero =>
    rw [Bool.and_eq_true, within_iff, lastOf, behindI]
    simp
    omega
  | succ j =>
    have hj : j < zs.length := by omega
    have h1 := riseTo_down h (Nat.le_refl (j + 1))
    rw [riseTo_step hj, Bool.and_eq_true, Bool.and_eq_true, within_iff] at h1
    rw [Bool.and_eq_true, within_iff, behindI_step hk, lastOf_step hj, decide_eq_true_eq]
    omega
theorem rise_on {zs : List Int} {k : Nat} (hk : k < zs.length) (h : riseTo zs k = true) (h1 : lastOf zs k < zs[k]) (h2 : zs[k] ≤ 4) : riseTo zs (k + 1) = true := by
  rw [riseTo_step hk, h, Bool.true_and]
  exact (rise_last hk h).2 ⟨h1, h2⟩
theorem rise_off {zs : List Int} {k : Nat} (hk : k < zs.length) (h : riseTo zs k = true) (h1 : ¬ (lastOf zs k < zs[k] ∧ zs[k] ≤ 4)) : riseTo zs zs.length = false := by
  refine not_rise hk ?_
  cases hb : (within zs[k] 1 4 && behindI zs k zs[k]) with
  | false => rfl
  | true => exact absurd ((rise_last hk h).1 hb) h1

/-- how many of the first k numbers are in a list -/
def countIn (zs ls : List Int) : Nat → Nat
  | 0 => 0
  | k + 1 => countIn zs ls k + match zs[k]? with
    | none => 0
    | some x => if x ∈ ls then 1 else 0
theorem countIn_step {zs ls : List Int} {k : Nat} (hk : k < zs.length) : countIn zs ls (k + 1) = countIn zs ls k + if zs[k] ∈ ls then 1 else 0 := by
  rw [countIn, List.getElem?_eq_getElem hk]
theorem countIn_le (zs ls : List Int) : ∀ k, countIn zs ls k ≤ k
  | 0 => Nat.le_refl _
  | k + 1 => by
    have := countIn_le zs ls k
    rw [countIn]
    split
    · omega
    · split <;> omega
def most (zs ls : List Int) : Bool := confOk zs && decide (zs.length < 2 * countIn zs ls zs.length)
end Go.Proofs.Ytglibbpigmpanaa

namespace Go.Proofs.Ytglibbpigmpanaa
open Go.RowKit

/-- the figure of x, as a byte -/
def fig (x : Int) : Int := if x < 10 then 48 + x else 87 + x

theorem fig_bd {x : Int} (h0 : 0 ≤ x) (h1 : x ≤ 15) : 48 ≤ fig x ∧ fig x ≤ 102 := by unfold fig; split <;> omega

def hexOf : List UInt8 → List UInt8
  | [] => []
  | b :: r => UInt8.ofNat (fig (b.toNat / 16)).toNat :: UInt8.ofNat (fig (b.toNat % 16)).toNat :: hexOf r

theorem hexOf_append (l r : List UInt8) : hexOf (l ++ r) = hexOf l ++ hexOf r := by
  induction l with
  | nil => rfl
  | cons b l ih => simp [hexOf, ih]

theorem hexOf_length (l : List UInt8) : (hexOf l).length = 2 * l.length := by
  induction l with
  | nil => rfl
  | cons b l ih => simp [hexOf, ih]; omega

theorem take_snoc (s : ByteArray) (k : Nat) (h : k < s.size) : s.data.toList.take (k + 1) = s.data.toList.take k ++ [s[k]] := by
  rw [List.take_succ_eq_append_getElem (by simpa using h)]; rfl

theorem take_len (s : ByteArray) (k : Nat) (h : k ≤ s.size) : (s.data.toList.take k).length = k := by
  have : s.data.toList.length = s.size := by simp
  rw [List.length_take]; omega

theorem two_cs (b : UInt8) : [Value.int .u8 (fig ((b.toNat : Int) / 16)), .int .u8 (fig ((b.toNat : Int) % 16))] = cs (hexOf [b]) := by
  have hb := b.toNat_lt
  have h1 := fig_bd (x := (b.toNat : Int) / 16) (by omega) (by omega)
  have h2 := fig_bd (x := (b.toNat : Int) % 16) (by omega) (by omega)
  simp only [hexOf, cs, List.map_cons, List.map_nil, UInt8.toNat_ofNat', List.cons.injEq, and_true, Value.int.injEq, true_and]
  omega

theorem hex_step {s : ByteArray} {k : Nat} {w wr w1 : World} {v : Value} {g cap : Nat} {B : Obj} (hk : k < s.size) (hown : wr.ownsRow w.heap.size 5 1 v (2 * k) (cs (hexOf (s.data.toList.take k))))
    (hown' : w1.ownsRow w.heap.size 5 1 (.slice (some ⟨g, 0, none⟩) (2 * k + 2) cap) (2 * k + 2) (cs (hexOf (s.data.toList.take k)) ++ [.int .u8 (fig ((s[k].toNat : Int) / 16)), .int .u8 (fig ((s[k].toNat : Int) % 16))]))
    (hgrow : (wr.alloc B).drew.grownBy w1 v.ownBlock) (hb : Below w.heap.size w wr) :
    w1.ownsRow w.heap.size 5 1 (.slice (some ⟨g, 0, none⟩) (2 * k + 2) cap) (2 * (k + 1)) (cs (hexOf (s.data.toList.take (k + 1)))) ∧ Below w.heap.size w w1 := by
  refine ⟨?_, ((hb.alloc hb.size _).drew).grown hgrow (by have := hb.size; simp; omega) (fun j hj => (hown.lt j hj).1)⟩
  rw [two_cs, ← cs_append, ← hexOf_append, ← take_snoc s k hk] at hown'
  exact hown'

theorem i64_id {x : Int} (h0 : -9223372036854775808 ≤ x) (h1 : x ≤ 9223372036854775807) : IntKind.i64.wrap x = x := by
  simp [IntKind.wrap, IntKind.signed, IntKind.bits]; omega
theorem u8_id {x : Int} (h0 : 0 ≤ x) (h1 : x ≤ 255) : IntKind.u8.wrap x = x := by
  simp [IntKind.wrap, IntKind.signed, IntKind.bits]; omega

theorem wrap_quo (b : UInt8) : IntKind.i64.wrap ((IntKind.i64.wrap (b.toNat : Int)).tdiv 16) = (b.toNat : Int) / 16 := by
  have hb := b.toNat_lt
  have e : IntKind.i64.wrap (b.toNat : Int) = (b.toNat : Int) := by simp [IntKind.wrap, IntKind.signed, IntKind.bits]; omega
  rw [e, Int.tdiv_eq_ediv_of_nonneg (by omega)]
  simp [IntKind.wrap, IntKind.signed, IntKind.bits]; omega
theorem wrap_rem (b : UInt8) : (IntKind.i64.wrap (b.toNat : Int)).tmod 16 = (b.toNat : Int) % 16 := by
  have hb := b.toNat_lt
  have e : IntKind.i64.wrap (b.toNat : Int) = (b.toNat : Int) := by simp [IntKind.wrap, IntKind.signed, IntKind.bits]; omega
  rw [e, Int.tmod_eq_emod_of_nonneg (by omega)]
end Go.Proofs.Ytglibbpigmpanaa

namespace Go.Proofs.Ytglibbpigmpanaa
open Go.RowKit

/-- what the byte c counts as a figure; -1 where it is none -/
def lv (c : Int) : Int := if 48 ≤ c ∧ c ≤ 57 then c - 48 else if 97 ≤ c ∧ c ≤ 102 then c - 87 else -1

theorem lv_bd (c : Int) : -1 ≤ lv c ∧ lv c ≤ 15 := by unfold lv; split <;> (try split) <;> omega

theorem fig_lv {c j : Int} (h0 : 0 ≤ j) (h1 : j ≤ 15) : c = fig j ↔ lv c = j := by
  unfold lv fig
  split <;> split <;> (try split) <;> omega

/-- the values of a text's figures -/
def lvs (l : List UInt8) : List Int := l.map fun c => lv (c.toNat : Int)

def Figs (b : Nat) (l : List UInt8) : Prop := ∀ c ∈ l, 0 ≤ lv (c.toNat : Int) ∧ lv (c.toNat : Int) < b

theorem Figs.snoc {b : Nat} {l : List UInt8} {c : UInt8} (h : Figs b l) (hc : 0 ≤ lv (c.toNat : Int) ∧ lv (c.toNat : Int) < b) : Figs b (l ++ [c]) := by
  intro x hx
  rcases List.mem_append.1 hx with hx | hx
  · exact h x hx
  · simp at hx; subst hx; exact hc

/-- ints as the cells of a row -/
def ns (l : List Int) : List Value := l.map (Value.int .i64)

theorem mem_at (s : ByteArray) (k : Nat) (h : k < s.size) : s[k] ∈ s.data.toList := by
  have h1 : k < s.data.toList.length := by simpa using h
  have h2 := List.getElem_mem h1
  have h3 : s.data.toList[k] = s[k] := by rw [Array.getElem_toList]; rfl
  rw [h3] at h2
  exact h2

theorem lvs_append (l r : List UInt8) : lvs (l ++ r) = lvs l ++ lvs r := by simp [lvs]
theorem lvs_length (l : List UInt8) : (lvs l).length = l.length := by simp [lvs]
theorem ns_append (l r : List Int) : ns (l ++ r) = ns l ++ ns r := by simp [ns]

theorem fv_step {s : ByteArray} {k : Nat} {w wr w1 : World} {v v' : Value} {B : Obj} {j : Int} (hk : k < s.size) (hj : lv (s[k].toNat : Int) = j) (hown : wr.ownsRow w.heap.size 3 1 v k (ns (lvs (s.data.toList.take k))))
    (hown' : w1.ownsRow w.heap.size 3 1 v' (k + 1) (ns (lvs (s.data.toList.take k)) ++ [.int .i64 j])) (hgrow : (wr.alloc B).grownBy w1 v.ownBlock) (hb : Below w.heap.size w wr) :
    w1.ownsRow w.heap.size 3 1 v' (k + 1) (ns (lvs (s.data.toList.take (k + 1)))) ∧ Below w.heap.size w w1 := by
  refine ⟨?_, (hb.alloc hb.size _).grown hgrow (by have := hb.size; simp; omega) (fun j hj => (hown.lt j hj).1)⟩
  have e : [Value.int .i64 j] = ns (lvs [s[k]]) := by simp [ns, lvs, hj]
  rw [e, ← ns_append, ← lvs_append, ← take_snoc s k hk] at hown'
  exact hown'

/-- where the values lie -/
theorem values_lie {w w1 : World} {s : ByteArray} {v : Value} (h : w1.ownsRow w.heap.size 3 1 v s.size (ns (lvs s.data.toList))) :
    ∃ ao cap, v = .slice ao s.size cap ∧ (0 < s.size → ∃ g, ao = some ⟨g, 0, none⟩ ∧ g < w1.heap.size ∧ s.size ≤ cap ∧ ∀ j (hj : j < s.size), w1.cell? ⟨g, j, none⟩ = some (.int .i64 (lv (s[j].toNat : Int)))) := by
  have h' := h
  obtain ⟨h1, h2⟩ := h
  rcases h2 with ⟨hv, hn⟩ | ⟨g, cap, cur, hv, hgb, hh, hle, hmx, hsz, hx⟩
  · exact ⟨none, 0, by rw [hv, hn], fun h0 => by omega⟩
  · refine ⟨_, cap, hv, fun _ => ⟨g, rfl, (h'.lt g (by rw [hv]; rfl)).2, hle, fun j hj => ?_⟩⟩
    have hu : (ns (lvs s.data.toList))[j]? = some (.int .i64 (lv (s[j].toNat : Int))) := by
      have hj' : j < s.data.toList.length := by simpa using hj
      have e : s.data.toList[j] = s[j] := by rw [Array.getElem_toList]; rfl
      simp only [ns, lvs, List.getElem?_map, List.getElem?_eq_getElem hj', Option.map_some, e]
    have := h'.cells (g := g) (by rw [hv]; rfl) j _ hu
    have ea : (⟨g, 0, none⟩ : Addr).add j = ⟨g, j, none⟩ := by
      simp only [Addr.add]
      split
      · simp_all
      · simp
    rw [ea] at this
    exact this
end Go.Proofs.Ytglibbpigmpanaa

namespace Go.Proofs.Ytglibbpigmpanaa
open Go.RowKit

/-- the decimal figures of n, none for 0 (with so many steps at the most) -/
def ddF : Nat → Nat → List UInt8
  | 0, _ => []
  | f + 1, n => if n = 0 then [] else ddF f (n / 10) ++ [UInt8.ofNat (48 + n % 10)]
/-- the decimal figures of n, none for 0 -/
def dd (n : Nat) : List UInt8 := ddF n n

theorem ddF_eq : ∀ (f g n : Nat), n ≤ f → n ≤ g → ddF f n = ddF g n
  | 0, 0, _, _, _ => rfl
  | 0, g + 1, n, h, _ => by
    obtain rfl : n = 0 := by omega
    rw [ddF, ddF, if_pos rfl]
  | f + 1, 0, n, _, h => by
    obtain rfl : n = 0 := by omega
    rw [ddF, ddF, if_pos rfl]
  | f + 1, g + 1, n, h1, h2 => by
    rw [ddF, ddF]
    by_cases h : n = 0
    · rw [if_pos h, if_pos h]
    · rw [if_neg h, if_neg h, ddF_eq f g (n / 10) (by omega) (by omega)]
theorem dd_zero : dd 0 = [] := rfl
theorem dd_pos {n : Nat} (h : 0 < n) : dd n = dd (n / 10) ++ [UInt8.ofNat (48 + n % 10)] := by
  rw [dd, ddF_eq n (n + 1) n (Nat.le_refl _) (by omega), ddF, if_neg (by omega), dd, ddF_eq n (n / 10) (n / 10) (by omega) (Nat.le_refl _)]

theorem dd_len (k : Nat) : ∀ n, n < 10 ^ k → (dd n).length ≤ k := by
  induction k with
  | zero => intro n h; have : n = 0 := by simp at h; omega
            subst this; rw [dd_zero]; simp
  | succ k ih =>
    intro n h
    by_cases h0 : n = 0
    · subst h0; rw [dd_zero]; simp
    · rw [dd_pos (by omega), List.length_append]
      have := ih (n / 10) (by rw [Nat.pow_succ] at h; omega)
      simp only [List.length_cons, List.length_nil]
      omega

/-- n in decimal -/
def dec (n : Int) : List UInt8 := if n = 0 then [48] else if n < 0 then 45 :: dd n.natAbs else dd n.natAbs

/-- what figures make -/
def num (l : List UInt8) : Nat := l.foldl (fun n c => 10 * n + (c.toNat - 48)) 0

theorem num_nil : num [] = 0 := rfl
theorem num_snoc (l : List UInt8) (c : UInt8) : num (l ++ [c]) = 10 * num l + (c.toNat - 48) := by simp [num, List.foldl_append]

def Digits (l : List UInt8) : Prop := ∀ c ∈ l, 48 ≤ c.toNat ∧ c.toNat ≤ 57

theorem Digits.init {l : List UInt8} {c : UInt8} (h : Digits (l ++ [c])) : Digits l ∧ 48 ≤ c.toNat ∧ c.toNat ≤ 57 :=
  ⟨fun x hx => h x (List.mem_append.2 (Or.inl hx)), h c (by simp)⟩
theorem Digits.snoc {l : List UInt8} {c : UInt8} (h : Digits l) (hc : 48 ≤ c.toNat ∧ c.toNat ≤ 57) : Digits (l ++ [c]) := by
  intro x hx
  rcases List.mem_append.1 hx with hx | hx
  · exact h x hx
  · simp at hx; subst hx; exact hc

theorem snoc_cases (l : List UInt8) : l = [] ∨ ∃ r c, l = r ++ [c] := by
  rcases h : l.reverse with _ | ⟨c, r⟩
  · exact Or.inl (by simpa using h)
  · exact Or.inr ⟨r.reverse, c, by have := congrArg List.reverse h; simpa using this⟩

theorem num_lt : ∀ (k : Nat) (l : List UInt8), l.length = k → Digits l → num l < 10 ^ k
  | 0, l, h, _ => by
    have : l = [] := List.eq_nil_of_length_eq_zero h
    subst this; simp [num]
  | k + 1, l, h, hd => by
    rcases snoc_cases l with rfl | ⟨r, c, rfl⟩
    · simp at h
    · have h1 := hd.init
      have := num_lt k r (by simpa using h) h1.1
      rw [num_snoc, Nat.pow_succ]
      omega

theorem num_lead (c : UInt8) (hc : c ≠ 48) (hc1 : 48 ≤ c.toNat ∧ c.toNat ≤ 57) : ∀ (k : Nat) (r : List UInt8), r.length = k → Digits r → 0 < num (c :: r) ∧ dd (num (c :: r)) = c :: r
  | 0, r, h, _ => by
    have : r = [] := List.eq_nil_of_length_eq_zero h
    subst this
    have h48 : c.toNat ≠ 48 := fun e => hc (UInt8.toNat_inj.1 (by simpa using e))
    have e : num [c] = c.toNat - 48 := by simp [num]
    rw [e]
    refine ⟨by omega, ?_⟩
    rw [dd_pos (by omega), show (c.toNat - 48) / 10 = 0 by omega, dd_zero, show 48 + (c.toNat - 48) % 10 = c.toNat by omega]
    simp
  | k + 1, r, h, hd => by
    rcases snoc_cases r with rfl | ⟨r', x, rfl⟩
    · simp at h
    · have h1 := hd.init
      obtain ⟨i1, i2⟩ := num_lead c hc hc1 k r' (by simpa using h) h1.1
      have e : num (c :: (r' ++ [x])) = 10 * num (c :: r') + (x.toNat - 48) := num_snoc (c :: r') x
      rw [e]
      refine ⟨by omega, ?_⟩
      rw [dd_pos (by omega), show (10 * num (c :: r') + (x.toNat - 48)) / 10 = num (c :: r') by omega, show 48 + (10 * num (c :: r') + (x.toNat - 48)) % 10 = x.toNat by omega, i2]
      simp

/-- figures of a number do not begin with a nought -/
theorem dd_head : ∀ (n : Nat), 0 < n → ∃ c r, dd n = c :: r ∧ c ≠ 48 := by
  intro n
  induction n using Nat.strongRecOn with
  | _ n ih =>
    intro h
    rw [dd_pos h]
    by_cases h1 : n / 10 = 0
    · rw [h1, dd_zero]
      refine ⟨_, [], rfl, ?_⟩
      intro e
      have := congrArg UInt8.toNat e
      simp only [UInt8.toNat_ofNat', UInt8.toNat_ofNat] at this
      omega
    · obtain ⟨c, r, e, hc⟩ := ih (n / 10) (by omega) (by omega)
      exact ⟨c, r ++ [UInt8.ofNat (48 + n % 10)], by rw [e]; rfl, hc⟩

/-- a text of figures is how its number is written, just when it has some and no needless nought ahead -/
theorem dec_num (l : List UInt8) (hd : Digits l) : dec (num l : Int) = l ↔ l ≠ [] ∧ ¬ (l.head? = some 48 ∧ 1 < l.length) := by
  match l, hd with
  | [], _ => simp [num, dec]
  | c :: r, hd =>
    have hc := hd c (by simp)
    have hr : Digits r := fun x hx => hd x (by simp [hx])
    by_cases h48 : c = 48
    · subst h48
      match r, hr with
      | [], _ => simp [num, dec]
      | x :: r', hr =>
        simp only [List.head?_cons, List.length_cons, ne_eq, reduceCtorEq, not_false_eq_true, true_and]
        constructor
        · intro e
          unfold dec at e
          split at e
          · simp at e
          · rename_i hz
            rw [if_neg (by omega), Int.natAbs_natCast] at e
            obtain ⟨y, q, e1, e2⟩ := dd_head (num (48 :: x :: r')) (by omega)
            rw [e1] at e
            simp only [List.cons.injEq] at e
            exact absurd e.1 e2
        · intro h
          exact absurd (by omega) h
    · obtain ⟨i1, i2⟩ := num_lead c h48 hc r.length r rfl hr
      unfold dec
      rw [if_neg (by omega), if_neg (by omega), Int.natAbs_natCast, i2]
      simp [h48]

theorem digits_figs (l : List UInt8) : Digits l ↔ Figs 10 l := by
  constructor
  · intro h c hc
    have := h c hc
    unfold lv
    rw [if_pos (by omega)]
    omega
  · intro h c hc
    have := h c hc
    unfold lv at this
    split at this
    · omega
    · split at this <;> omega
theorem lv_digit {c : UInt8} (h : 48 ≤ c.toNat ∧ c.toNat ≤ 57) : lv (c.toNat : Int) = ((c.toNat - 48 : Nat) : Int) := by
  unfold lv; rw [if_pos (by omega)]; omega

/-- a text that ReadDecimal takes -/
def DecOk (l : List UInt8) : Prop := Digits l ∧ num l ≤ 1000000000 ∧ l ≠ [] ∧ ¬ (l.head? = some 48 ∧ 1 < l.length)

theorem digits_at {s : ByteArray} {k : Nat} (hk : k < s.size) (h : ¬ (48 ≤ s[k].toNat ∧ s[k].toNat ≤ 57)) : ¬ DecOk s.data.toList := fun hd => h (hd.1 s[k] (mem_at s k hk))

theorem num_step {s : ByteArray} {k : Nat} (hk : k < s.size) (h : 48 ≤ (s[k].toNat : Int)) : ((num (s.data.toList.take (k + 1)) : Nat) : Int) = 10 * (num (s.data.toList.take k) : Int) + (s[k].toNat : Int) - 48 := by
  rw [take_snoc s k hk, num_snoc]
  omega

theorem ret_num {a b : Nat} (h : a = b) : Ending.returned (.tuple #[.int .i64 a, .bool true]) = .returned (.tuple #[.int .i64 b, .bool true]) := by rw [h]

theorem same_dec {s : ByteArray} {l : List UInt8} : (!l == s.toList) = false ↔ l = s.data.toList := by
  rw [ByteArray.toList_eq]; simp
end Go.Proofs.Ytglibbpigmpanaa
