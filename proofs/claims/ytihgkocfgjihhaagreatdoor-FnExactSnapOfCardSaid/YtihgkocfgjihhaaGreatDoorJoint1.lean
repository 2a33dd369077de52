/-
  A number within bounds; nothing of the program stands here.
  Plain facts on the bytes of a number in sevens and on rows of bytes in memory; nothing of the program stands here.
  Plain facts on confs: when one is right, and their texts; nothing of the program stands here.
  Entries as plain data: when one is right, and its text; nothing of the program stands here.
  Logs as plain data: when one is right, its last term, the term of an index, what is put and what is left behind, what two share; nothing of the program stands here.
  A block of memory of the call's own: its cells as a list; rows of elements of so many cells each.
  Peer as data; rows of them in memory, one behind the other.
  Numbers in memory, one behind the other.
  Plain facts on rows that a call owns; nothing of the program stands here.
  Plain facts on the texts of confs; rows of numbers in memory; nothing of the program stands here.
  Plain facts on the text of an entry; nothing of the program stands here.
  A node as data, its conf, and when it is right; nothing of the program stands here.
  A struct in memory, of any number of cells: read and written whole.
  Entries as data, in memory, one behind the other.
  A node in memory: its cells, and its rows.
  A list of numbers: one of its cells is written.
  A list of numbers that came in, read as data.
  Peer that came in, read as data: one of them, and a row.
  A row of Peer that came in, read as data.
  Files as data, in memory.
  Journals as data: which ones are right; nothing of the program stands here.
  An entry's cells and size, as the program tells them.
  Session as data; rows of them in memory, one behind the other.
  Session that came in, read as data: one of them, and a row.
  A row of Session that came in, read as data.
  Item as data; rows of them in memory, one behind the other.
  Item that came in, read as data: one of them, and a row.
  A row of Item that came in, read as data.
  A keep that came in, read as data: its sessions and its items lie one behind the other.
  An element of a row of Peer, written; a row that was just made.
  Rows of the call's own that grow: what stands behind an append.
  Rows of the call's own between two sizes of memory; blocks laid one behind the other.
  Plain facts on figures; nothing of the program stands here.
  Plain facts on the values of figures; nothing of the program stands here.
  Plain facts on decimal figures; nothing of the program stands here.
  An element of a row of Session, written; a row that was just made.
  An element of a row of Item, written; a row that was just made.
  A part of a struct in memory, of any number of cells, at its offset: read and written whole.
  Memory stands while orders are drawn.
  Blocks that stand where others are written or new ones come; nothing of the program stands here.
  Plain facts on reading a number in sevens; nothing of the program stands here.
  Plain facts on reading an entry's text; nothing of the program stands here.
  Plain facts on reading a short text; nothing of the program stands here.
  Plain facts on check sums of 32 bits; nothing of the program stands here.
  Plain facts on sealed texts: what is sealed is unsealed; with one byte turned it is not.
  Snapshots as data, and their texts; nothing of the program stands here.
  What is read of a text as a snapshot; nothing of the program stands here.
  What both readers of a snapshot answer; rows of numbers that stand while other blocks are written.
  Disks as plain data: when one is right.
  The name of a snapshot's file; nothing of the program stands here.
  Plain facts: a number in sevens is read back; nothing of the program stands here.
  Plain facts on reading figures two by two; nothing of the program stands here.
  Plain facts: what is written is read back; nothing of the program stands here.
  Names that are a letter and a number; nothing of the program stands here.
  The newest snapshot of a disk's files; nothing of the program stands here.
  Two facts that both sums use.
  Parts of a text, read one behind the other; nothing of the program stands here.
  Plain facts on confs: a number held against the one ahead of it; how many of a conf are in a list; nothing of the program stands here.
  Plain facts on four steps of a check sum at once, by a table of sixteen.
  What a function with deferred calls leaves doesn't hang on slots that are no results; nothing of the program stands here.
-/
import Derived.WalkKit
import Derived.RowKit
import Derived.WalkSmall
import Derived.BigQuiet
import Derived.Deep.LoopGhost
import Derived.Maps.AppendAt
import Derived.Test.YtihgkocfgjihhaaGreatDoorRows
import Derived.Laws.CopyOwn
import Derived.Laws.Tables
import Derived.Deep.MidRow
import Derived.Sort.Statements
import Derived.OwnWalk
import Derived.Deep.Strs
import Derived.ChangeSame
import Derived.OpenShut
import Derived.Laws.AppendOwn
import Derived.Deep.Draws
import Derived.Defers
import Derived.Recover
namespace Go.Proofs.YtihgkocfgjihhaaGreatDoor
open Go.RowKit

/-- a number within bounds -/
def within (x a b : Int) : Bool := decide (a ≤ x) && decide (x ≤ b)
theorem within_yes {x a b : Int} (h1 : a ≤ x) (h2 : x ≤ b) : within x a b = true := by simp [within, h1, h2]
theorem within_no {x a b : Int} (h : x < a ∨ b < x) : within x a b = false := by
  simp only [within, Bool.and_eq_false_imp, decide_eq_true_eq, decide_eq_false_iff_not]
  omega
theorem within_iff {x a b : Int} : within x a b = true ↔ a ≤ x ∧ x ≤ b := by simp [within]
end Go.Proofs.YtihgkocfgjihhaaGreatDoor

namespace Go.Proofs.YtihgkocfgjihhaaGreatDoor
open Go.RowKit

/-- the bytes of n, seven bits a byte, the least first (with so many steps at the most) -/
def vbF : Nat → Nat → List UInt8
  | 0, n => [UInt8.ofNat n]
  | f + 1, n => if n ≤ 127 then [UInt8.ofNat n] else UInt8.ofNat (n % 128 + 128) :: vbF f (n / 128)
/-- the bytes of n, seven bits a byte, the least first -/
def vb (n : Nat) : List UInt8 := vbF n n

theorem vbF_eq : ∀ (f g n : Nat), n ≤ f → n ≤ g → vbF f n = vbF g n
  | 0, 0, _, _, _ => rfl
  | 0, g + 1, n, h, _ => by
    obtain rfl : n = 0 := by omega
    rw [vbF, vbF, if_pos (by omega)]
  | f + 1, 0, n, _, h => by
    obtain rfl : n = 0 := by omega
    rw [vbF, vbF, if_pos (by omega)]
  | f + 1, g + 1, n, h1, h2 => by
    rw [vbF, vbF]
    by_cases h : n ≤ 127
    · rw [if_pos h, if_pos h]
    · rw [if_neg h, if_neg h, vbF_eq f g (n / 128) (by omega) (by omega)]
theorem vb_small {n : Nat} (h : n ≤ 127) : vb n = [UInt8.ofNat n] := by
  rw [vb, vbF_eq n (n + 1) n (Nat.le_refl _) (by omega), vbF, if_pos h]
theorem vb_big {n : Nat} (h : 127 < n) : vb n = UInt8.ofNat (n % 128 + 128) :: vb (n / 128) := by
  rw [vb, vbF_eq n (n + 1) n (Nat.le_refl _) (by omega), vbF, if_neg (by omega), vb, vbF_eq n (n / 128) (n / 128) (by omega) (Nat.le_refl _)]

theorem vb_pos (n : Nat) : 0 < (vb n).length := by
  by_cases h : n ≤ 127
  · rw [vb_small h]; simp
  · rw [vb_big (by omega)]; simp

theorem vb_le (n : Nat) : (vb n).length ≤ n + 1 := by
  induction n using Nat.strongRecOn with
  | _ n ih =>
    by_cases h : n ≤ 127
    · rw [vb_small h]; simp
    · rw [vb_big (by omega)]
      have := ih (n / 128) (by omega)
      simp only [List.length_cons]
      omega

/-- bytes as the cells of a row -/
def cs (l : List UInt8) : List Value := l.map fun b => Value.int .u8 (b.toNat : Int)

theorem cs_append (l r : List UInt8) : cs (l ++ r) = cs l ++ cs r := by simp [cs]
theorem cs_length (l : List UInt8) : (cs l).length = l.length := by simp [cs]
theorem cs_one {x : Int} (h0 : 0 ≤ x) (h1 : x ≤ 255) : [Value.int .u8 x] = cs [UInt8.ofNat x.toNat] := by
  simp [cs]
  omega

/-- a row that the call owns, turned into a text -/
theorem text_of_row {P : Program} {w : World} {base : Nat} {v : Value} {l : List UInt8} {src dst e : TypeId} (hs : P.underlying src = some (.slice e)) (he : P.underlying e = some (.int .u8)) (hd : P.underlying dst = some .string)
    (h : w.ownsRow base e 1 v l.length (cs l)) : (convert src dst v).run P w = .ok (.string ⟨l.toArray⟩) w := by
  obtain ⟨h1, h2⟩ := h
  rcases h2 with ⟨hv, hn⟩ | ⟨g, cap, cur, hv, hg, hh, hle, hm, hsz, hx⟩
  · have hl : l = [] := by cases l with | nil => rfl | cons a r => simp at hn
    subst hl hv
    exact run_convert_bytes_nil w src e hs he 0 0 dst hd
  · subst hv
    refine run_convert_bytes_back w src dst e ⟨g, 0, none⟩ cap l hs he hd fun j hj => ?_
    have hu : (cs l)[j]? = some (.int .u8 (l[j].toNat : Int)) := by simp [cs, hj]
    exact World.ownsRow.cells (w := w) (base := base) (e := e) (size := 1) ⟨h1, Or.inr ⟨g, cap, cur, rfl, hg, hh, hle, hm, hsz, hx⟩⟩ rfl j _ hu

/-- a piece of a text, its bounds as whole numbers -/
theorem slice_nat {P : Program} {t : TypeId} (h : P.underlying t = some .string) (s : ByteArray) (a b : Nat) (x y : Int) (hx : x = a) (hy : y = b) (hab : a ≤ b) (hb : b ≤ s.size) (w : World) :
    (Instr.slice t (.string s) (some (.int .i64 x)) (some (.int .i64 y)) none).run P w = .ok (.string (s.extract a b)) w := by
  subst hx hy
  rw [run_slice_string w t s .i64 .i64 a b h (by omega) (by omega) (by omega)]
  simp

theorem extract_eq (s : ByteArray) (a b : Nat) : (s.extract a b).data.toList = (s.data.toList.drop a).take (b - a) := by
  simp [ByteArray.extract, ByteArray.copySlice]

theorem var_step {n m : Nat} {acc : List UInt8} {w wr w1 : World} {v v' : Value} (hm : 127 < m) (hacc : acc ++ vb m = vb n) (hown : wr.ownsRow w.heap.size 5 1 v acc.length (cs acc))
    (hown' : w1.ownsRow w.heap.size 5 1 v' (acc.length + 1) (cs acc ++ [.int .u8 ((m : Int) % 128 + 128)])) (hgrow : (wr.alloc (.cells #[.int .u8 ((m : Int) % 128 + 128)] 5)).grownBy w1 v.ownBlock) (hb : Below w.heap.size w wr) :
    (acc ++ [UInt8.ofNat (m % 128 + 128)]) ++ vb (m / 128) = vb n ∧ w1.ownsRow w.heap.size 5 1 v' (acc ++ [UInt8.ofNat (m % 128 + 128)]).length (cs (acc ++ [UInt8.ofNat (m % 128 + 128)])) ∧ Below w.heap.size w w1 := by
  refine ⟨by rw [← hacc, vb_big hm]; simp, ?_, (hb.alloc hb.size _).grown hgrow (by have := hb.size; simp; omega) (fun k hk => (hown.lt k hk).1)⟩
  have e : [Value.int .u8 ((m : Int) % 128 + 128)] = cs [UInt8.ofNat (m % 128 + 128)] := by
    rw [cs_one (by omega) (by omega)]
    have : ((m : Int) % 128 + 128).toNat = m % 128 + 128 := by omega
    rw [this]
  rw [e, ← cs_append] at hown'
  simpa using hown'

theorem var_end {n m : Nat} {acc : List UInt8} {w wr w1 : World} {v v' : Value} (hm : m ≤ 127) (hacc : acc ++ vb m = vb n) (hown : wr.ownsRow w.heap.size 5 1 v acc.length (cs acc))
    (hown' : w1.ownsRow w.heap.size 5 1 v' (acc.length + 1) (cs acc ++ [.int .u8 (m : Int)])) (hgrow : (wr.alloc (.cells #[.int .u8 (m : Int)] 5)).grownBy w1 v.ownBlock) (hb : Below w.heap.size w wr) :
    w1.ownsRow w.heap.size 5 1 v' (vb n).length (cs (vb n)) ∧ Below w.heap.size w w1 := by
  refine ⟨?_, (hb.alloc hb.size _).grown hgrow (by have := hb.size; simp; omega) (fun k hk => (hown.lt k hk).1)⟩
  have e : [Value.int .u8 (m : Int)] = cs [UInt8.ofNat m] := by
    rw [cs_one (by omega) (by omega)]
    simp
  rw [e, ← cs_append, ← vb_small hm, hacc] at hown'
  have hl : acc.length + 1 = (vb n).length := by rw [← hacc, vb_small hm]; simp
  rw [hl] at hown'
  exact hown'

end Go.Proofs.YtihgkocfgjihhaaGreatDoor

namespace Go.Proofs.YtihgkocfgjihhaaGreatDoor
open Go.RowKit

/-- a number stands behind the one ahead of it -/
def behindI (zs : List Int) (k : Nat) (x : Int) : Bool := match k with
  | 0 => true
  | j + 1 => match zs[j]? with
    | none => true
    | some y => decide (y < x)
/-- the first k numbers are in their bounds, and ascend -/
def riseTo (zs : List Int) : Nat → Bool
  | 0 => true
  | k + 1 => riseTo zs k && match zs[k]? with
    | none => true
    | some x => within x 1 4 && behindI zs k x
def confOk (zs : List Int) : Bool := within zs.length 1 4 && riseTo zs zs.length

theorem riseTo_step {zs : List Int} {k : Nat} (hk : k < zs.length) : riseTo zs (k + 1) = (riseTo zs k && (within zs[k] 1 4 && behindI zs k zs[k])) := by
  rw [riseTo, List.getElem?_eq_getElem hk]
theorem behindI_step {zs : List Int} {j : Nat} (hj : j + 1 < zs.length) : behindI zs (j + 1) zs[j + 1] = decide (zs[j] < zs[j + 1]) := by
  rw [behindI, List.getElem?_eq_getElem (show j < zs.length by omega)]
theorem riseTo_down {zs : List Int} {n k : Nat} (h : riseTo zs n = true) (hk : k ≤ n) : riseTo zs k = true := by
  induction n with
  | zero => obtain rfl : k = 0 := by omega
            rfl
  | succ n ih =>
    rcases Nat.lt_or_ge k (n + 1) with q | q
    · rw [riseTo, Bool.and_eq_true] at h
      exact ih h.1 (by omega)
    · obtain rfl : k = n + 1 := by omega
      exact h
theorem not_rise {zs : List Int} {k : Nat} (hk : k < zs.length) (h : (within zs[k] 1 4 && behindI zs k zs[k]) = false) : riseTo zs zs.length = false := by
  cases hd : riseTo zs zs.length with
  | false => rfl
  | true =>
    have := riseTo_down hd (show k + 1 ≤ zs.length by omega)
    rw [riseTo_step hk, h] at this
    simp at this
theorem rise_at {zs : List Int} (h : riseTo zs zs.length = true) {k : Nat} (hk : k < zs.length) : 1 ≤ zs[k] ∧ zs[k] ≤ 4 := by
  have := riseTo_down h (show k + 1 ≤ zs.length by omega)
  rw [riseTo_step hk, Bool.and_eq_true, Bool.and_eq_true] at this
  exact within_iff.1 this.2.1
theorem confOk_len {zs : List Int} (h : confOk zs = true) : 1 ≤ zs.length ∧ zs.length ≤ 4 := by
  rw [confOk, Bool.and_eq_true] at h
  have := within_iff.1 h.1
  omega
theorem confOk_big {zs : List Int} (h : zs.length < 1 ∨ 4 < zs.length) : confOk zs = false := by
  rw [confOk, within_no (by omega)]
  rfl
theorem confOk_of {zs : List Int} (h : 1 ≤ zs.length) (h4 : zs.length ≤ 4) : confOk zs = riseTo zs zs.length := by
  rw [confOk, within_yes (by omega) (by omega), Bool.true_and]
theorem confOk_at {zs : List Int} (h : confOk zs = true) {k : Nat} (hk : k < zs.length) : 1 ≤ zs[k] ∧ zs[k] ≤ 4 := by
  have hl := confOk_len h
  rw [confOk_of hl.1 hl.2] at h
  exact rise_at h hk

/-- the bytes of a conf, and the numbers of bytes -/
def confBytes (zs : List Int) : List UInt8 := zs.map fun x => UInt8.ofNat x.toNat
def intsOf (l : List UInt8) : List Int := l.map fun b => (b.toNat : Int)
theorem confBytes_length (zs : List Int) : (confBytes zs).length = zs.length := by simp [confBytes]
theorem intsOf_length (l : List UInt8) : (intsOf l).length = l.length := by simp [intsOf]
theorem confBytes_take (zs : List Int) (k : Nat) (hk : k < zs.length) : confBytes (zs.take (k + 1)) = confBytes (zs.take k) ++ [UInt8.ofNat zs[k].toNat] := by
  simp only [confBytes]
  rw [List.take_succ_eq_append_getElem hk, List.map_append]
  rfl
theorem intsOf_take (l : List UInt8) (k : Nat) (hk : k < l.length) : intsOf (l.take (k + 1)) = intsOf (l.take k) ++ [(l[k].toNat : Int)] := by
  simp only [intsOf]
  rw [List.take_succ_eq_append_getElem hk, List.map_append]
  rfl
/-- what is read of a text -/
def readConf (s : ByteArray) : List Int × Bool := if confOk (intsOf s.data.toList) = true then (intsOf s.data.toList, true) else ([], false)
def confText (zs : List Int) : ByteArray × Bool := if confOk zs = true then (⟨(confBytes zs).toArray⟩, true) else (ByteArray.empty, false)
end Go.Proofs.YtihgkocfgjihhaaGreatDoor

namespace Go.Proofs.YtihgkocfgjihhaaGreatDoor
open Go.RowKit

structure EntD where
  term : Int
  kind : Int
  data : ByteArray

def EntD.value (e : EntD) : Value := .agg #[.int .i64 e.term, .int .i64 e.kind, .string e.data]

/-- an entry is right -/
def entryOk (e : EntD) : Bool :=
  within e.term 0 100000 && (if e.kind = 1 then decide (e.data.size = 0) else if e.kind = 2 then (readConf e.data).2 else if e.kind = 3 then decide (e.data.size ≤ 120) else false)

/-- the text of an entry -/
def entText (i : Int) (e : EntD) : ByteArray := ⟨#[69]⟩ ++ ⟨(vb i.toNat).toArray⟩ ++ ⟨(vb e.term.toNat).toArray⟩ ++ ⟨#[UInt8.ofNat e.kind.toNat]⟩ ++ e.data
def entryText (i : Int) (e : EntD) : ByteArray × Bool := if (entryOk e && within i 1 1000000) = true then (entText i e, true) else (ByteArray.empty, false)

theorem entryOk_term {e : EntD} (h : within e.term 0 100000 = false) : entryOk e = false := by rw [entryOk, h]; rfl
theorem entryOk_one {e : EntD} (h : within e.term 0 100000 = true) (hk : e.kind = 1) : entryOk e = decide (e.data.size = 0) := by rw [entryOk, h, if_pos hk, Bool.true_and]
theorem entryOk_two {e : EntD} (h : within e.term 0 100000 = true) (hk : e.kind = 2) : entryOk e = (readConf e.data).2 := by rw [entryOk, h, if_neg (by omega), if_pos hk, Bool.true_and]
theorem entryOk_three {e : EntD} (h : within e.term 0 100000 = true) (hk : e.kind = 3) : entryOk e = decide (e.data.size ≤ 120) := by rw [entryOk, h, if_neg (by omega), if_neg (by omega), if_pos hk, Bool.true_and]
theorem entryOk_else {e : EntD} (h : within e.term 0 100000 = true) (h1 : e.kind ≠ 1) (h2 : e.kind ≠ 2) (h3 : e.kind ≠ 3) : entryOk e = false := by rw [entryOk, h, if_neg h1, if_neg h2, if_neg h3, Bool.true_and]
theorem entryOk_bd {e : EntD} (h : entryOk e = true) : 0 ≤ e.term ∧ e.term ≤ 100000 ∧ 1 ≤ e.kind ∧ e.kind ≤ 3 ∧ e.data.size ≤ 120 := by
  rw [entryOk, Bool.and_eq_true] at h
  obtain ⟨h1, h2⟩ := h
  have ht := within_iff.1 h1
  refine ⟨ht.1, ht.2, ?_⟩
  by_cases k1 : e.kind = 1
  · rw [if_pos k1] at h2
    have : e.data.size = 0 := by simpa using h2
    omega
  · rw [if_neg k1] at h2
    by_cases k2 : e.kind = 2
    · rw [if_pos k2] at h2
      have hc : confOk (intsOf e.data.data.toList) = true := by
        cases hA : confOk (intsOf e.data.data.toList) with
        | true => rfl
        | false => rw [readConf, if_neg (by simp [hA])] at h2; cases h2
      have hl := confOk_len hc
      rw [intsOf_length] at hl
      have : e.data.data.toList.length = e.data.size := by simp
      omega
    · rw [if_neg k2] at h2
      by_cases k3 : e.kind = 3
      · rw [if_pos k3] at h2
        have : e.data.size ≤ 120 := by simpa using h2
        omega
      · rw [if_neg k3] at h2
        cases h2
end Go.Proofs.YtihgkocfgjihhaaGreatDoor

namespace Go.Proofs.YtihgkocfgjihhaaGreatDoor
open Go.RowKit

/-- the term of the last entry, or the one that it begins with -/
def lastT : Int → List EntD → Int
  | t, [] => t
  | _, e :: r => lastT e.term r
/-- entries that are right, their terms never falling -/
def termsOk : Int → List EntD → Bool
  | _, [] => true
  | t, e :: r => entryOk e && decide (t ≤ e.term) && termsOk e.term r
theorem lastT_append (t : Int) (a b : List EntD) : lastT t (a ++ b) = lastT (lastT t a) b := by
  induction a generalizing t with
  | nil => rfl
  | cons e a ih => exact ih e.term
theorem termsOk_append (t : Int) (a b : List EntD) : termsOk t (a ++ b) = (termsOk t a && termsOk (lastT t a) b) := by
  induction a generalizing t with
  | nil => simp [termsOk, lastT]
  | cons e a ih => simp only [List.cons_append, termsOk, lastT, ih, Bool.and_assoc]
theorem lastT_take (t : Int) (l : List EntD) (k : Nat) (h : k < l.length) : lastT t (l.take (k + 1)) = l[k].term := by
  rw [List.take_succ_eq_append_getElem h, lastT_append]
  rfl
theorem lastT_last (t : Int) (l : List EntD) (h : 0 < l.length) : lastT t l = l[l.length - 1].term := by
  have := lastT_take t l (l.length - 1) (by omega)
  rw [List.take_of_length_le (by omega)] at this
  exact this
theorem termsOk_take (t : Int) (l : List EntD) (k : Nat) (h : k < l.length) : termsOk t (l.take (k + 1)) = (termsOk t (l.take k) && (entryOk l[k] && decide (lastT t (l.take k) ≤ l[k].term))) := by
  rw [List.take_succ_eq_append_getElem h, termsOk_append]
  simp [termsOk]
theorem termsOk_not (t : Int) (l : List EntD) (k : Nat) (h : termsOk t (l.take k) = false) : termsOk t l = false := by
  have := termsOk_append t (l.take k) (l.drop k)
  rw [List.take_append_drop, h] at this
  simpa using this
theorem termsOk_each (t : Int) (l : List EntD) (h : termsOk t l = true) : ∀ e ∈ l, entryOk e = true := by
  induction l generalizing t with
  | nil => intro e he; cases he
  | cons a l ih =>
    intro e he
    simp only [termsOk, Bool.and_eq_true] at h
    rcases List.mem_cons.1 he with rfl | he
    · exact h.1.1
    · exact ih _ h.2 e he

/-- a log is right -/
def logOk (s t : Int) (l : List EntD) : Bool := within s 0 1000000 && within t 0 100000 && decide (l.length ≤ 60) && decide (s + l.length ≤ 1000000) && termsOk t l
theorem logOk_iff {s t : Int} {l : List EntD} : logOk s t l = true ↔ (0 ≤ s ∧ s ≤ 1000000) ∧ (0 ≤ t ∧ t ≤ 100000) ∧ l.length ≤ 60 ∧ s + l.length ≤ 1000000 ∧ termsOk t l = true := by
  simp only [logOk, Bool.and_eq_true, within_iff, decide_eq_true_eq, and_assoc]
theorem logOk_start {s t : Int} {l : List EntD} (h : ¬ (0 ≤ s ∧ s ≤ 1000000)) : logOk s t l = false := by
  cases hq : logOk s t l with
  | false => rfl
  | true => exact absurd (logOk_iff.1 hq).1 h
theorem logOk_term {s t : Int} {l : List EntD} (h : ¬ (0 ≤ t ∧ t ≤ 100000)) : logOk s t l = false := by
  cases hq : logOk s t l with
  | false => rfl
  | true => exact absurd (logOk_iff.1 hq).2.1 h
theorem logOk_len {s t : Int} {l : List EntD} (h : ¬ l.length ≤ 60) : logOk s t l = false := by
  cases hq : logOk s t l with
  | false => rfl
  | true => exact absurd (logOk_iff.1 hq).2.2.1 h
theorem logOk_sum {s t : Int} {l : List EntD} (h : ¬ s + l.length ≤ 1000000) : logOk s t l = false := by
  cases hq : logOk s t l with
  | false => rfl
  | true => exact absurd (logOk_iff.1 hq).2.2.2.1 h
theorem logOk_ents {s t : Int} {l : List EntD} (h : termsOk t l = false) : logOk s t l = false := by
  rw [logOk, h, Bool.and_false]
theorem logOk_of {s t : Int} {l : List EntD} (hs : 0 ≤ s ∧ s ≤ 1000000) (ht : 0 ≤ t ∧ t ≤ 100000) (hl : l.length ≤ 60) (h2 : s + l.length ≤ 1000000) (h : termsOk t l = true) : logOk s t l = true := logOk_iff.2 ⟨hs, ht, hl, h2, h⟩

/-- the term of an index -/
def logTerm (s t : Int) (l : List EntD) (i : Int) : Int := if i = s then t else if s < i ∧ i ≤ s + l.length then (l.getD (i - s - 1).toNat ⟨0, 0, ByteArray.empty⟩).term else -1
/-- the log has the index -/
def logHas (s : Int) (n : Nat) (i : Int) : Bool := decide (s ≤ i ∧ i ≤ s + n)
/-- the log in which an entry has an index -/
def putAns (s t : Int) (l : List EntD) (i : Int) (e : EntD) : (Int × Int × List EntD) × Bool :=
  if logOk s t l = true ∧ (s + 1 ≤ i ∧ i ≤ s + l.length + 1) ∧ logOk s t (l.take (i - s - 1).toNat ++ [e]) = true then ((s, t, l.take (i - s - 1).toNat ++ [e]), true) else ((0, 0, []), false)
/-- the log that begins behind an index -/
def behindAns (s t : Int) (l : List EntD) (b tm : Int) : List EntD :=
  if logOk s t l = true ∧ (s ≤ b ∧ b ≤ s + l.length) ∧ logTerm s t l b = tm then l.drop (b - s).toNat else []
/-- how many entries two lists begin with alike -/
def alike : List EntD → List EntD → Nat
  | a :: l, b :: r => if a.term = b.term ∧ a.kind = b.kind ∧ a.data = b.data then alike l r + 1 else 0
  | _, _ => 0
/-- what two logs share -/
def sharedAns (s t : Int) (l : List EntD) (s' t' : Int) (l' : List EntD) : Int :=
  if logOk s t l = true ∧ logOk s' t' l' = true then
    if logHas s l.length (max s s') = true ∧ logHas s' l'.length (max s s') = true ∧ logTerm s t l (max s s') = logTerm s' t' l' (max s s') then max s s' + alike (l.drop (max s s' - s).toNat) (l'.drop (max s s' - s').toNat) else -1
  else -1
end Go.Proofs.YtihgkocfgjihhaaGreatDoor

namespace Go.Proofs.YtihgkocfgjihhaaGreatDoor
open Go.RowKit

/-- hidden from the walk -/
theorem hid {p : Prop} (h : p) : Hid p := h
theorem below_more {w w' : World} (h : Below w.heap.size w w') (o : Obj) : Below w.heap.size w (w'.alloc o) := h.alloc h.size o
theorem below_via {w w1 w2 : World} (h : Below w.heap.size w w1) (h2 : Below w1.heap.size w1 w2) : Below w.heap.size w w2 := h.trans (h2.mono h.size)

/-- block g holds just these cells, of elements of type t -/
def BlockIs (w : World) (g : Nat) (t : TypeId) (cs : List Value) : Prop := w.heap[g]? = some (.cells cs.toArray t (0, 0))

theorem BlockIs.lt {w : World} {g : Nat} {t : TypeId} {cs : List Value} (h : BlockIs w g t cs) : g < w.heap.size := by
  rcases Nat.lt_or_ge g w.heap.size with q | q
  · exact q
  · rw [BlockIs, Array.getElem?_eq_none q] at h; cases h
theorem BlockIs.cell {w : World} {g : Nat} {t : TypeId} {cs : List Value} (h : BlockIs w g t cs) {j : Nat} {v : Value} (hj : cs[j]? = some v) : w.cell? ⟨g, j, none⟩ = some v := by
  unfold BlockIs at h
  simp [World.cell?, h, hj]
theorem BlockIs.thaw {w : World} {g : Nat} {t : TypeId} {cs : List Value} (h : BlockIs w g t cs) (j : Nat) : w.frozen? ⟨g, j, none⟩ = false := by
  unfold BlockIs at h
  simp [World.frozen?, h]
theorem BlockIs.set {w : World} {g : Nat} {t : TypeId} {cs : List Value} (h : BlockIs w g t cs) (j : Nat) (v : Value) : BlockIs (w.setCell ⟨g, j, none⟩ v) g t (cs.set j v) := by
  unfold BlockIs at h ⊢
  simp only [World.setCell]
  rw [Array.getElem?_modify, if_pos rfl, h]
  simp [Array.setIfInBounds]
  exact fun hj => (List.set_eq_of_length_le hj).symm
theorem BlockIs.far {w : World} {g : Nat} {t : TypeId} {cs : List Value} (h : BlockIs w g t cs) {b j : Nat} (hb : b ≠ g) (v : Value) : BlockIs (w.setCell ⟨b, j, none⟩ v) g t cs := by
  unfold BlockIs at h ⊢
  simp only [World.setCell]
  rw [Array.getElem?_modify, if_neg hb]
  exact h
theorem BlockIs.on {w w' : World} {g : Nat} {t : TypeId} {cs : List Value} (h : BlockIs w g t cs) {B : Nat} (hb : Below B w w') (hg : g < B) : BlockIs w' g t cs := by
  unfold BlockIs
  rw [hb.block g hg]
  exact h
theorem BlockIs.made {w' : World} {g base : Nat} {t : TypeId} {n size : Nat} {xs : List Value} (h : w'.ownsRow base t size (.slice (some ⟨g, 0, none⟩) n n) n xs) : BlockIs w' g t xs := by
  obtain ⟨hx, (⟨h1, _⟩ | ⟨g', cap, cur, h1, _, hg, _, _, hs, ht⟩)⟩ := h
  · cases h1
  · cases h1
    unfold BlockIs
    rw [hg]
    have : cur.toList = xs := by rw [← ht, List.take_of_length_le (by simp [hs])]
    rw [← this]

/-- a cell of a row of elements of m cells each -/
theorem row_at {α : Type} (enc : α → List Value) (m : Nat) (hm : ∀ a, (enc a).length = m) (l : List α) (r : List Value) (j c : Nat) (hj : j < l.length) (hc : c < m) : (l.flatMap enc ++ r)[j * m + c]? = (enc l[j])[c]? := by
  induction l generalizing j with
  | nil => simp at hj
  | cons a l ih =>
    cases j with
    | zero =>
      simp only [List.flatMap_cons, Nat.zero_mul, Nat.zero_add, List.getElem_cons_zero, List.append_assoc]
      rw [List.getElem?_append_left (by rw [hm]; exact hc)]
    | succ j =>
      simp only [List.flatMap_cons, List.getElem_cons_succ, List.append_assoc]
      rw [List.getElem?_append_right (by rw [hm, Nat.succ_mul]; omega), hm, show (j + 1) * m + c - m = j * m + c by rw [Nat.succ_mul]; omega]
      exact ih j (by simpa using hj)
theorem row_length {α : Type} (enc : α → List Value) (m : Nat) (hm : ∀ a, (enc a).length = m) (l : List α) : (l.flatMap enc).length = l.length * m := by
  induction l with
  | nil => simp
  | cons a l ih => simp only [List.flatMap_cons, List.length_append, hm, ih, List.length_cons, Nat.succ_mul]; omega
/-- three cells of a list, written -/
theorem set_three (p : List Value) (a b c x y z : Value) (r : List Value) : (((p ++ x :: y :: z :: r).set p.length a).set (p.length + 1) b).set (p.length + 2) c = p ++ a :: b :: c :: r := by
  rw [List.set_append_right _ _ (Nat.le_refl _), List.set_append_right _ _ (by omega), List.set_append_right _ _ (by omega)]
  simp
end Go.Proofs.YtihgkocfgjihhaaGreatDoor

namespace Go.Proofs.YtihgkocfgjihhaaGreatDoor
open Go.RowKit

structure PeerD where
  pid : Int
  next : Int
  upto : Int
  sent : Int
/-- numbers that are numbers, texts that are texts -/
def PeerD.Fits (e : PeerD) : Prop := (-9223372036854775808 ≤ e.pid ∧ e.pid ≤ 9223372036854775807) ∧ (-9223372036854775808 ≤ e.next ∧ e.next ≤ 9223372036854775807) ∧ (-9223372036854775808 ≤ e.upto ∧ e.upto ≤ 9223372036854775807) ∧ (-9223372036854775808 ≤ e.sent ∧ e.sent ≤ 9223372036854775807)
def peerEnc (e : PeerD) : List Value := [.int .i64 e.pid, .int .i64 e.next, .int .i64 e.upto, .int .i64 e.sent]
/-- the cells of a row -/
def peerCells (l : List PeerD) : List Value := l.flatMap peerEnc
theorem peerCells_length (l : List PeerD) : (peerCells l).length = l.length * 4 := row_length peerEnc 4 (fun _ => rfl) l
theorem peerCells_take (l : List PeerD) (k : Nat) (h : k < l.length) : peerCells (l.take (k + 1)) = peerCells (l.take k) ++ peerEnc l[k] := by
  rw [List.take_succ_eq_append_getElem h, peerCells, peerCells, List.flatMap_append]
  simp
/-- how many letters -/
def peerOne (_e : PeerD) : Int := (0 : Int)
theorem peerOne_nonneg (e : PeerD) : 0 ≤ peerOne e := by unfold peerOne; omega
def peerBulk : List PeerD → Int
  | [] => 0
  | f :: l => peerOne f + peerBulk l
theorem peerBulk_nonneg (l : List PeerD) : 0 ≤ peerBulk l := by
  induction l with
  | nil => exact Int.le_refl 0
  | cons f l ih => have := peerOne_nonneg f; simp only [peerBulk]; omega
theorem peerBulk_take (l : List PeerD) (k : Nat) (h : k < l.length) : peerBulk (l.take (k + 1)) = peerBulk (l.take k) + peerOne l[k] := by
  induction l generalizing k with
  | nil => simp at h
  | cons f l ih =>
    cases k with
    | zero => simp [peerBulk]
    | succ k =>
      have := ih k (by simpa using h)
      simp only [List.take_succ_cons, peerBulk, List.getElem_cons_succ] at this ⊢
      omega
theorem peerBulk_le (l : List PeerD) (k : Nat) : peerBulk (l.take k) ≤ peerBulk l := by
  induction l generalizing k with
  | nil => simp [peerBulk]
  | cons f l ih =>
    cases k with
    | zero => have := peerBulk_nonneg (f :: l); simpa [peerBulk] using this
    | succ k => have := ih k; simp only [List.take_succ_cons, peerBulk]; omega
theorem peer_le_bulk {l : List PeerD} {f : PeerD} (h : f ∈ l) : peerOne f ≤ peerBulk l := by
  induction l with
  | nil => cases h
  | cons g l ih =>
    simp only [peerBulk]
    have := peerBulk_nonneg l
    have := peerOne_nonneg g
    rcases List.mem_cons.1 h with e | e
    · subst e; omega
    · have := ih e; omega
/-- few and short -/
def PeersSmall (l : List PeerD) : Prop := l.length ≤ 1048576 ∧ ∀ f ∈ l, peerOne f ≤ 1048576
theorem peersSmall {l : List PeerD} (h : 0 ≤ (1048576 : Int) - l.length - peerBulk l) : PeersSmall l := by
  have := peerBulk_nonneg l
  exact ⟨by omega, fun f hf => by have := peer_le_bulk hf; omega⟩
/-- they lie at an address, one behind the other -/
def PeersAt (w : World) (ao : Option Addr) (l : List PeerD) : Prop :=
  l ≠ [] → ∃ b off, ao = some ⟨b, off, none⟩ ∧ ∀ j (hj : j < l.length), w.cell? ⟨b, off + j * 4, none⟩ = some (.int .i64 l[j].pid) ∧ w.cell? ⟨b, off + j * 4 + 1, none⟩ = some (.int .i64 l[j].next) ∧ w.cell? ⟨b, off + j * 4 + 2, none⟩ = some (.int .i64 l[j].upto) ∧ w.cell? ⟨b, off + j * 4 + 3, none⟩ = some (.int .i64 l[j].sent)
theorem peersAt_of {w : World} {g : Nat} {t : TypeId} {l : List PeerD} {r : List Value} (h : BlockIs w g t (peerCells l ++ r)) : PeersAt w (some ⟨g, 0, none⟩) l := by
  intro _
  refine ⟨g, 0, rfl, fun j hj => ?_⟩
  rw [Nat.zero_add]
  exact ⟨h.cell (row_at peerEnc 4 (fun _ => rfl) l r j 0 hj (by omega)), h.cell (row_at peerEnc 4 (fun _ => rfl) l r j 1 hj (by omega)), h.cell (row_at peerEnc 4 (fun _ => rfl) l r j 2 hj (by omega)), h.cell (row_at peerEnc 4 (fun _ => rfl) l r j 3 hj (by omega))⟩
def PeersFit (l : List PeerD) : Prop := ∀ j (hj : j < l.length), l[j].Fits
theorem PeersAt.on {w w' : World} {ao : Option Addr} {l : List PeerD} (h : PeersAt w ao l) (hb : Below w.heap.size w w') : PeersAt w' ao l := by
  intro h0
  obtain ⟨b, off, e1, e2⟩ := h h0
  refine ⟨b, off, e1, fun j hj => ?_⟩
  obtain ⟨x0, x1, x2, x3⟩ := e2 j hj
  exact ⟨(hb.cell (p := ⟨b, off + j * 4, none⟩) (World.block_lt_of_cell? w _ x0)).trans x0, (hb.cell (p := ⟨b, off + j * 4 + 1, none⟩) (World.block_lt_of_cell? w _ x1)).trans x1, (hb.cell (p := ⟨b, off + j * 4 + 2, none⟩) (World.block_lt_of_cell? w _ x2)).trans x2, (hb.cell (p := ⟨b, off + j * 4 + 3, none⟩) (World.block_lt_of_cell? w _ x3)).trans x3⟩
/-- cells of a list, written -/
theorem peer_sets (p : List Value) (a0 a1 a2 a3 o0 o1 o2 o3 : Value) (r : List Value) : ((((p ++ o0 :: o1 :: o2 :: o3 :: r).set (p.length) a0).set (p.length + 1) a1).set (p.length + 2) a2).set (p.length + 3) a3 = p ++ a0 :: a1 :: a2 :: a3 :: r := by
  rw [List.set_append_right _ _ (Nat.le_refl _), List.set_append_right _ _ (by omega), List.set_append_right _ _ (by omega), List.set_append_right _ _ (by omega)]
  simp
theorem peer_set_other {cs : List Value} {i j : Nat} {v u : Value} (h : cs[j]? = some u) (hij : i ≠ j) : (cs.set i v)[j]? = some u := by
  rw [List.getElem?_set_ne hij]; exact h
end Go.Proofs.YtihgkocfgjihhaaGreatDoor

namespace Go.Proofs.YtihgkocfgjihhaaGreatDoor
open Go.RowKit

/-- numbers lie at an address, one behind the other -/
def IntsAt (w : World) (ao : Option Addr) (zs : List Int) : Prop := zs ≠ [] → ∃ b off, ao = some ⟨b, off, none⟩ ∧ ∀ j (hj : j < zs.length), w.cell? ⟨b, off + j, none⟩ = some (.int .i64 zs[j])
theorem IntsAt.on {w w' : World} {ao : Option Addr} {zs : List Int} (h : IntsAt w ao zs) (hb : Below w.heap.size w w') : IntsAt w' ao zs := by
  intro h0
  obtain ⟨b, off, e1, e2⟩ := h h0
  exact ⟨b, off, e1, fun j hj => (hb.cell (p := ⟨b, off + j, none⟩) (World.block_lt_of_cell? w _ (e2 j hj))).trans (e2 j hj)⟩
/-- numbers in their cells -/
def intCells (zs : List Int) : List Value := zs.map (Value.int .i64)
theorem intsAt_of {w : World} {g : Nat} {t : TypeId} {zs : List Int} {r : List Value} (h : BlockIs w g t (intCells zs ++ r)) : IntsAt w (some ⟨g, 0, none⟩) zs := by
  intro _
  refine ⟨g, 0, rfl, fun j hj => ?_⟩
  rw [Nat.zero_add]
  refine h.cell ?_
  rw [List.getElem?_append_left (by simpa [intCells] using hj)]
  simp [intCells, hj]
/-- a cell of a list, written -/
theorem set_one (p : List Value) (a x : Value) (r : List Value) : (p ++ x :: r).set p.length a = p ++ a :: r := by
  rw [List.set_append_right _ _ (Nat.le_refl _)]
  simp
end Go.Proofs.YtihgkocfgjihhaaGreatDoor

namespace Go.Proofs.YtihgkocfgjihhaaGreatDoor
open Go.RowKit

theorem grown_of_below {w w' : World} (h : Below w.heap.size w w') (row : Option Nat) : w.grownBy w' row := ⟨h.os, h.tape, h.output, h.size, fun k hk _ => h.block k hk⟩

theorem add_at (g j : Nat) : (⟨g, 0, none⟩ : Addr).add j = ⟨g, j, none⟩ := by
  simp only [Addr.add]
  split
  · simp_all
  · simp

/-- where an owned row lies -/
theorem row_lie {w : World} {base : Nat} {e : TypeId} {v : Value} {n : Nat} {xs : List Value} (h : w.ownsRow base e 1 v n xs) :
    xs.length = n ∧ ∃ ao cap, v = .slice ao n cap ∧ (0 < n → ∃ g, ao = some ⟨g, 0, none⟩ ∧ base ≤ g ∧ g < w.heap.size ∧ n ≤ cap ∧ v.ownBlock = some g ∧ (∀ (j : Nat) u, xs[j]? = some u → w.cell? ⟨g, j, none⟩ = some u) ∧ ∀ j, w.frozen? ⟨g, j, none⟩ = false) := by
  have h' := h
  obtain ⟨h1, h2⟩ := h
  refine ⟨by omega, ?_⟩
  rcases h2 with ⟨hv, hn⟩ | ⟨g, cap, cur, hv, hgb, hh, hle, hmx, hsz, hx⟩
  · exact ⟨none, 0, by rw [hv, hn], fun h0 => by omega⟩
  · refine ⟨_, cap, hv, fun _ => ⟨g, rfl, hgb, (h'.lt g (by rw [hv]; rfl)).2, hle, by rw [hv]; rfl, fun j u hu => ?_, fun j => ?_⟩⟩
    · have := h'.cells (g := g) (by rw [hv]; rfl) j _ hu
      rw [add_at] at this
      exact this
    · simp [World.frozen?, hh]

/-- an owned row, one of its cells written -/
theorem ownsRow_set {w : World} {base : Nat} {e : TypeId} {v : Value} {n : Nat} {xs : List Value} (h : w.ownsRow base e 1 v n xs) {g : Nat} (hg : v.ownBlock = some g) (k : Nat) (u : Value) :
    (w.setCell ⟨g, k, none⟩ u).ownsRow base e 1 v n (xs.set k u) := by
  obtain ⟨h1, h2⟩ := h
  rcases h2 with ⟨hv, hn⟩ | ⟨g', cap, cur, hv, hgb, hh, hle, hmx, hsz, hx⟩
  · rw [hv] at hg; cases hg
  · rw [hv] at hg
    simp only [Value.ownBlock, Option.some.injEq] at hg
    subst hg
    refine ⟨by simpa using h1, Or.inr ⟨g', cap, cur.setIfInBounds k u, hv, hgb, ?_, hle, hmx, by simpa using hsz, ?_⟩⟩
    · simp only [World.setCell]
      rw [Array.getElem?_modify, if_pos rfl, hh]
      rfl
    · rw [Array.toList_setIfInBounds, ← hx, List.take_set]

/-- a place of an owned row may be written -/
theorem at_row {w : World} {base : Nat} {e : TypeId} {g n c : Nat} {xs : List Value} (h : w.ownsRow base e 1 (.slice (some ⟨g, 0, none⟩) n c) n xs) (k : Nat) (hk : k < n) : ∃ u, w.cell? ⟨g, k, none⟩ = some u ∧ w.frozen? ⟨g, k, none⟩ = false := by
  obtain ⟨hl, ao, cap, hv, hf⟩ := row_lie h
  obtain ⟨g', e1, _, _, _, _, hc, hz⟩ := hf (by omega)
  simp only [Value.slice.injEq] at hv
  obtain ⟨rfl, _, _⟩ := hv
  simp only [Option.some.injEq, Addr.mk.injEq, and_true] at e1
  subst e1
  have hk' : k < xs.length := by omega
  exact ⟨xs[k], hc k _ (List.getElem?_eq_getElem hk'), hz k⟩

theorem grownBy_set (w : World) (g k : Nat) (u : Value) : w.grownBy (w.setCell ⟨g, k, none⟩ u) (some g) :=
  ⟨rfl, rfl, rfl, by simp [World.setCell], fun j _ hj => Below.heap_setCell _ _ _ _ (fun e => hj (by simp [e]))⟩

/-- the one cell of a new block -/
theorem one_new (w : World) (x : Value) (t : TypeId) : ∀ (j : Nat) u, [x][j]? = some u → (w.alloc (.cells #[x] t)).cell? ((⟨w.heap.size, 0, none⟩ : Addr).add j) = some u := by
  intro j u hj
  match j, hj with
  | 0, hj => simp at hj; subst hj; simp [Addr.add]

/-- texts as the cells of a row -/
def st (l : List ByteArray) : List Value := l.map Value.string
theorem st_append (l r : List ByteArray) : st (l ++ r) = st l ++ st r := by simp [st]
theorem st_length (l : List ByteArray) : (st l).length = l.length := by simp [st]
theorem st_at (l : List ByteArray) (k : Nat) (h : k < l.length) : (st l)[k]? = some (.string l[k]) := by simp [st, h]
end Go.Proofs.YtihgkocfgjihhaaGreatDoor

namespace Go.Proofs.YtihgkocfgjihhaaGreatDoor
open Go.RowKit

theorem confText_yes {zs : List Int} (h : confOk zs = true) : confText zs = (⟨(confBytes zs).toArray⟩, true) := by rw [confText, if_pos h]
theorem confText_no {zs : List Int} (h : confOk zs = false) : confText zs = (ByteArray.empty, false) := by rw [confText, if_neg (by simp [h])]
theorem readConf_yes {s : ByteArray} (h : confOk (intsOf s.data.toList) = true) : readConf s = (intsOf s.data.toList, true) := by rw [readConf, if_pos h]
theorem readConf_no {s : ByteArray} (h : confOk (intsOf s.data.toList) = false) : readConf s = ([], false) := by rw [readConf, if_neg (by simp [h])]

theorem conf_byte {x : Int} (h1 : 1 ≤ x) (h4 : x ≤ 4) : IntKind.u8.wrap x = x := by
  rw [IntKind.wrap_u8]
  omega
/-- what both answer -/
def readConfAns (s : ByteArray) (w : World) (e : Ending) (w' : World) : Prop :=
  ∃ v, e = .returned (.tuple #[v, .bool (readConf s).2]) ∧ w'.ownsRow w.heap.size 3 1 v (readConf s).1.length (intCells (readConf s).1) ∧ Below w.heap.size w w'

theorem ints_row {w : World} {base : Nat} {ao : Option Addr} {n c : Nat} {zs : List Int} (hn : zs.length = n) (h : w.ownsRow base 3 1 (.slice ao n c) n (intCells zs)) : IntsAt w ao zs := by
  intro hne
  obtain ⟨_, va, vc, hv, hf⟩ := row_lie h
  simp only [Value.slice.injEq] at hv
  obtain ⟨rfl, _, _⟩ := hv
  have hp : 0 < zs.length := List.length_pos_iff.2 hne
  obtain ⟨g, e1, _, _, _, _, hc, _⟩ := hf (by omega)
  refine ⟨g, 0, e1, fun j hj => ?_⟩
  rw [Nat.zero_add]
  exact hc j _ (by simp [intCells, hj])

theorem readConf_none {s : ByteArray} {w w' : World} {v : Value} (h : confOk (intsOf s.data.toList) = false) (ho : w'.ownsRow w.heap.size 3 1 v 0 []) (hb : Below w.heap.size w w') : readConfAns s w (.returned (.tuple #[v, .bool false])) w' := by
  refine ⟨v, by rw [readConf_no h], ?_, hb⟩
  rw [readConf_no h]
  exact ho

theorem readConf_some {s : ByteArray} {w w' : World} {v : Value} (h : confOk (intsOf s.data.toList) = true) (ho : w'.ownsRow w.heap.size 3 1 v s.size (intCells (intsOf s.data.toList))) (hb : Below w.heap.size w w') : readConfAns s w (.returned (.tuple #[v, .bool true])) w' := by
  refine ⟨v, by rw [readConf_yes h], ?_, hb⟩
  rw [readConf_yes h]
  have : (intsOf s.data.toList).length = s.size := by rw [intsOf_length]; simp
  rw [this]
  exact ho

theorem kept_conf {w w2 : World} {base : Nat} {e : TypeId} {v : Value} {n : Nat} {xs : List Value} (h : w.ownsRow base e 1 v n xs) (hb : Below w.heap.size w w2) : w2.ownsRow base e 1 v n xs := by
  refine h.kept (grown_of_below hb none) ?_
  cases v.ownBlock with
  | none => exact Or.inl rfl
  | some g => exact Or.inr (by simp)
end Go.Proofs.YtihgkocfgjihhaaGreatDoor

namespace Go.Proofs.YtihgkocfgjihhaaGreatDoor
open Go.RowKit

theorem entryText_yes {i : Int} {d : EntD} (h : entryOk d = true) (hi : within i 1 1000000 = true) : entryText i d = (entText i d, true) := by rw [entryText, if_pos (by rw [h, hi]; rfl)]
theorem entryText_no {i : Int} {d : EntD} (h : entryOk d = false ∨ within i 1 1000000 = false) : entryText i d = (ByteArray.empty, false) := by
  rw [entryText, if_neg]
  rcases h with h | h <;> simp [h]
theorem confBytes_intsOf (l : List UInt8) : confBytes (intsOf l) = l := by
  simp only [confBytes, intsOf, List.map_map]
  conv => rhs; rw [← List.map_id l]
  apply List.map_congr_left
  intro b _
  simp
theorem readConf_true {s : ByteArray} (h : (readConf s).2 = true) : confOk (intsOf s.data.toList) = true ∧ (readConf s).1 = intsOf s.data.toList := by
  cases hA : confOk (intsOf s.data.toList) with
  | true => rw [readConf_yes hA]; exact ⟨rfl, rfl⟩
  | false => rw [readConf_no hA] at h; cases h
theorem size_E (V : ByteArray) : ((⟨#[69]⟩ : ByteArray) ++ V).size = 1 + V.size := by rw [ByteArray.size_append]; rfl
theorem size_one (A : ByteArray) (k : UInt8) : (A ++ ⟨#[k]⟩).size = A.size + 1 := by rw [ByteArray.size_append]; rfl
theorem entText_none (n t : Nat) : entText n ⟨t, 1, ByteArray.empty⟩ = (⟨#[69]⟩ : ByteArray) ++ ⟨(vb n).toArray⟩ ++ ⟨(vb t).toArray⟩ ++ ⟨#[1]⟩ := by
  simp only [entText, ByteArray.append_empty, Int.toNat_natCast]
  rfl
theorem empty_data {s : ByteArray} (h : s.size = 0) : s = ByteArray.empty := by
  apply ByteArray.ext
  exact Array.eq_empty_of_size_eq_zero h
theorem entText_of (n t q : Nat) (s : ByteArray) : entryText n ⟨t, q, s⟩ = (entText n ⟨t, q, s⟩, true) ↔ entryText n ⟨t, q, s⟩ = ((⟨#[69]⟩ : ByteArray) ++ ⟨(vb n).toArray⟩ ++ ⟨(vb t).toArray⟩ ++ ⟨#[UInt8.ofNat q]⟩ ++ s, true) := Iff.rfl
theorem vb_size (n : Nat) (h : n ≤ 1000000) : (⟨(vb n).toArray⟩ : ByteArray).size ≤ 1000001 := by
  have := vb_le n
  show (vb n).toArray.size ≤ 1000001
  simp
  omega
end Go.Proofs.YtihgkocfgjihhaaGreatDoor

namespace Go.Proofs.YtihgkocfgjihhaaGreatDoor
open Go.RowKit

structure NodeD where
  id : Int
  term : Int
  vote : Int
  role : Int
  lead : Int
  conf : List Int
  start : Int
  sterm : Int
  ents : List EntD
  commit : Int
  clock : Int
  limit : Int
  votes : List Int
  peers : List PeerD
/-- how many of the first k entries there are up to the last conf entry -/
def lastTo (l : List EntD) : Nat → Nat
  | 0 => 0
  | k + 1 => match l[k]? with
    | none => lastTo l k
    | some e => if e.kind = 2 then k + 1 else lastTo l k
/-- the conf behind the first k entries, those passed over that tell none -/
def confTo (c : List Int) (l : List EntD) : Nat → List Int
  | 0 => c
  | k + 1 => match l[k]? with
    | none => confTo c l k
    | some e => if e.kind = 2 ∧ (readConf e.data).2 = true then (readConf e.data).1 else confTo c l k
/-- the conf of the last conf entry, whatever it tells -/
def confIn (c : List Int) (l : List EntD) : List Int := match lastTo l l.length with
  | 0 => c
  | k + 1 => match l[k]? with
    | none => c
    | some e => (readConf e.data).1
def othersD (zs : List Int) (x : Int) : List Int := zs.filter fun y => !(y == x)
def peerOk (p : PeerD) (last : Int) : Bool := within p.next 1 (last + 1) && within p.upto 0 (p.next - 1) && within p.sent 0 20000
/-- the first k peers are those of these ids, and right -/
def peersTo (ps : List PeerD) (os : List Int) (last : Int) : Nat → Bool
  | 0 => true
  | k + 1 => peersTo ps os last k && match ps[k]?, os[k]? with
    | some p, some o => decide (p.pid = o) && peerOk p last
    | _, _ => true
def peersAre (ps : List PeerD) (os : List Int) (last : Int) : Bool := decide (ps.length = os.length) && peersTo ps os last os.length
def lastD (d : NodeD) : Int := d.start + d.ents.length
/-- what a node's fields are asked first -/
def nodeHead (d : NodeD) : Bool := within d.id 1 4 && confOk d.conf && logOk d.start d.sterm d.ents
def nodeMid (d : NodeD) : Bool := within d.term 0 100000 && within d.vote 0 4 && within d.lead 0 4 && within d.role 0 2 && decide (lastT d.sterm d.ents ≤ d.term) && within d.commit d.start (lastD d) && within d.clock 0 20 && within d.limit 1 20
def roleD (d : NodeD) : Bool := riseTo d.votes d.votes.length && (decide (d.votes.length = 0) || decide (d.role = 1)) && (if d.role = 2 then peersAre d.peers (othersD (confTo d.conf d.ents d.ents.length) d.id) (lastD d) else decide (d.peers.length = 0))
def nodeOk (d : NodeD) : Bool := nodeHead d && nodeMid d && roleD d

theorem lastTo_step {l : List EntD} {k : Nat} (hk : k < l.length) : lastTo l (k + 1) = if l[k].kind = 2 then k + 1 else lastTo l k := by rw [lastTo, List.getElem?_eq_getElem hk]
theorem confTo_step {c : List Int} {l : List EntD} {k : Nat} (hk : k < l.length) : confTo c l (k + 1) = if l[k].kind = 2 ∧ (readConf l[k].data).2 = true then (readConf l[k].data).1 else confTo c l k := by rw [confTo, List.getElem?_eq_getElem hk]
theorem lastTo_le (l : List EntD) : ∀ k, lastTo l k ≤ k
  | 0 => Nat.le_refl _
  | k + 1 => by
    have := lastTo_le l k
    rw [lastTo]
    split
    · omega
    · split <;> omega
theorem entry_conf {e : EntD} (h : entryOk e = true) (hk : e.kind = 2) : (readConf e.data).2 = true := by
  rw [entryOk, Bool.and_eq_true] at h
  have h2 := h.2
  rw [if_neg (by omega), if_pos hk] at h2
  exact h2
theorem conf_upto (c : List Int) (l : List EntD) (h : ∀ e ∈ l, entryOk e = true) : ∀ k, k ≤ l.length → confTo c l k = match lastTo l k with
    | 0 => c
    | j + 1 => match l[j]? with
      | none => c
      | some e => (readConf e.data).1
  | 0, _ => rfl
  | k + 1, hk => by
    have hk' : k < l.length := hk
    rw [confTo_step hk', lastTo_step hk']
    by_cases h2 : l[k].kind = 2
    · rw [if_pos ⟨h2, entry_conf (h _ (List.getElem_mem hk')) h2⟩, if_pos h2]
      show _ = match l[k]? with
        | none => c
        | some e => (readConf e.data).1
      rw [List.getElem?_eq_getElem hk']
    · rw [if_neg (fun q => h2 q.1), if_neg h2]
      exact conf_upto c l h k (by omega)
theorem conf_both (c : List Int) (l : List EntD) (h : ∀ e ∈ l, entryOk e = true) : confIn c l = confTo c l l.length := (conf_upto c l h l.length (Nat.le_refl _)).symm
theorem logOk_each {s t : Int} {l : List EntD} (h : logOk s t l = true) : ∀ e ∈ l, entryOk e = true := termsOk_each t l (logOk_iff.1 h).2.2.2.2
theorem confTo_ok (c : List Int) (l : List EntD) (hc : confOk c = true) : ∀ k, k ≤ l.length → confOk (confTo c l k) = true
  | 0, _ => hc
  | k + 1, hk => by
    have hk' : k < l.length := hk
    rw [confTo_step hk']
    by_cases h2 : l[k].kind = 2 ∧ (readConf l[k].data).2 = true
    · rw [if_pos h2]
      have := readConf_true h2.2
      rw [this.2]
      exact this.1
    · rw [if_neg h2]
      exact confTo_ok c l hc k (by omega)
theorem rise_len {zs : List Int} (h : riseTo zs zs.length = true) : zs.length ≤ 4 := by
  have key : ∀ k (hk : k < zs.length), (k : Int) + 1 ≤ zs[k] := by
    intro k
    induction k with
    | zero => intro hk; have := (rise_at h hk).1; omega
    | succ j ih =>
      intro hk
      have h1 := ih (by omega)
      have h2 := riseTo_down h (show j + 1 + 1 ≤ zs.length by omega)
      rw [riseTo_step hk, behindI_step hk, Bool.and_eq_true, Bool.and_eq_true] at h2
      have := of_decide_eq_true h2.2.2
      omega
  by_cases h4 : zs.length ≤ 4
  · exact h4
  · have := key 4 (by omega)
    have := (rise_at h (show 4 < zs.length by omega)).2
    omega
theorem votes_conf (zs : List Int) : (decide (zs.length = 0) || confOk zs) = riseTo zs zs.length := by
  by_cases h0 : zs.length = 0
  · have : zs = [] := List.eq_nil_of_length_eq_zero h0
    subst this
    rfl
  · rw [decide_eq_false h0, Bool.false_or]
    by_cases h4 : zs.length ≤ 4
    · exact confOk_of (by omega) h4
    · rw [confOk_big (by omega)]
      cases hr : riseTo zs zs.length with
      | false => rfl
      | true => exact absurd (rise_len hr) h4
end Go.Proofs.YtihgkocfgjihhaaGreatDoor

namespace Go.Proofs.YtihgkocfgjihhaaGreatDoor
open Go.RowKit

/-- a struct is read whole -/
theorem load_whole {n : Nat} {T : TypeId} {fs : Array Field} (hu : Tryz.prog.underlying T = some (.struct fs)) (hs : (Tryz.prog.info? T).map (·.size) = some n) {W : World} {b : Nat} {t : TypeId} {cs : List Value} {r : List Value} (hb : BlockIs W b t (cs ++ r)) (hn : cs.length = n) : (Instr.loadAt T (.pointer (some ⟨b, 0, none⟩))).run Tryz.prog W = .ok (.agg cs.toArray) W := by
  refine run_loadAt_mid W b 0 T cs _ (fun j v hv => ?_) hu rfl (by rw [hs, hn])
  rw [Nat.zero_add]
  exact hb.cell (by rw [List.getElem?_append_left (List.getElem?_eq_some_iff.1 hv).1]; exact hv)
theorem wpList_load_whole {n : Nat} {T : TypeId} {fs : Array Field} (hu : Tryz.prog.underlying T = some (.struct fs)) (hs : (Tryz.prog.info? T).map (·.size) = some n) {ops : Array Oper} {rest : List Oper} {op : Oper} {a : Act} {w : World} {Q : Exit → Act → World → Prop} {b : Nat} {t : TypeId} {cs : List Value} (hb : BlockIs w b t cs) (hn : cs.length = n) (hgd : op.guard = none) (x : Operand) (ho : op.op = .load T x)
    (hx : a.eval x = .pointer (some ⟨b, 0, none⟩)) (h : wpList Tryz.prog ops Q rest (a.put op.dst (.agg cs.toArray)) w) : wpList Tryz.prog ops Q (op :: rest) a w :=
  wpList_plain hgd fun _ hK => by
    unfold Oper.wp execOp
    simp only [ho, hx, load_whole hu hs (r := []) (by rw [List.append_nil]; exact hb) hn, Sem.run_bind, Sem.run_pure, Result.andThen_ok]
    exact hK _ _ h
/-- a struct is written whole -/
theorem store_whole {n : Nat} {T : TypeId} (hs : (Tryz.prog.info? T).map (·.size) = some n) {W : World} {b : Nat} {cs : List Value} (hb : BlockIs W b T cs) (hn : cs.length = n) {A : Array Value} (hA : A.size = n) (h1 : A.all (·.oneCell') = true) : (Instr.storeAt T (.pointer (some ⟨b, 0, none⟩)) (.agg A)).run Tryz.prog W = .ok () (W.setRow b A) := by
  simp only [Instr.storeAt, Instr.sureAddr, Sem.run_bind, Sem.run_pure, Result.andThen_ok, run_storeVar_row W b T T cs.toArray A hb (by rw [hs, hA]) (by simp [hn, hA]) h1]
theorem whole_block {W : World} {b : Nat} {cs : List Value} {t : TypeId} (hb : BlockIs W b t cs) (A : Array Value) : BlockIs (W.setRow b A) b t A.toList := setRow_heap W b _ _ _ _ hb
theorem whole_other {W : World} {b g : Nat} {cs : List Value} {t : TypeId} (hb : BlockIs W g t cs) (hg : b ≠ g) (A : Array Value) : BlockIs (W.setRow b A) g t cs := by
  unfold BlockIs
  rw [setRow_other W b g A (by omega)]
  exact hb
/-- a box that is written whole is as if it had been laid so -/
theorem whole_over (w : World) (c c' : Array Value) (t : TypeId) : (w.alloc (.cells c t)).setRow w.heap.size c' = w.alloc (.cells c' t) := by
  simp only [World.setRow, World.alloc]
  congr 1
  apply Array.ext_getElem?
  intro i
  rw [Array.getElem?_modify]
  by_cases h : w.heap.size = i
  · subst h
    simp
  · have h' : ¬ i = w.heap.size := fun e => h e.symm
    simp [h, h', Array.getElem?_push]
theorem wpList_store_whole {n : Nat} {T : TypeId} (hs : (Tryz.prog.info? T).map (·.size) = some n) {ops : Array Oper} {rest : List Oper} {op : Oper} {a : Act} {w : World} {Q : Exit → Act → World → Prop} {b : Nat} {cs : List Value} (hb : BlockIs w b T cs) (hn : cs.length = n) (hgd : op.guard = none) (x y : Operand) (ho : op.op = .store T x y)
    (A : Array Value) (hx : a.eval x = .pointer (some ⟨b, 0, none⟩)) (hy : a.eval y = .agg A) (hA : A.size = n) (h1 : A.all (·.oneCell') = true)
    (h : wpList Tryz.prog ops Q rest (a.put op.dst undef) (w.setRow b A)) : wpList Tryz.prog ops Q (op :: rest) a w :=
  wpList_plain hgd fun _ hK => by
    unfold Oper.wp execOp
    simp only [ho, hx, hy, store_whole hs hb hn hA h1, Sem.run_bind, Sem.run_pure, Result.andThen_ok]
    exact hK _ _ h
end Go.Proofs.YtihgkocfgjihhaaGreatDoor

namespace Go.Proofs.YtihgkocfgjihhaaGreatDoor
open Go.RowKit

/-- numbers that are numbers, a text that is a text -/
def EntD.Fits (e : EntD) : Prop := (-9223372036854775808 ≤ e.term ∧ e.term ≤ 9223372036854775807) ∧ (-9223372036854775808 ≤ e.kind ∧ e.kind ≤ 9223372036854775807) ∧ e.data.size ≤ maxLen
def entEnc (e : EntD) : List Value := [.int .i64 e.term, .int .i64 e.kind, .string e.data]
/-- the cells of entries -/
def entCells (l : List EntD) : List Value := l.flatMap entEnc
theorem entCells_length (l : List EntD) : (entCells l).length = l.length * 3 := row_length entEnc 3 (fun _ => rfl) l
theorem entCells_take (l : List EntD) (k : Nat) (h : k < l.length) : entCells (l.take (k + 1)) = entCells (l.take k) ++ entEnc l[k] := by
  rw [List.take_succ_eq_append_getElem h, entCells, entCells, List.flatMap_append]
  simp
/-- how many letters -/
def entBulk : List EntD → Int
  | [] => 0
  | f :: l => f.data.size + entBulk l
theorem entBulk_nonneg (l : List EntD) : 0 ≤ entBulk l := by
  induction l with
  | nil => exact Int.le_refl 0
  | cons f l ih => simp only [entBulk]; omega
theorem entBulk_take (l : List EntD) (k : Nat) (h : k < l.length) : entBulk (l.take (k + 1)) = entBulk (l.take k) + l[k].data.size := by
  induction l generalizing k with
  | nil => simp at h
  | cons f l ih =>
    cases k with
    | zero => simp [entBulk]
    | succ k =>
      have := ih k (by simpa using h)
      simp only [List.take_succ_cons, entBulk, List.getElem_cons_succ] at this ⊢
      omega
theorem entBulk_le (l : List EntD) (k : Nat) : entBulk (l.take k) ≤ entBulk l := by
  induction l generalizing k with
  | nil => simp [entBulk]
  | cons f l ih =>
    cases k with
    | zero => have := entBulk_nonneg (f :: l); simpa [entBulk] using this
    | succ k => have := ih k; simp only [List.take_succ_cons, entBulk]; omega
theorem ent_le_bulk {l : List EntD} {f : EntD} (h : f ∈ l) : (f.data.size : Int) ≤ entBulk l := by
  induction l with
  | nil => cases h
  | cons g l ih =>
    simp only [entBulk]
    have := entBulk_nonneg l
    rcases List.mem_cons.1 h with e | e
    · subst e; omega
    · have := ih e; omega
/-- entries that are few and short -/
def EntsSmall (l : List EntD) : Prop := l.length ≤ 1048576 ∧ ∀ f ∈ l, f.data.size ≤ 1048576
theorem entsSmall {l : List EntD} (h : 0 ≤ (1048576 : Int) - l.length - entBulk l) : EntsSmall l := by
  have := entBulk_nonneg l
  exact ⟨by omega, fun f hf => by have := ent_le_bulk hf; omega⟩

/-- entries lie at an address, one behind the other -/
def EntsAt (w : World) (ao : Option Addr) (l : List EntD) : Prop :=
  l ≠ [] → ∃ b off, ao = some ⟨b, off, none⟩ ∧ ∀ j (hj : j < l.length), w.cell? ⟨b, off + j * 3, none⟩ = some (.int .i64 l[j].term) ∧ w.cell? ⟨b, off + j * 3 + 1, none⟩ = some (.int .i64 l[j].kind) ∧ w.cell? ⟨b, off + j * 3 + 2, none⟩ = some (.string l[j].data)
theorem entsAt_of {w : World} {g : Nat} {t : TypeId} {l : List EntD} {r : List Value} (h : BlockIs w g t (entCells l ++ r)) : EntsAt w (some ⟨g, 0, none⟩) l := by
  intro _
  refine ⟨g, 0, rfl, fun j hj => ?_⟩
  rw [Nat.zero_add]
  exact ⟨h.cell (row_at entEnc 3 (fun _ => rfl) l r j 0 hj (by omega)), h.cell (row_at entEnc 3 (fun _ => rfl) l r j 1 hj (by omega)), h.cell (row_at entEnc 3 (fun _ => rfl) l r j 2 hj (by omega))⟩
def EntsFit (l : List EntD) : Prop := ∀ j (hj : j < l.length), l[j].Fits
theorem EntsAt.on {w w' : World} {ao : Option Addr} {l : List EntD} (h : EntsAt w ao l) (hb : Below w.heap.size w w') : EntsAt w' ao l := by
  intro h0
  obtain ⟨b, off, e1, e2⟩ := h h0
  refine ⟨b, off, e1, fun j hj => ?_⟩
  obtain ⟨x, y, z⟩ := e2 j hj
  exact ⟨(hb.cell (p := ⟨b, off + j * 3, none⟩) (World.block_lt_of_cell? w _ x)).trans x, (hb.cell (p := ⟨b, off + j * 3 + 1, none⟩) (World.block_lt_of_cell? w _ y)).trans y, (hb.cell (p := ⟨b, off + j * 3 + 2, none⟩) (World.block_lt_of_cell? w _ z)).trans z⟩
/-- a log as data -/
structure LogD where
  start : Int
  sterm : Int
  ents : List EntD
end Go.Proofs.YtihgkocfgjihhaaGreatDoor

namespace Go.Proofs.YtihgkocfgjihhaaGreatDoor
open Go.RowKit Go.Sort

/-- where a node's rows lie -/
structure NodeL where
  co : Option Addr
  cc : Nat
  eo : Option Addr
  ec : Nat
  vo : Option Addr
  vc : Nat
  po : Option Addr
  pc : Nat
structure NodeAt (w : World) (d : NodeD) (p : NodeL) : Prop where
  conf : IntsAt w p.co d.conf
  ents : EntsAt w p.eo d.ents
  votes : IntsAt w p.vo d.votes
  peers : PeersAt w p.po d.peers
theorem NodeAt.on {w w' : World} {d : NodeD} {p : NodeL} (h : NodeAt w d p) (hb : Below w.heap.size w w') : NodeAt w' d p := ⟨h.conf.on hb, h.ents.on hb, h.votes.on hb, h.peers.on hb⟩
/-- its rows and its texts are small -/
structure NodeD.Small (d : NodeD) : Prop where
  conf : d.conf.length ≤ 1048576
  ents : d.ents.length ≤ 1048576
  each : ∀ f ∈ d.ents, f.data.size ≤ 1048576
  votes : d.votes.length ≤ 1048576
  peers : d.peers.length ≤ 1048576
set_option maxRecDepth 1000000 in
theorem node_size : (Tryz.prog.info? 61).map (·.size) = some 14 := by kernel_rfl
end Go.Proofs.YtihgkocfgjihhaaGreatDoor

namespace Go.Proofs.YtihgkocfgjihhaaGreatDoor
open Go.RowKit

theorem int_info : (Tryz.prog.info? 3).map (fun i => (i.zero, i.size, i.bytes)) = some (some (.int .i64 0), 1, 8) := by kernel_rfl
theorem made_ints (n : Nat) : (madeCells #[Value.int .i64 0] n).toList.length = n := by simp [madeCells]

/-- a number's cell is written -/
theorem put_int {w : World} {g k : Nat} {t : TypeId} {zs : List Int} {r : List Value} (z : Int) (h : BlockIs w g t (intCells zs ++ r)) (hk : zs.length = k) (hr : 0 < r.length) :
    (∃ x, w.cell? ⟨g, k, none⟩ = some x) ∧ w.frozen? ⟨g, k, none⟩ = false ∧ BlockIs (w.setCell ⟨g, k, none⟩ (.int .i64 z)) g t (intCells (zs ++ [z]) ++ r.drop 1) := by
  have hlen : (intCells zs).length = k := by simp [intCells, hk]
  match r, hr with
  | x :: r', _ =>
    have hs := h.set k (.int .i64 z)
    have e1 := set_one (intCells zs) (.int .i64 z) x r'
    rw [hlen] at e1
    rw [e1] at hs
    refine ⟨⟨x, h.cell ?_⟩, h.thaw k, ?_⟩
    · rw [List.getElem?_append_right (by omega), hlen, Nat.sub_self]; rfl
    · simpa [intCells] using hs
end Go.Proofs.YtihgkocfgjihhaaGreatDoor

namespace Go.Proofs.YtihgkocfgjihhaaGreatDoor
open Go.ChangeShapes Go.WideShapes Go.RowKit Go.Deep

set_option maxRecDepth 1000000 in
theorem ints_cells3 : Tryz.prog.cellsOf 3 = 1 := by kernel_rfl
/-- numbers that are numbers -/
def IntsFit (zs : List Int) : Prop := ∀ j (hj : j < zs.length), -9223372036854775808 ≤ zs[j] ∧ zs[j] ≤ 9223372036854775807

set_option maxRecDepth 1000000 in
theorem open_intS {H : Type} {enc : TypeId × Value → H} {W : World} {r : Reach} {b0 base : Nat} {sp : Nat → Bool} {held : Bool} {v : Value} {d : DataW H} {ps : List MemPlace} (hval : Value.okWide Tryz.prog W r b0 22 v) (hd : DataW.Trod enc Tryz.prog W base sp held 22 v d ps) :
    ∃ ao zs cap, v = .slice ao zs.length cap ∧ zs.length ≤ cap ∧ cap ≤ maxLen ∧ IntsAt W ao zs ∧ IntsFit zs := by
  obtain ⟨ao, ln, cp, rfl⟩ := okWide_slice Tryz.underlying22 hval
  obtain ⟨fuel, hf⟩ := hd
  rcases open_slice Tryz.underlying22 hf with ⟨hcs, _⟩ | ⟨a, len, cap, m, n, D, Pl, hcs, hb, hl, hm, hmm, _, hx⟩
  · simp [Value.cells] at hcs
    obtain ⟨rfl, rfl, rfl⟩ := hcs
    exact ⟨none, [], 0, rfl, Nat.le_refl _, by unfold maxLen; omega, fun h => absurd rfl h, fun j hj => by simp at hj⟩
  · simp [Value.cells] at hcs
    obtain ⟨rfl, rfl, rfl⟩ := hcs
    have hlm : ln ≤ m := by rw [hmm]; split <;> omega
    have each : ∀ i, i < ln → ∃ z : Int, (W.cells? base (a.add (i * 1)) 1 = some [.int .i64 z]) ∧ -9223372036854775808 ≤ z ∧ z ≤ 9223372036854775807 := fun i hi => by
      obtain ⟨cs', e1, e2⟩ := hx i (by omega)
      rw [ints_cells3] at e1
      obtain ⟨z, rfl, _, s⟩ := DataW.trod_int Tryz.underlying3 e2
      have := bounds_i64 s
      exact ⟨z, e1, this.1, this.2⟩
    obtain ⟨F, hF⟩ := choose_lt each
    have hll : ((List.range ln).map F).length = ln := by simp
    refine ⟨some a, (List.range ln).map F, cp, by rw [hll], by rw [hll]; exact hl, hm, ?_, ?_⟩
    · intro hne
      have hp : 0 < ln := by
        rcases Nat.eq_zero_or_pos ln with e | e
        · subst e; exact absurd rfl hne
        · exact e
      obtain ⟨b, off, spot⟩ := a
      have hc : ∀ i, i < ln → W.cell? ((Addr.add ⟨b, off, spot⟩ (i * 1)).add 0) = some (.int .i64 (F i)) := fun i hi => (World.cells?_some (hF i hi).1).2.2 0 (by omega)
      have hspot : spot = none := by
        have := hc 0 hp
        simpa [Addr.add] using World.cell?_spot this
      subst hspot
      refine ⟨b, off, rfl, fun j hj => ?_⟩
      simp only [List.getElem_map, List.getElem_range]
      have h0 := hc j (by omega)
      rw [add_plain, add_plain, Nat.mul_one, Nat.add_zero] at h0
      exact h0
    · intro j hj
      simp only [List.getElem_map, List.getElem_range]
      exact (hF j (by omega)).2
end Go.Proofs.YtihgkocfgjihhaaGreatDoor

namespace Go.Proofs.YtihgkocfgjihhaaGreatDoor
open Go.ChangeShapes Go.WideShapes Go.RowKit Go.Deep

set_option maxRecDepth 1000000 in
theorem peer_cellsE : Tryz.prog.cellsOf 197 = 4 := by kernel_rfl
set_option maxRecDepth 1000000 in
theorem peer_cells9 : Tryz.prog.cellsOf 9 = 1 := by kernel_rfl
set_option maxRecDepth 1000000 in
theorem peer_cells3 : Tryz.prog.cellsOf 3 = 1 := by kernel_rfl
set_option maxRecDepth 1000000 in
theorem peer_fields {H : Type} {enc : TypeId × Value → H} {P : Program} {W : World} {base : Nat} {sp : Nat → Bool} {held : Bool} {fuel : Nat} {t : TypeId} {f0 f1 f2 f3 : Field} {cs : List Value} {x : DataW H × List MemPlace} (ht : P.underlying t = some (.struct #[f0, f1, f2, f3])) (h : DataW.trod enc P W base sp held fuel t cs = some x) :
    ∃ y0 y1 y2 y3 n, cs.length = P.cellsOf t ∧ DataW.trod enc P W base sp held n f0.type ((cs.drop f0.offset).take (P.cellsOf f0.type)) = some y0 ∧ DataW.trod enc P W base sp held n f1.type ((cs.drop f1.offset).take (P.cellsOf f1.type)) = some y1 ∧ DataW.trod enc P W base sp held n f2.type ((cs.drop f2.offset).take (P.cellsOf f2.type)) = some y2 ∧ DataW.trod enc P W base sp held n f3.type ((cs.drop f3.offset).take (P.cellsOf f3.type)) = some y3 := by
  obtain ⟨xs, n, _, _, hl, hlen, hf⟩ := DataW.trod_struct ht h
  match xs, hlen with
  | [y0, y1, y2, y3], _ => exact ⟨y0, y1, y2, y3, n, hl, by simpa using hf 0 f0 rfl, by simpa using hf 1 f1 rfl, by simpa using hf 2 f2 rfl, by simpa using hf 3 f3 rfl⟩

set_option maxRecDepth 1000000 in
theorem open_peerCells {H : Type} {enc : TypeId × Value → H} {W : World} {base : Nat} {sp : Nat → Bool} {held : Bool} {fuel : Nat} {cs : List Value} {x : DataW H × List MemPlace} (h : DataW.trod enc Tryz.prog W base sp held fuel 197 cs = some x) :
    ∃ e : PeerD, cs = peerEnc e ∧ e.Fits := by
  obtain ⟨y0, y1, y2, y3, n, hl, h0, h1, h2, h3⟩ := peer_fields Tryz.underlying197 h
  rw [peer_cellsE] at hl
  match cs, hl with
  | [c0, c1, c2, c3], _ =>
    simp only [peer_cells3] at h0 h1 h2 h3
    obtain ⟨k0, e0, _, s0⟩ := DataW.trod_int Tryz.underlying3 h0
    obtain ⟨k1, e1, _, s1⟩ := DataW.trod_int Tryz.underlying3 h1
    obtain ⟨k2, e2, _, s2⟩ := DataW.trod_int Tryz.underlying3 h2
    obtain ⟨k3, e3, _, s3⟩ := DataW.trod_int Tryz.underlying3 h3
    simp at e0 e1 e2 e3
    subst e0 e1 e2 e3
    exact ⟨⟨k0, k1, k2, k3⟩, rfl, bounds_i64 s0, bounds_i64 s1, bounds_i64 s2, bounds_i64 s3⟩

set_option maxRecDepth 1000000 in
/-- one of them as a parameter -/
theorem open_peer {H : Type} {enc : TypeId × Value → H} {W : World} {r : Reach} {b0 base : Nat} {sp : Nat → Bool} {held : Bool} {v : Value} {d : DataW H} {ps : List MemPlace} (hval : Value.okWide Tryz.prog W r b0 197 v) (hd : DataW.Trod enc Tryz.prog W base sp held 197 v d ps) :
    ∃ e : PeerD, v = .agg #[.int .i64 e.pid, .int .i64 e.next, .int .i64 e.upto, .int .i64 e.sent] ∧ e.Fits := by
  obtain ⟨cs, rfl, _⟩ := okWide_struct Tryz.underlying197 hval
  obtain ⟨fuel, hf⟩ := hd
  obtain ⟨a, e, r⟩ := open_peerCells hf
  refine ⟨a, ?_, r⟩
  obtain ⟨c⟩ := cs
  have e' : c = peerEnc a := by simpa [Value.cells] using e
  rw [e']
  rfl
end Go.Proofs.YtihgkocfgjihhaaGreatDoor

namespace Go.Proofs.YtihgkocfgjihhaaGreatDoor
open Go.ChangeShapes Go.WideShapes Go.RowKit Go.Deep

set_option maxRecDepth 1000000 in
theorem peer_cellsS : Tryz.prog.cellsOf 37 = 1 := by kernel_rfl
set_option maxRecDepth 1000000 in
theorem open_peerRow {H : Type} {enc : TypeId × Value → H} {W : World} {base : Nat} {sp : Nat → Bool} {held : Bool} {fuel : Nat} {cs : List Value} {x : DataW H × List MemPlace} (h : DataW.trod enc Tryz.prog W base sp held fuel 37 cs = some x) :
    ∃ ao l cap, cs = [.slice ao l.length cap] ∧ l.length ≤ cap ∧ cap ≤ maxLen ∧ PeersAt W ao l ∧ PeersFit l := by
  rcases open_slice Tryz.underlying37 h with ⟨rfl, _⟩ | ⟨a, len, cap, m, n, D, Pl, rfl, hb, hl, hm, hmm, _, hx⟩
  · exact ⟨none, [], 0, rfl, Nat.le_refl _, by unfold maxLen; omega, fun h => absurd rfl h, fun j hj => by simp at hj⟩
  · have hlm : len ≤ m := by rw [hmm]; split <;> omega
    have each : ∀ i, i < len → ∃ f : PeerD, (W.cells? base (a.add (i * 4)) 4 = some (peerEnc f)) ∧ f.Fits := fun i hi => by
      obtain ⟨cs', e1, e2⟩ := hx i (by omega)
      rw [peer_cellsE] at e1
      obtain ⟨f, rfl, r⟩ := open_peerCells e2
      exact ⟨f, e1, r⟩
    have hin : Inhabited PeerD := ⟨⟨0, 0, 0, 0⟩⟩
    obtain ⟨F, hF⟩ := choose_lt each
    have hll : ((List.range len).map F).length = len := by simp
    refine ⟨some a, (List.range len).map F, cap, by rw [hll], by rw [hll]; exact hl, hm, ?_, ?_⟩
    · intro hne
      have hp : 0 < len := by
        rcases Nat.eq_zero_or_pos len with e | e
        · subst e; exact absurd rfl hne
        · exact e
      obtain ⟨b, off, spot⟩ := a
      have hc : ∀ i c, i < len → c < 4 → W.cell? ((Addr.add ⟨b, off, spot⟩ (i * 4)).add c) = (peerEnc (F i))[c]? := fun i c hi hc => (World.cells?_some (hF i hi).1).2.2 c hc
      have hspot : spot = none := by
        have := hc 0 0 hp (by omega)
        simpa [Addr.add] using World.cell?_spot this
      subst hspot
      refine ⟨b, off, rfl, fun j hj => ?_⟩
      simp only [List.getElem_map, List.getElem_range]
      have hj' : j < len := by omega
      have h0 := hc j 0 hj' (by omega)
      have h1 := hc j 1 hj' (by omega)
      have h2 := hc j 2 hj' (by omega)
      have h3 := hc j 3 hj' (by omega)
      rw [add_plain, add_plain] at h0 h1 h2 h3
      exact ⟨h0, h1, h2, h3⟩
    · intro j hj
      simp only [List.getElem_map, List.getElem_range]
      exact (hF j (by omega)).2

set_option maxRecDepth 1000000 in
/-- a row as a parameter -/
theorem open_peerS {H : Type} {enc : TypeId × Value → H} {W : World} {r : Reach} {b0 base : Nat} {sp : Nat → Bool} {held : Bool} {v : Value} {d : DataW H} {ps : List MemPlace} (hval : Value.okWide Tryz.prog W r b0 37 v) (hd : DataW.Trod enc Tryz.prog W base sp held 37 v d ps) :
    ∃ ao l cap, v = .slice ao l.length cap ∧ l.length ≤ cap ∧ cap ≤ maxLen ∧ PeersAt W ao l ∧ PeersFit l := by
  obtain ⟨a, l, c, rfl⟩ := okWide_slice Tryz.underlying37 hval
  obtain ⟨fuel, hf⟩ := hd
  obtain ⟨ao, l, cap, e, r⟩ := open_peerRow hf
  simp [Value.cells] at e
  obtain ⟨rfl, rfl, rfl⟩ := e
  exact ⟨_, _, _, rfl, r⟩
end Go.Proofs.YtihgkocfgjihhaaGreatDoor

namespace Go.Proofs.YtihgkocfgjihhaaGreatDoor
open Go.RowKit

/-- a file as data -/
structure FileD where
  name : ByteArray
  text : ByteArray
  kept : Int

def FileD.value (f : FileD) : Value := .agg #[.string f.name, .string f.text, .int .i64 f.kept]

/-- the cells of files -/
def fileEnc (f : FileD) : List Value := [.string f.name, .string f.text, .int .i64 f.kept]
def fileCells (l : List FileD) : List Value := l.flatMap fileEnc
theorem fileCells_length (l : List FileD) : (fileCells l).length = l.length * 3 := row_length fileEnc 3 (fun _ => rfl) l
theorem fileCells_take (l : List FileD) (k : Nat) (h : k < l.length) : fileCells (l.take (k + 1)) = fileCells (l.take k) ++ fileEnc l[k] := by
  rw [List.take_succ_eq_append_getElem h, fileCells, fileCells, List.flatMap_append]
  simp
/-- how many letters and files -/
def fileBulk : List FileD → Int
  | [] => 0
  | f :: l => f.name.size + f.text.size + fileBulk l
theorem fileBulk_nonneg (l : List FileD) : 0 ≤ fileBulk l := by
  induction l with
  | nil => exact Int.le_refl 0
  | cons f l ih => simp only [fileBulk]; omega
theorem fileBulk_take (l : List FileD) (k : Nat) (h : k < l.length) : fileBulk (l.take (k + 1)) = fileBulk (l.take k) + l[k].name.size + l[k].text.size := by
  induction l generalizing k with
  | nil => simp at h
  | cons f l ih =>
    cases k with
    | zero => simp [fileBulk]
    | succ k =>
      have := ih k (by simpa using h)
      simp only [List.take_succ_cons, fileBulk, List.getElem_cons_succ] at this ⊢
      omega

theorem fileBulk_le (l : List FileD) (k : Nat) : fileBulk (l.take k) ≤ fileBulk l := by
  induction l generalizing k with
  | nil => simp [fileBulk]
  | cons f l ih =>
    cases k with
    | zero => have := fileBulk_nonneg (f :: l); simpa [fileBulk] using this
    | succ k => have := ih k; simp only [List.take_succ_cons, fileBulk]; omega

theorem file_le_bulk {l : List FileD} {f : FileD} (h : f ∈ l) : (f.name.size : Int) + f.text.size ≤ fileBulk l := by
  induction l with
  | nil => cases h
  | cons g l ih =>
    simp only [fileBulk]
    have := fileBulk_nonneg l
    rcases List.mem_cons.1 h with e | e
    · subst e; omega
    · have := ih e; omega
theorem filesSmall {l : List FileD} (h : 0 ≤ (1048576 : Int) - l.length - fileBulk l) : l.length ≤ 1048576 ∧ ∀ f ∈ l, f.name.size ≤ 1048576 ∧ f.text.size ≤ 1048576 := by
  have := fileBulk_nonneg l
  exact ⟨by omega, fun f hf => by have := file_le_bulk hf; omega⟩

/-- files lie at an address, one behind the other -/
def FilesAt (w : World) (ao : Option Addr) (l : List FileD) : Prop :=
  l ≠ [] → ∃ b off, ao = some ⟨b, off, none⟩ ∧ ∀ j (hj : j < l.length), w.cell? ⟨b, off + j * 3, none⟩ = some (.string l[j].name) ∧ w.cell? ⟨b, off + j * 3 + 1, none⟩ = some (.string l[j].text) ∧ w.cell? ⟨b, off + j * 3 + 2, none⟩ = some (.int .i64 l[j].kept)
theorem filesAt_of {w : World} {g : Nat} {t : TypeId} {l : List FileD} {r : List Value} (h : BlockIs w g t (fileCells l ++ r)) : FilesAt w (some ⟨g, 0, none⟩) l := by
  intro _
  refine ⟨g, 0, rfl, fun j hj => ?_⟩
  rw [Nat.zero_add]
  exact ⟨h.cell (row_at fileEnc 3 (fun _ => rfl) l r j 0 hj (by omega)), h.cell (row_at fileEnc 3 (fun _ => rfl) l r j 1 hj (by omega)), h.cell (row_at fileEnc 3 (fun _ => rfl) l r j 2 hj (by omega))⟩
/-- texts that fit -/
def FilesFit (l : List FileD) : Prop := ∀ j (hj : j < l.length), l[j].name.size ≤ 9223372036854775807 ∧ l[j].text.size ≤ 9223372036854775807
theorem FilesAt.on {w w' : World} {ao : Option Addr} {l : List FileD} (h : FilesAt w ao l) (hb : Below w.heap.size w w') : FilesAt w' ao l := by
  intro h0
  obtain ⟨b, off, e1, e2⟩ := h h0
  refine ⟨b, off, e1, fun j hj => ?_⟩
  obtain ⟨x, y, z⟩ := e2 j hj
  exact ⟨(hb.cell (p := ⟨b, off + j * 3, none⟩) (World.block_lt_of_cell? w _ x)).trans x, (hb.cell (p := ⟨b, off + j * 3 + 1, none⟩) (World.block_lt_of_cell? w _ y)).trans y, (hb.cell (p := ⟨b, off + j * 3 + 2, none⟩) (World.block_lt_of_cell? w _ z)).trans z⟩
end Go.Proofs.YtihgkocfgjihhaaGreatDoor

namespace Go.Proofs.YtihgkocfgjihhaaGreatDoor

/-- a journal: a number, a term, a vote, a log's start and its term, its entries -/
abbrev jourV (n tm vt s t : Int) (v : Value) : Value := .agg #[.int .i64 n, .int .i64 tm, .int .i64 vt, .int .i64 s, .int .i64 t, v]
/-- a right journal -/
def jourOk (n tm vt s t : Int) (l : List EntD) : Bool := within n 0 999 && (within tm 0 100000 && within vt 0 4) && logOk s t l
theorem jourOk_iff {n tm vt s t : Int} {l : List EntD} : jourOk n tm vt s t l = true ↔ (0 ≤ n ∧ n ≤ 999) ∧ ((0 ≤ tm ∧ tm ≤ 100000) ∧ (0 ≤ vt ∧ vt ≤ 4)) ∧ logOk s t l = true := by
  simp only [jourOk, Bool.and_eq_true, within_iff, and_assoc]
end Go.Proofs.YtihgkocfgjihhaaGreatDoor

namespace Go.Proofs.YtihgkocfgjihhaaGreatDoor
open Go.RowKit

theorem toEnt_info : (Tryz.prog.info? 160).map (fun i => (i.zero, i.size, i.bytes)) = some (some (.agg #[.int .i64 0, .int .i64 0, .string ByteArray.empty]), 3, 32) := by kernel_rfl
theorem made_ents (n : Nat) : (madeCells (Value.agg #[.int .i64 0, .int .i64 0, .string ByteArray.empty]).cells (n * 3)).toList.length = n * 3 := by
  simp [madeCells]

end Go.Proofs.YtihgkocfgjihhaaGreatDoor

namespace Go.Proofs.YtihgkocfgjihhaaGreatDoor
open Go.RowKit

structure SessionD where
  token : Int
  last : Int
  reply : ByteArray
/-- numbers that are numbers, texts that are texts -/
def SessionD.Fits (e : SessionD) : Prop := (-9223372036854775808 ≤ e.token ∧ e.token ≤ 9223372036854775807) ∧ (-9223372036854775808 ≤ e.last ∧ e.last ≤ 9223372036854775807) ∧ e.reply.size ≤ maxLen
def sessionEnc (e : SessionD) : List Value := [.int .i64 e.token, .int .i64 e.last, .string e.reply]
/-- the cells of a row -/
def sessionCells (l : List SessionD) : List Value := l.flatMap sessionEnc
theorem sessionCells_length (l : List SessionD) : (sessionCells l).length = l.length * 3 := row_length sessionEnc 3 (fun _ => rfl) l
theorem sessionCells_take (l : List SessionD) (k : Nat) (h : k < l.length) : sessionCells (l.take (k + 1)) = sessionCells (l.take k) ++ sessionEnc l[k] := by
  rw [List.take_succ_eq_append_getElem h, sessionCells, sessionCells, List.flatMap_append]
  simp
/-- how many letters -/
def sessionOne (e : SessionD) : Int := (e.reply.size : Int)
theorem sessionOne_nonneg (e : SessionD) : 0 ≤ sessionOne e := by unfold sessionOne; omega
def sessionBulk : List SessionD → Int
  | [] => 0
  | f :: l => sessionOne f + sessionBulk l
theorem sessionBulk_nonneg (l : List SessionD) : 0 ≤ sessionBulk l := by
  induction l with
  | nil => exact Int.le_refl 0
  | cons f l ih => have := sessionOne_nonneg f; simp only [sessionBulk]; omega
theorem sessionBulk_take (l : List SessionD) (k : Nat) (h : k < l.length) : sessionBulk (l.take (k + 1)) = sessionBulk (l.take k) + sessionOne l[k] := by
  induction l generalizing k with
  | nil => simp at h
  | cons f l ih =>
    cases k with
    | zero => simp [sessionBulk]
    | succ k =>
      have := ih k (by simpa using h)
      simp only [List.take_succ_cons, sessionBulk, List.getElem_cons_succ] at this ⊢
      omega
theorem sessionBulk_le (l : List SessionD) (k : Nat) : sessionBulk (l.take k) ≤ sessionBulk l := by
  induction l generalizing k with
  | nil => simp [sessionBulk]
  | cons f l ih =>
    cases k with
    | zero => have := sessionBulk_nonneg (f :: l); simpa [sessionBulk] using this
    | succ k => have := ih k; simp only [List.take_succ_cons, sessionBulk]; omega
theorem session_le_bulk {l : List SessionD} {f : SessionD} (h : f ∈ l) : sessionOne f ≤ sessionBulk l := by
  induction l with
  | nil => cases h
  | cons g l ih =>
    simp only [sessionBulk]
    have := sessionBulk_nonneg l
    have := sessionOne_nonneg g
    rcases List.mem_cons.1 h with e | e
    · subst e; omega
    · have := ih e; omega
/-- few and short -/
def SessionsSmall (l : List SessionD) : Prop := l.length ≤ 1048576 ∧ ∀ f ∈ l, sessionOne f ≤ 1048576
theorem sessionsSmall {l : List SessionD} (h : 0 ≤ (1048576 : Int) - l.length - sessionBulk l) : SessionsSmall l := by
  have := sessionBulk_nonneg l
  exact ⟨by omega, fun f hf => by have := session_le_bulk hf; omega⟩
/-- they lie at an address, one behind the other -/
def SessionsAt (w : World) (ao : Option Addr) (l : List SessionD) : Prop :=
  l ≠ [] → ∃ b off, ao = some ⟨b, off, none⟩ ∧ ∀ j (hj : j < l.length), w.cell? ⟨b, off + j * 3, none⟩ = some (.int .i64 l[j].token) ∧ w.cell? ⟨b, off + j * 3 + 1, none⟩ = some (.int .i64 l[j].last) ∧ w.cell? ⟨b, off + j * 3 + 2, none⟩ = some (.string l[j].reply)
theorem sessionsAt_of {w : World} {g : Nat} {t : TypeId} {l : List SessionD} {r : List Value} (h : BlockIs w g t (sessionCells l ++ r)) : SessionsAt w (some ⟨g, 0, none⟩) l := by
  intro _
  refine ⟨g, 0, rfl, fun j hj => ?_⟩
  rw [Nat.zero_add]
  exact ⟨h.cell (row_at sessionEnc 3 (fun _ => rfl) l r j 0 hj (by omega)), h.cell (row_at sessionEnc 3 (fun _ => rfl) l r j 1 hj (by omega)), h.cell (row_at sessionEnc 3 (fun _ => rfl) l r j 2 hj (by omega))⟩
def SessionsFit (l : List SessionD) : Prop := ∀ j (hj : j < l.length), l[j].Fits
theorem SessionsAt.on {w w' : World} {ao : Option Addr} {l : List SessionD} (h : SessionsAt w ao l) (hb : Below w.heap.size w w') : SessionsAt w' ao l := by
  intro h0
  obtain ⟨b, off, e1, e2⟩ := h h0
  refine ⟨b, off, e1, fun j hj => ?_⟩
  obtain ⟨x0, x1, x2⟩ := e2 j hj
  exact ⟨(hb.cell (p := ⟨b, off + j * 3, none⟩) (World.block_lt_of_cell? w _ x0)).trans x0, (hb.cell (p := ⟨b, off + j * 3 + 1, none⟩) (World.block_lt_of_cell? w _ x1)).trans x1, (hb.cell (p := ⟨b, off + j * 3 + 2, none⟩) (World.block_lt_of_cell? w _ x2)).trans x2⟩
/-- cells of a list, written -/
theorem session_sets (p : List Value) (a0 a1 a2 o0 o1 o2 : Value) (r : List Value) : (((p ++ o0 :: o1 :: o2 :: r).set (p.length) a0).set (p.length + 1) a1).set (p.length + 2) a2 = p ++ a0 :: a1 :: a2 :: r := by
  rw [List.set_append_right _ _ (Nat.le_refl _), List.set_append_right _ _ (by omega), List.set_append_right _ _ (by omega)]
  simp
theorem session_set_other {cs : List Value} {i j : Nat} {v u : Value} (h : cs[j]? = some u) (hij : i ≠ j) : (cs.set i v)[j]? = some u := by
  rw [List.getElem?_set_ne hij]; exact h
end Go.Proofs.YtihgkocfgjihhaaGreatDoor

namespace Go.Proofs.YtihgkocfgjihhaaGreatDoor
open Go.ChangeShapes Go.WideShapes Go.RowKit Go.Deep

set_option maxRecDepth 1000000 in
theorem session_cellsE : Tryz.prog.cellsOf 180 = 3 := by kernel_rfl
set_option maxRecDepth 1000000 in
theorem session_cells9 : Tryz.prog.cellsOf 9 = 1 := by kernel_rfl
set_option maxRecDepth 1000000 in
theorem session_cells3 : Tryz.prog.cellsOf 3 = 1 := by kernel_rfl
set_option maxRecDepth 1000000 in
theorem session_fields {H : Type} {enc : TypeId × Value → H} {P : Program} {W : World} {base : Nat} {sp : Nat → Bool} {held : Bool} {fuel : Nat} {t : TypeId} {f0 f1 f2 : Field} {cs : List Value} {x : DataW H × List MemPlace} (ht : P.underlying t = some (.struct #[f0, f1, f2])) (h : DataW.trod enc P W base sp held fuel t cs = some x) :
    ∃ y0 y1 y2 n, cs.length = P.cellsOf t ∧ DataW.trod enc P W base sp held n f0.type ((cs.drop f0.offset).take (P.cellsOf f0.type)) = some y0 ∧ DataW.trod enc P W base sp held n f1.type ((cs.drop f1.offset).take (P.cellsOf f1.type)) = some y1 ∧ DataW.trod enc P W base sp held n f2.type ((cs.drop f2.offset).take (P.cellsOf f2.type)) = some y2 := by
  obtain ⟨xs, n, _, _, hl, hlen, hf⟩ := DataW.trod_struct ht h
  match xs, hlen with
  | [y0, y1, y2], _ => exact ⟨y0, y1, y2, n, hl, by simpa using hf 0 f0 rfl, by simpa using hf 1 f1 rfl, by simpa using hf 2 f2 rfl⟩

set_option maxRecDepth 1000000 in
theorem open_sessionCells {H : Type} {enc : TypeId × Value → H} {W : World} {base : Nat} {sp : Nat → Bool} {held : Bool} {fuel : Nat} {cs : List Value} {x : DataW H × List MemPlace} (h : DataW.trod enc Tryz.prog W base sp held fuel 180 cs = some x) :
    ∃ e : SessionD, cs = sessionEnc e ∧ e.Fits := by
  obtain ⟨y0, y1, y2, n, hl, h0, h1, h2⟩ := session_fields Tryz.underlying180 h
  rw [session_cellsE] at hl
  match cs, hl with
  | [c0, c1, c2], _ =>
    simp only [session_cells3, session_cells9] at h0 h1 h2
    obtain ⟨k0, e0, _, s0⟩ := DataW.trod_int Tryz.underlying3 h0
    obtain ⟨k1, e1, _, s1⟩ := DataW.trod_int Tryz.underlying3 h1
    obtain ⟨k2, e2, _, s2⟩ := DataW.trod_string Tryz.underlying9 h2
    simp at e0 e1 e2
    subst e0 e1 e2
    exact ⟨⟨k0, k1, k2⟩, rfl, bounds_i64 s0, bounds_i64 s1, s2⟩

set_option maxRecDepth 1000000 in
/-- one of them as a parameter -/
theorem open_session {H : Type} {enc : TypeId × Value → H} {W : World} {r : Reach} {b0 base : Nat} {sp : Nat → Bool} {held : Bool} {v : Value} {d : DataW H} {ps : List MemPlace} (hval : Value.okWide Tryz.prog W r b0 180 v) (hd : DataW.Trod enc Tryz.prog W base sp held 180 v d ps) :
    ∃ e : SessionD, v = .agg #[.int .i64 e.token, .int .i64 e.last, .string e.reply] ∧ e.Fits := by
  obtain ⟨cs, rfl, _⟩ := okWide_struct Tryz.underlying180 hval
  obtain ⟨fuel, hf⟩ := hd
  obtain ⟨a, e, r⟩ := open_sessionCells hf
  refine ⟨a, ?_, r⟩
  obtain ⟨c⟩ := cs
  have e' : c = sessionEnc a := by simpa [Value.cells] using e
  rw [e']
  rfl
end Go.Proofs.YtihgkocfgjihhaaGreatDoor

namespace Go.Proofs.YtihgkocfgjihhaaGreatDoor
open Go.ChangeShapes Go.WideShapes Go.RowKit Go.Deep

set_option maxRecDepth 1000000 in
theorem session_cellsS : Tryz.prog.cellsOf 45 = 1 := by kernel_rfl
set_option maxRecDepth 1000000 in
theorem open_sessionRow {H : Type} {enc : TypeId × Value → H} {W : World} {base : Nat} {sp : Nat → Bool} {held : Bool} {fuel : Nat} {cs : List Value} {x : DataW H × List MemPlace} (h : DataW.trod enc Tryz.prog W base sp held fuel 45 cs = some x) :
    ∃ ao l cap, cs = [.slice ao l.length cap] ∧ l.length ≤ cap ∧ cap ≤ maxLen ∧ SessionsAt W ao l ∧ SessionsFit l := by
  rcases open_slice Tryz.underlying45 h with ⟨rfl, _⟩ | ⟨a, len, cap, m, n, D, Pl, rfl, hb, hl, hm, hmm, _, hx⟩
  · exact ⟨none, [], 0, rfl, Nat.le_refl _, by unfold maxLen; omega, fun h => absurd rfl h, fun j hj => by simp at hj⟩
  · have hlm : len ≤ m := by rw [hmm]; split <;> omega
    have each : ∀ i, i < len → ∃ f : SessionD, (W.cells? base (a.add (i * 3)) 3 = some (sessionEnc f)) ∧ f.Fits := fun i hi => by
      obtain ⟨cs', e1, e2⟩ := hx i (by omega)
      rw [session_cellsE] at e1
      obtain ⟨f, rfl, r⟩ := open_sessionCells e2
      exact ⟨f, e1, r⟩
    have hin : Inhabited SessionD := ⟨⟨0, 0, ByteArray.empty⟩⟩
    obtain ⟨F, hF⟩ := choose_lt each
    have hll : ((List.range len).map F).length = len := by simp
    refine ⟨some a, (List.range len).map F, cap, by rw [hll], by rw [hll]; exact hl, hm, ?_, ?_⟩
    · intro hne
      have hp : 0 < len := by
        rcases Nat.eq_zero_or_pos len with e | e
        · subst e; exact absurd rfl hne
        · exact e
      obtain ⟨b, off, spot⟩ := a
      have hc : ∀ i c, i < len → c < 3 → W.cell? ((Addr.add ⟨b, off, spot⟩ (i * 3)).add c) = (sessionEnc (F i))[c]? := fun i c hi hc => (World.cells?_some (hF i hi).1).2.2 c hc
      have hspot : spot = none := by
        have := hc 0 0 hp (by omega)
        simpa [Addr.add] using World.cell?_spot this
      subst hspot
      refine ⟨b, off, rfl, fun j hj => ?_⟩
      simp only [List.getElem_map, List.getElem_range]
      have hj' : j < len := by omega
      have h0 := hc j 0 hj' (by omega)
      have h1 := hc j 1 hj' (by omega)
      have h2 := hc j 2 hj' (by omega)
      rw [add_plain, add_plain] at h0 h1 h2
      exact ⟨h0, h1, h2⟩
    · intro j hj
      simp only [List.getElem_map, List.getElem_range]
      exact (hF j (by omega)).2

set_option maxRecDepth 1000000 in
/-- a row as a parameter -/
theorem open_sessionS {H : Type} {enc : TypeId × Value → H} {W : World} {r : Reach} {b0 base : Nat} {sp : Nat → Bool} {held : Bool} {v : Value} {d : DataW H} {ps : List MemPlace} (hval : Value.okWide Tryz.prog W r b0 45 v) (hd : DataW.Trod enc Tryz.prog W base sp held 45 v d ps) :
    ∃ ao l cap, v = .slice ao l.length cap ∧ l.length ≤ cap ∧ cap ≤ maxLen ∧ SessionsAt W ao l ∧ SessionsFit l := by
  obtain ⟨a, l, c, rfl⟩ := okWide_slice Tryz.underlying45 hval
  obtain ⟨fuel, hf⟩ := hd
  obtain ⟨ao, l, cap, e, r⟩ := open_sessionRow hf
  simp [Value.cells] at e
  obtain ⟨rfl, rfl, rfl⟩ := e
  exact ⟨_, _, _, rfl, r⟩
end Go.Proofs.YtihgkocfgjihhaaGreatDoor

namespace Go.Proofs.YtihgkocfgjihhaaGreatDoor
open Go.RowKit

structure ItemD where
  key : ByteArray
  val : ByteArray
  ver : Int
/-- numbers that are numbers, texts that are texts -/
def ItemD.Fits (e : ItemD) : Prop := e.key.size ≤ maxLen ∧ e.val.size ≤ maxLen ∧ (-9223372036854775808 ≤ e.ver ∧ e.ver ≤ 9223372036854775807)
def itemEnc (e : ItemD) : List Value := [.string e.key, .string e.val, .int .i64 e.ver]
/-- the cells of a row -/
def itemCells (l : List ItemD) : List Value := l.flatMap itemEnc
theorem itemCells_length (l : List ItemD) : (itemCells l).length = l.length * 3 := row_length itemEnc 3 (fun _ => rfl) l
theorem itemCells_take (l : List ItemD) (k : Nat) (h : k < l.length) : itemCells (l.take (k + 1)) = itemCells (l.take k) ++ itemEnc l[k] := by
  rw [List.take_succ_eq_append_getElem h, itemCells, itemCells, List.flatMap_append]
  simp
/-- how many letters -/
def itemOne (e : ItemD) : Int := (e.key.size : Int) + (e.val.size : Int)
theorem itemOne_nonneg (e : ItemD) : 0 ≤ itemOne e := by unfold itemOne; omega
def itemBulk : List ItemD → Int
  | [] => 0
  | f :: l => itemOne f + itemBulk l
theorem itemBulk_nonneg (l : List ItemD) : 0 ≤ itemBulk l := by
  induction l with
  | nil => exact Int.le_refl 0
  | cons f l ih => have := itemOne_nonneg f; simp only [itemBulk]; omega
theorem itemBulk_take (l : List ItemD) (k : Nat) (h : k < l.length) : itemBulk (l.take (k + 1)) = itemBulk (l.take k) + itemOne l[k] := by
  induction l generalizing k with
  | nil => simp at h
  | cons f l ih =>
    cases k with
    | zero => simp [itemBulk]
    | succ k =>
      have := ih k (by simpa using h)
      simp only [List.take_succ_cons, itemBulk, List.getElem_cons_succ] at this ⊢
      omega
theorem itemBulk_le (l : List ItemD) (k : Nat) : itemBulk (l.take k) ≤ itemBulk l := by
  induction l generalizing k with
  | nil => simp [itemBulk]
  | cons f l ih =>
    cases k with
    | zero => have := itemBulk_nonneg (f :: l); simpa [itemBulk] using this
    | succ k => have := ih k; simp only [List.take_succ_cons, itemBulk]; omega
theorem item_le_bulk {l : List ItemD} {f : ItemD} (h : f ∈ l) : itemOne f ≤ itemBulk l := by
  induction l with
  | nil => cases h
  | cons g l ih =>
    simp only [itemBulk]
    have := itemBulk_nonneg l
    have := itemOne_nonneg g
    rcases List.mem_cons.1 h with e | e
    · subst e; omega
    · have := ih e; omega
/-- few and short -/
def ItemsSmall (l : List ItemD) : Prop := l.length ≤ 1048576 ∧ ∀ f ∈ l, itemOne f ≤ 1048576
theorem itemsSmall {l : List ItemD} (h : 0 ≤ (1048576 : Int) - l.length - itemBulk l) : ItemsSmall l := by
  have := itemBulk_nonneg l
  exact ⟨by omega, fun f hf => by have := item_le_bulk hf; omega⟩
/-- they lie at an address, one behind the other -/
def ItemsAt (w : World) (ao : Option Addr) (l : List ItemD) : Prop :=
  l ≠ [] → ∃ b off, ao = some ⟨b, off, none⟩ ∧ ∀ j (hj : j < l.length), w.cell? ⟨b, off + j * 3, none⟩ = some (.string l[j].key) ∧ w.cell? ⟨b, off + j * 3 + 1, none⟩ = some (.string l[j].val) ∧ w.cell? ⟨b, off + j * 3 + 2, none⟩ = some (.int .i64 l[j].ver)
theorem itemsAt_of {w : World} {g : Nat} {t : TypeId} {l : List ItemD} {r : List Value} (h : BlockIs w g t (itemCells l ++ r)) : ItemsAt w (some ⟨g, 0, none⟩) l := by
  intro _
  refine ⟨g, 0, rfl, fun j hj => ?_⟩
  rw [Nat.zero_add]
  exact ⟨h.cell (row_at itemEnc 3 (fun _ => rfl) l r j 0 hj (by omega)), h.cell (row_at itemEnc 3 (fun _ => rfl) l r j 1 hj (by omega)), h.cell (row_at itemEnc 3 (fun _ => rfl) l r j 2 hj (by omega))⟩
def ItemsFit (l : List ItemD) : Prop := ∀ j (hj : j < l.length), l[j].Fits
theorem ItemsAt.on {w w' : World} {ao : Option Addr} {l : List ItemD} (h : ItemsAt w ao l) (hb : Below w.heap.size w w') : ItemsAt w' ao l := by
  intro h0
  obtain ⟨b, off, e1, e2⟩ := h h0
  refine ⟨b, off, e1, fun j hj => ?_⟩
  obtain ⟨x0, x1, x2⟩ := e2 j hj
  exact ⟨(hb.cell (p := ⟨b, off + j * 3, none⟩) (World.block_lt_of_cell? w _ x0)).trans x0, (hb.cell (p := ⟨b, off + j * 3 + 1, none⟩) (World.block_lt_of_cell? w _ x1)).trans x1, (hb.cell (p := ⟨b, off + j * 3 + 2, none⟩) (World.block_lt_of_cell? w _ x2)).trans x2⟩
/-- cells of a list, written -/
theorem item_sets (p : List Value) (a0 a1 a2 o0 o1 o2 : Value) (r : List Value) : (((p ++ o0 :: o1 :: o2 :: r).set (p.length) a0).set (p.length + 1) a1).set (p.length + 2) a2 = p ++ a0 :: a1 :: a2 :: r := by
  rw [List.set_append_right _ _ (Nat.le_refl _), List.set_append_right _ _ (by omega), List.set_append_right _ _ (by omega)]
  simp
theorem item_set_other {cs : List Value} {i j : Nat} {v u : Value} (h : cs[j]? = some u) (hij : i ≠ j) : (cs.set i v)[j]? = some u := by
  rw [List.getElem?_set_ne hij]; exact h
end Go.Proofs.YtihgkocfgjihhaaGreatDoor

namespace Go.Proofs.YtihgkocfgjihhaaGreatDoor
open Go.ChangeShapes Go.WideShapes Go.RowKit Go.Deep

set_option maxRecDepth 1000000 in
theorem item_cellsE : Tryz.prog.cellsOf 182 = 3 := by kernel_rfl
set_option maxRecDepth 1000000 in
theorem item_cells9 : Tryz.prog.cellsOf 9 = 1 := by kernel_rfl
set_option maxRecDepth 1000000 in
theorem item_cells3 : Tryz.prog.cellsOf 3 = 1 := by kernel_rfl
set_option maxRecDepth 1000000 in
theorem item_fields {H : Type} {enc : TypeId × Value → H} {P : Program} {W : World} {base : Nat} {sp : Nat → Bool} {held : Bool} {fuel : Nat} {t : TypeId} {f0 f1 f2 : Field} {cs : List Value} {x : DataW H × List MemPlace} (ht : P.underlying t = some (.struct #[f0, f1, f2])) (h : DataW.trod enc P W base sp held fuel t cs = some x) :
    ∃ y0 y1 y2 n, cs.length = P.cellsOf t ∧ DataW.trod enc P W base sp held n f0.type ((cs.drop f0.offset).take (P.cellsOf f0.type)) = some y0 ∧ DataW.trod enc P W base sp held n f1.type ((cs.drop f1.offset).take (P.cellsOf f1.type)) = some y1 ∧ DataW.trod enc P W base sp held n f2.type ((cs.drop f2.offset).take (P.cellsOf f2.type)) = some y2 := by
  obtain ⟨xs, n, _, _, hl, hlen, hf⟩ := DataW.trod_struct ht h
  match xs, hlen with
  | [y0, y1, y2], _ => exact ⟨y0, y1, y2, n, hl, by simpa using hf 0 f0 rfl, by simpa using hf 1 f1 rfl, by simpa using hf 2 f2 rfl⟩

set_option maxRecDepth 1000000 in
theorem open_itemCells {H : Type} {enc : TypeId × Value → H} {W : World} {base : Nat} {sp : Nat → Bool} {held : Bool} {fuel : Nat} {cs : List Value} {x : DataW H × List MemPlace} (h : DataW.trod enc Tryz.prog W base sp held fuel 182 cs = some x) :
    ∃ e : ItemD, cs = itemEnc e ∧ e.Fits := by
  obtain ⟨y0, y1, y2, n, hl, h0, h1, h2⟩ := item_fields Tryz.underlying182 h
  rw [item_cellsE] at hl
  match cs, hl with
  | [c0, c1, c2], _ =>
    simp only [item_cells3, item_cells9] at h0 h1 h2
    obtain ⟨k0, e0, _, s0⟩ := DataW.trod_string Tryz.underlying9 h0
    obtain ⟨k1, e1, _, s1⟩ := DataW.trod_string Tryz.underlying9 h1
    obtain ⟨k2, e2, _, s2⟩ := DataW.trod_int Tryz.underlying3 h2
    simp at e0 e1 e2
    subst e0 e1 e2
    exact ⟨⟨k0, k1, k2⟩, rfl, s0, s1, bounds_i64 s2⟩

set_option maxRecDepth 1000000 in
/-- one of them as a parameter -/
theorem open_item {H : Type} {enc : TypeId × Value → H} {W : World} {r : Reach} {b0 base : Nat} {sp : Nat → Bool} {held : Bool} {v : Value} {d : DataW H} {ps : List MemPlace} (hval : Value.okWide Tryz.prog W r b0 182 v) (hd : DataW.Trod enc Tryz.prog W base sp held 182 v d ps) :
    ∃ e : ItemD, v = .agg #[.string e.key, .string e.val, .int .i64 e.ver] ∧ e.Fits := by
  obtain ⟨cs, rfl, _⟩ := okWide_struct Tryz.underlying182 hval
  obtain ⟨fuel, hf⟩ := hd
  obtain ⟨a, e, r⟩ := open_itemCells hf
  refine ⟨a, ?_, r⟩
  obtain ⟨c⟩ := cs
  have e' : c = itemEnc a := by simpa [Value.cells] using e
  rw [e']
  rfl
end Go.Proofs.YtihgkocfgjihhaaGreatDoor

namespace Go.Proofs.YtihgkocfgjihhaaGreatDoor
open Go.ChangeShapes Go.WideShapes Go.RowKit Go.Deep

set_option maxRecDepth 1000000 in
theorem item_cellsS : Tryz.prog.cellsOf 46 = 1 := by kernel_rfl
set_option maxRecDepth 1000000 in
theorem open_itemRow {H : Type} {enc : TypeId × Value → H} {W : World} {base : Nat} {sp : Nat → Bool} {held : Bool} {fuel : Nat} {cs : List Value} {x : DataW H × List MemPlace} (h : DataW.trod enc Tryz.prog W base sp held fuel 46 cs = some x) :
    ∃ ao l cap, cs = [.slice ao l.length cap] ∧ l.length ≤ cap ∧ cap ≤ maxLen ∧ ItemsAt W ao l ∧ ItemsFit l := by
  rcases open_slice Tryz.underlying46 h with ⟨rfl, _⟩ | ⟨a, len, cap, m, n, D, Pl, rfl, hb, hl, hm, hmm, _, hx⟩
  · exact ⟨none, [], 0, rfl, Nat.le_refl _, by unfold maxLen; omega, fun h => absurd rfl h, fun j hj => by simp at hj⟩
  · have hlm : len ≤ m := by rw [hmm]; split <;> omega
    have each : ∀ i, i < len → ∃ f : ItemD, (W.cells? base (a.add (i * 3)) 3 = some (itemEnc f)) ∧ f.Fits := fun i hi => by
      obtain ⟨cs', e1, e2⟩ := hx i (by omega)
      rw [item_cellsE] at e1
      obtain ⟨f, rfl, r⟩ := open_itemCells e2
      exact ⟨f, e1, r⟩
    have hin : Inhabited ItemD := ⟨⟨ByteArray.empty, ByteArray.empty, 0⟩⟩
    obtain ⟨F, hF⟩ := choose_lt each
    have hll : ((List.range len).map F).length = len := by simp
    refine ⟨some a, (List.range len).map F, cap, by rw [hll], by rw [hll]; exact hl, hm, ?_, ?_⟩
    · intro hne
      have hp : 0 < len := by
        rcases Nat.eq_zero_or_pos len with e | e
        · subst e; exact absurd rfl hne
        · exact e
      obtain ⟨b, off, spot⟩ := a
      have hc : ∀ i c, i < len → c < 3 → W.cell? ((Addr.add ⟨b, off, spot⟩ (i * 3)).add c) = (itemEnc (F i))[c]? := fun i c hi hc => (World.cells?_some (hF i hi).1).2.2 c hc
      have hspot : spot = none := by
        have := hc 0 0 hp (by omega)
        simpa [Addr.add] using World.cell?_spot this
      subst hspot
      refine ⟨b, off, rfl, fun j hj => ?_⟩
      simp only [List.getElem_map, List.getElem_range]
      have hj' : j < len := by omega
      have h0 := hc j 0 hj' (by omega)
      have h1 := hc j 1 hj' (by omega)
      have h2 := hc j 2 hj' (by omega)
      rw [add_plain, add_plain] at h0 h1 h2
      exact ⟨h0, h1, h2⟩
    · intro j hj
      simp only [List.getElem_map, List.getElem_range]
      exact (hF j (by omega)).2

set_option maxRecDepth 1000000 in
/-- a row as a parameter -/
theorem open_itemS {H : Type} {enc : TypeId × Value → H} {W : World} {r : Reach} {b0 base : Nat} {sp : Nat → Bool} {held : Bool} {v : Value} {d : DataW H} {ps : List MemPlace} (hval : Value.okWide Tryz.prog W r b0 46 v) (hd : DataW.Trod enc Tryz.prog W base sp held 46 v d ps) :
    ∃ ao l cap, v = .slice ao l.length cap ∧ l.length ≤ cap ∧ cap ≤ maxLen ∧ ItemsAt W ao l ∧ ItemsFit l := by
  obtain ⟨a, l, c, rfl⟩ := okWide_slice Tryz.underlying46 hval
  obtain ⟨fuel, hf⟩ := hd
  obtain ⟨ao, l, cap, e, r⟩ := open_itemRow hf
  simp [Value.cells] at e
  obtain ⟨rfl, rfl, rfl⟩ := e
  exact ⟨_, _, _, rfl, r⟩
end Go.Proofs.YtihgkocfgjihhaaGreatDoor

namespace Go.Proofs.YtihgkocfgjihhaaGreatDoor
open Go.ChangeShapes Go.WideShapes Go.RowKit Go.Deep

set_option maxRecDepth 1000000 in
theorem keep_cells1 : Tryz.prog.cellsOf 48 = 2 := by kernel_rfl
set_option maxRecDepth 1000000 in
theorem keep_fields {H : Type} {enc : TypeId × Value → H} {P : Program} {W : World} {base : Nat} {sp : Nat → Bool} {held : Bool} {fuel : Nat} {t : TypeId} {f0 f1 : Field} {cs : List Value} {x : DataW H × List MemPlace} (ht : P.underlying t = some (.struct #[f0, f1])) (h : DataW.trod enc P W base sp held fuel t cs = some x) :
    ∃ y0 y1 n, cs.length = P.cellsOf t ∧ DataW.trod enc P W base sp held n f0.type ((cs.drop f0.offset).take (P.cellsOf f0.type)) = some y0 ∧ DataW.trod enc P W base sp held n f1.type ((cs.drop f1.offset).take (P.cellsOf f1.type)) = some y1 := by
  obtain ⟨xs, n, _, _, hl, hlen, hf⟩ := DataW.trod_struct ht h
  match xs, hlen with
  | [y0, y1], _ => exact ⟨y0, y1, n, hl, by simpa using hf 0 f0 rfl, by simpa using hf 1 f1 rfl⟩

set_option maxRecDepth 1000000 in
/-- a keep as a parameter -/
theorem open_keep {H : Type} {enc : TypeId × Value → H} {W : World} {r : Reach} {b0 base : Nat} {sp : Nat → Bool} {held : Bool} {v : Value} {d : DataW H} {ps : List MemPlace} (hval : Value.okWide Tryz.prog W r b0 48 v) (hd : DataW.Trod enc Tryz.prog W base sp held 48 v d ps) :
    ∃ ao ls ac bo li bc, v = .agg #[.slice ao (List.length ls) ac, .slice bo (List.length li) bc] ∧ (ls.length ≤ ac ∧ ac ≤ maxLen ∧ SessionsAt W ao ls ∧ SessionsFit ls) ∧ (li.length ≤ bc ∧ bc ≤ maxLen ∧ ItemsAt W bo li ∧ ItemsFit li) := by
  obtain ⟨cs, rfl, _⟩ := okWide_struct Tryz.underlying48 hval
  obtain ⟨fuel, hf⟩ := hd
  obtain ⟨y0, y1, n, hl, h0, h1⟩ := keep_fields Tryz.underlying48 hf
  rw [keep_cells1] at hl
  obtain ⟨c⟩ := cs
  have hl' : c.length = 2 := by simpa [Value.cells] using hl
  match c, hl' with
  | [x0, x1], _ =>
    simp only [Value.cells, session_cellsS, item_cellsS] at h0 h1
    obtain ⟨ao, ls, ac, e0, r0⟩ := open_sessionRow h0
    obtain ⟨bo, li, bc, e1, r1⟩ := open_itemRow h1
    simp at e0 e1
    subst e0 e1
    exact ⟨ao, ls, ac, bo, li, bc, rfl, r0, r1⟩
end Go.Proofs.YtihgkocfgjihhaaGreatDoor

namespace Go.Proofs.YtihgkocfgjihhaaGreatDoor
open Go.RowKit

theorem toPeer_info : (Tryz.prog.info? 195).map (fun i => (i.zero, i.size, i.bytes)) = some (some (.agg #[.int .i64 0, .int .i64 0, .int .i64 0, .int .i64 0]), 4, 32) := by kernel_rfl
/-- an element's cells are written -/
theorem put_peer {w w2 : World} {g k : Nat} {t : TypeId} {l : List PeerD} {r : List Value} (hk : k < l.length) (h : BlockIs w g t (peerCells (l.take k) ++ r)) (hr : r.length = (l.length - k) * 4) {B : Nat} (hb : Below B w w2) (hg : g < B) :
    (∃ o0 o1 o2 o3, w2.cell? ⟨g, k * 4, none⟩ = some o0 ∧ w2.cell? ⟨g, k * 4 + 1, none⟩ = some o1 ∧ w2.cell? ⟨g, k * 4 + 2, none⟩ = some o2 ∧ w2.cell? ⟨g, k * 4 + 3, none⟩ = some o3) ∧ (∀ j, w2.frozen? ⟨g, j, none⟩ = false) ∧
    ∃ r', r'.length = (l.length - (k + 1)) * 4 ∧ BlockIs ((((w2.setCell ⟨g, k * 4, none⟩ (.int .i64 l[k].pid)).setCell ⟨g, k * 4 + 1, none⟩ (.int .i64 l[k].next)).setCell ⟨g, k * 4 + 2, none⟩ (.int .i64 l[k].upto)).setCell ⟨g, k * 4 + 3, none⟩ (.int .i64 l[k].sent)) g t (peerCells (l.take (k + 1)) ++ r') := by
  have h2 := h.on hb hg
  have hlen : (peerCells (l.take k)).length = k * 4 := by rw [peerCells_length, List.length_take]; omega
  match r, hr with
  | z0 :: z1 :: z2 :: z3 :: r', hr =>
    have hs := (((h2.set (k * 4) (.int .i64 l[k].pid)).set (k * 4 + 1) (.int .i64 l[k].next)).set (k * 4 + 2) (.int .i64 l[k].upto)).set (k * 4 + 3) (.int .i64 l[k].sent)
    have e3 := peer_sets (peerCells (l.take k)) (.int .i64 l[k].pid) (.int .i64 l[k].next) (.int .i64 l[k].upto) (.int .i64 l[k].sent) z0 z1 z2 z3 r'
    rw [hlen] at e3
    rw [e3] at hs
    refine ⟨⟨z0, z1, z2, z3, h2.cell ?_, h2.cell ?_, h2.cell ?_, h2.cell ?_⟩, fun j => h2.thaw j, r', ?_, ?_⟩
    · rw [List.getElem?_append_right (by omega), hlen, Nat.sub_self]; rfl
    · rw [List.getElem?_append_right (by omega), hlen, show k * 4 + 1 - k * 4 = 1 by omega]; rfl
    · rw [List.getElem?_append_right (by omega), hlen, show k * 4 + 2 - k * 4 = 2 by omega]; rfl
    · rw [List.getElem?_append_right (by omega), hlen, show k * 4 + 3 - k * 4 = 3 by omega]; rfl
    · simp at hr; omega
    · rw [peerCells_take l k hk, List.append_assoc]
      exact hs
  | [], hr => simp at hr; omega
  | [_], hr => simp at hr; omega
  | [_, _], hr => simp at hr; omega
  | [_, _, _], hr => simp at hr; omega

theorem made_peer (n : Nat) : (madeCells (Value.agg #[.int .i64 0, .int .i64 0, .int .i64 0, .int .i64 0]).cells (n * 4)).toList.length = n * 4 := by
  simp [madeCells]
end Go.Proofs.YtihgkocfgjihhaaGreatDoor

namespace Go.Proofs.YtihgkocfgjihhaaGreatDoor
open Go.RowKit

theorem row_shape {w : World} {base size n : Nat} {t : TypeId} {v : Value} {xs : List Value} (h : w.ownsRow base t size v n xs) : ∃ a c, v = .slice a n c := by
  obtain ⟨_, (⟨rfl, rfl⟩ | ⟨g, cap, _, rfl, _⟩)⟩ := h
  · exact ⟨_, _, rfl⟩
  · exact ⟨_, _, rfl⟩
theorem row_down {w : World} {base base' size n : Nat} {t : TypeId} {v : Value} {xs : List Value} (h : w.ownsRow base t size v n xs) (hb : base' ≤ base) : w.ownsRow base' t size v n xs :=
  ⟨h.1, h.2.imp id fun ⟨g, cap, cur, a, b, r⟩ => ⟨g, cap, cur, a, Nat.le_trans hb b, r⟩⟩
/-- behind an append to a row of the call's own: all that was there ahead of the row stands -/
theorem behind_append {w wr w1 : World} {v : Value} {base n : Nat} {t : TypeId} {size : Nat} {xs : List Value} {o : Obj} (hB : w.heap.size ≤ base) (BR : Below w.heap.size w wr) (OR : wr.ownsRow base t size v n xs) (hz : base ≤ wr.heap.size) (hg : (wr.alloc o).drew.grownBy w1 v.ownBlock) :
    Below w.heap.size w w1 ∧ base ≤ w1.heap.size ∧ ∀ j tj cs, j < base → BlockIs wr j tj cs → BlockIs w1 j tj cs := by
  have hown : ∀ j, v.ownBlock = some j → base ≤ j := fun j hj => (OR.lt j hj).1
  have hd : Below wr.heap.size wr (wr.alloc o).drew := below_drewN (below_more (Below.refl _ wr) o) 1
  have h1 : Below base wr w1 := ((hd.mono hz).grown hg (Nat.le_trans hz hd.size) hown)
  refine ⟨BR.trans (h1.mono hB), Nat.le_trans hz h1.size, fun j tj cs hj hb => hb.on h1 hj⟩
end Go.Proofs.YtihgkocfgjihhaaGreatDoor

namespace Go.Proofs.YtihgkocfgjihhaaGreatDoor
open Go.RowKit

/-- four blocks laid one behind the other -/
theorem four_log (w : World) (o p q : Obj) : Below w.heap.size w (((w.alloc o).alloc p).alloc q) ∧ (((w.alloc o).alloc p).alloc q).heap[w.heap.size]? = some o ∧ (((w.alloc o).alloc p).alloc q).heap[w.heap.size + 1]? = some p ∧ (((w.alloc o).alloc p).alloc q).heap[w.heap.size + 1 + 1]? = some q := by
  refine ⟨below_more (below_more (below_more (Below.refl _ w) _) _) _, ?_, ?_, ?_⟩
  · show (((w.heap.push o).push p).push q)[w.heap.size]? = some o
    rw [Array.getElem?_push, if_neg (by simp; omega), Array.getElem?_push, if_neg (by simp), Array.getElem?_push, if_pos rfl]
  · show (((w.heap.push o).push p).push q)[w.heap.size + 1]? = some p
    rw [Array.getElem?_push, if_neg (by simp), Array.getElem?_push, if_pos (by simp)]
  · show (((w.heap.push o).push p).push q)[w.heap.size + 1 + 1]? = some q
    rw [Array.getElem?_push, if_pos (by simp)]

/-- a row of the call's own, made between two sizes of memory -/
def OwnAt (w : World) (t : TypeId) (cs : List Value) (n : Nat) (va : Option Addr) (lo hi : Nat) : Prop :=
  n = 0 ∨ ∃ g r, va = some ⟨g, 0, none⟩ ∧ lo ≤ g ∧ g < hi ∧ BlockIs w g t (cs ++ r)
theorem OwnAt.on {w w' : World} {t : TypeId} {cs : List Value} {n : Nat} {va : Option Addr} {lo hi : Nat} (h : OwnAt w t cs n va lo hi) (hb : Below w.heap.size w w') : OwnAt w' t cs n va lo hi :=
  h.imp id fun ⟨g, r, a, b, c, d⟩ => ⟨g, r, a, b, c, d.on hb d.lt⟩
theorem OwnAt.down {w : World} {t : TypeId} {cs : List Value} {n : Nat} {va : Option Addr} {lo hi lo' hi' : Nat} (h : OwnAt w t cs n va lo hi) (h1 : lo' ≤ lo) (h2 : hi ≤ hi') : OwnAt w t cs n va lo' hi' :=
  h.imp id fun ⟨g, r, a, b, c, d⟩ => ⟨g, r, a, Nat.le_trans h1 b, Nat.lt_of_lt_of_le c h2, d⟩
/-- a cell below is written -/
theorem OwnAt.far {w : World} {t : TypeId} {cs : List Value} {n : Nat} {va : Option Addr} {lo b j : Nat} (h : OwnAt w t cs n va lo w.heap.size) (hb : b < lo) (v : Value) : OwnAt (w.setCell ⟨b, j, none⟩ v) t cs n va lo (w.setCell ⟨b, j, none⟩ v).heap.size := by
  rw [World.size_setCell]
  exact h.imp id fun ⟨g, r, a, c, d, e⟩ => ⟨g, r, a, c, d, e.far (by omega) v⟩
/-- nothing but blocks between two sizes has turned -/
def KeptBut (lo hi : Nat) (w w' : World) : Prop := ∀ j t cs, ¬ (lo ≤ j ∧ j < hi) → BlockIs w j t cs → BlockIs w' j t cs
theorem OwnAt.kept {w w' : World} {t : TypeId} {cs : List Value} {n : Nat} {va : Option Addr} {lo hi lo2 hi2 : Nat} (h : OwnAt w t cs n va lo hi) (hk : KeptBut lo2 hi2 w w') (ho : hi ≤ lo2 ∨ hi2 ≤ lo) : OwnAt w' t cs n va lo hi :=
  h.imp id fun ⟨g, r, a, b, c, d⟩ => ⟨g, r, a, b, c, hk _ _ _ (by omega) d⟩
theorem BlockIs.kept {w w' : World} {g lo hi : Nat} {t : TypeId} {cs : List Value} (h : BlockIs w g t cs) (hk : KeptBut lo hi w w') (ho : g < lo ∨ hi ≤ g) : BlockIs w' g t cs := hk _ _ _ (by omega) h
theorem row_ext {x y : World} {base size n : Nat} {t : TypeId} {v : Value} {xs : List Value} (h : x.ownsRow base t size v n xs) (hb : ∀ g cs, BlockIs x g t cs → BlockIs y g t cs) : y.ownsRow base t size v n xs := by
  refine ⟨h.1, h.2.imp id ?_⟩
  rintro ⟨g, cap, cur, a, b, c, r⟩
  have := hb g cur.toList (by unfold BlockIs; rw [c])
  unfold BlockIs at this
  exact ⟨g, cap, cur, a, b, by rw [this], r⟩
theorem OwnAt.ext {x y : World} {t : TypeId} {cs : List Value} {n : Nat} {va : Option Addr} {lo : Nat} (h : OwnAt x t cs n va lo x.heap.size) (hs : x.heap.size ≤ y.heap.size) (hb : ∀ g r, BlockIs x g t (cs ++ r) → BlockIs y g t (cs ++ r)) : OwnAt y t cs n va lo y.heap.size :=
  h.imp id fun ⟨g, r, a, b, c, d⟩ => ⟨g, r, a, b, Nat.lt_of_lt_of_le c hs, hb g r d⟩
theorem row_block {w : World} {base size n : Nat} {t : TypeId} {v : Value} {xs : List Value} (h : w.ownsRow base t size v n xs) {g : Nat} (hg : v.ownBlock = some g) : ∃ cs, BlockIs w g t cs ∧ base ≤ g := by
  obtain ⟨_, (⟨rfl, _⟩ | ⟨g', cap, cur, rfl, hb, hc, _⟩)⟩ := h
  · cases hg
  · cases hg
    exact ⟨cur.toList, by unfold BlockIs; rw [hc], hb⟩
theorem block_one {w : World} {g : Nat} {t t' : TypeId} {cs cs' : List Value} (h : BlockIs w g t cs) (h' : BlockIs w g t' cs') : t = t' ∧ cs = cs' := by
  unfold BlockIs at h h'
  rw [h] at h'
  simp only [Option.some.injEq, Obj.cells.injEq] at h'
  exact ⟨h'.2.1, by simpa using h'.1⟩
end Go.Proofs.YtihgkocfgjihhaaGreatDoor

namespace Go.Proofs.YtihgkocfgjihhaaGreatDoor
open Go.RowKit

/-- the figure of x, as a byte -/
def fig (x : Int) : Int := if x < 10 then 48 + x else 87 + x

theorem fig_bd {x : Int} (h0 : 0 ≤ x) (h1 : x ≤ 15) : 48 ≤ fig x ∧ fig x ≤ 102 := by unfold fig; split <;> omega

def hexOf : List UInt8 → List UInt8
  | [] => []
  | b :: r => UInt8.ofNat (fig (b.toNat / 16)).toNat :: UInt8.ofNat (fig (b.toNat % 16)).toNat :: hexOf r

theorem hexOf_append (l r : List UInt8) : hexOf (l ++ r) = hexOf l ++ hexOf r := by
  induction l with
  | nil => rfl
  | cons b l ih => simp [hexOf, ih]

theorem hexOf_length (l : List UInt8) : (hexOf l).length = 2 * l.length := by
  induction l with
  | nil => rfl
  | cons b l ih => simp [hexOf, ih]; omega

theorem take_snoc (s : ByteArray) (k : Nat) (h : k < s.size) : s.data.toList.take (k + 1) = s.data.toList.take k ++ [s[k]] := by
  rw [List.take_succ_eq_append_getElem (by simpa using h)]; rfl

theorem take_len (s : ByteArray) (k : Nat) (h : k ≤ s.size) : (s.data.toList.take k).length = k := by
  have : s.data.toList.length = s.size := by simp
  rw [List.length_take]; omega

theorem two_cs (b : UInt8) : [Value.int .u8 (fig ((b.toNat : Int) / 16)), .int .u8 (fig ((b.toNat : Int) % 16))] = cs (hexOf [b]) := by
  have hb := b.toNat_lt
  have h1 := fig_bd (x := (b.toNat : Int) / 16) (by omega) (by omega)
  have h2 := fig_bd (x := (b.toNat : Int) % 16) (by omega) (by omega)
  simp only [hexOf, cs, List.map_cons, List.map_nil, UInt8.toNat_ofNat', List.cons.injEq, and_true, Value.int.injEq, true_and]
  omega

theorem hex_step {s : ByteArray} {k : Nat} {w wr w1 : World} {v : Value} {g cap : Nat} {B : Obj} (hk : k < s.size) (hown : wr.ownsRow w.heap.size 5 1 v (2 * k) (cs (hexOf (s.data.toList.take k))))
    (hown' : w1.ownsRow w.heap.size 5 1 (.slice (some ⟨g, 0, none⟩) (2 * k + 2) cap) (2 * k + 2) (cs (hexOf (s.data.toList.take k)) ++ [.int .u8 (fig ((s[k].toNat : Int) / 16)), .int .u8 (fig ((s[k].toNat : Int) % 16))]))
    (hgrow : (wr.alloc B).drew.grownBy w1 v.ownBlock) (hb : Below w.heap.size w wr) :
    w1.ownsRow w.heap.size 5 1 (.slice (some ⟨g, 0, none⟩) (2 * k + 2) cap) (2 * (k + 1)) (cs (hexOf (s.data.toList.take (k + 1)))) ∧ Below w.heap.size w w1 := by
  refine ⟨?_, ((hb.alloc hb.size _).drew).grown hgrow (by have := hb.size; simp; omega) (fun j hj => (hown.lt j hj).1)⟩
  rw [two_cs, ← cs_append, ← hexOf_append, ← take_snoc s k hk] at hown'
  exact hown'

theorem i64_id {x : Int} (h0 : -9223372036854775808 ≤ x) (h1 : x ≤ 9223372036854775807) : IntKind.i64.wrap x = x := by
  simp [IntKind.wrap, IntKind.signed, IntKind.bits]; omega
theorem u8_id {x : Int} (h0 : 0 ≤ x) (h1 : x ≤ 255) : IntKind.u8.wrap x = x := by
  simp [IntKind.wrap, IntKind.signed, IntKind.bits]; omega

theorem wrap_quo (b : UInt8) : IntKind.i64.wrap ((IntKind.i64.wrap (b.toNat : Int)).tdiv 16) = (b.toNat : Int) / 16 := by
  have hb := b.toNat_lt
  have e : IntKind.i64.wrap (b.toNat : Int) = (b.toNat : Int) := by simp [IntKind.wrap, IntKind.signed, IntKind.bits]; omega
  rw [e, Int.tdiv_eq_ediv_of_nonneg (by omega)]
  simp [IntKind.wrap, IntKind.signed, IntKind.bits]; omega
theorem wrap_rem (b : UInt8) : (IntKind.i64.wrap (b.toNat : Int)).tmod 16 = (b.toNat : Int) % 16 := by
  have hb := b.toNat_lt
  have e : IntKind.i64.wrap (b.toNat : Int) = (b.toNat : Int) := by simp [IntKind.wrap, IntKind.signed, IntKind.bits]; omega
  rw [e, Int.tmod_eq_emod_of_nonneg (by omega)]
end Go.Proofs.YtihgkocfgjihhaaGreatDoor

namespace Go.Proofs.YtihgkocfgjihhaaGreatDoor
open Go.RowKit

/-- what the byte c counts as a figure; -1 where it is none -/
def lv (c : Int) : Int := if 48 ≤ c ∧ c ≤ 57 then c - 48 else if 97 ≤ c ∧ c ≤ 102 then c - 87 else -1

theorem lv_bd (c : Int) : -1 ≤ lv c ∧ lv c ≤ 15 := by unfold lv; split <;> (try split) <;> omega

theorem fig_lv {c j : Int} (h0 : 0 ≤ j) (h1 : j ≤ 15) : c = fig j ↔ lv c = j := by
  unfold lv fig
  split <;> split <;> (try split) <;> omega

/-- the values of a text's figures -/
def lvs (l : List UInt8) : List Int := l.map fun c => lv (c.toNat : Int)

def Figs (b : Nat) (l : List UInt8) : Prop := ∀ c ∈ l, 0 ≤ lv (c.toNat : Int) ∧ lv (c.toNat : Int) < b

theorem Figs.snoc {b : Nat} {l : List UInt8} {c : UInt8} (h : Figs b l) (hc : 0 ≤ lv (c.toNat : Int) ∧ lv (c.toNat : Int) < b) : Figs b (l ++ [c]) := by
  intro x hx
  rcases List.mem_append.1 hx with hx | hx
  · exact h x hx
  · simp at hx; subst hx; exact hc

/-- ints as the cells of a row -/
def ns (l : List Int) : List Value := l.map (Value.int .i64)

theorem mem_at (s : ByteArray) (k : Nat) (h : k < s.size) : s[k] ∈ s.data.toList := by
  have h1 : k < s.data.toList.length := by simpa using h
  have h2 := List.getElem_mem h1
  have h3 : s.data.toList[k] = s[k] := by rw [Array.getElem_toList]; rfl
  rw [h3] at h2
  exact h2

theorem lvs_append (l r : List UInt8) : lvs (l ++ r) = lvs l ++ lvs r := by simp [lvs]
theorem lvs_length (l : List UInt8) : (lvs l).length = l.length := by simp [lvs]
theorem ns_append (l r : List Int) : ns (l ++ r) = ns l ++ ns r := by simp [ns]

theorem fv_step {s : ByteArray} {k : Nat} {w wr w1 : World} {v v' : Value} {B : Obj} {j : Int} (hk : k < s.size) (hj : lv (s[k].toNat : Int) = j) (hown : wr.ownsRow w.heap.size 3 1 v k (ns (lvs (s.data.toList.take k))))
    (hown' : w1.ownsRow w.heap.size 3 1 v' (k + 1) (ns (lvs (s.data.toList.take k)) ++ [.int .i64 j])) (hgrow : (wr.alloc B).grownBy w1 v.ownBlock) (hb : Below w.heap.size w wr) :
    w1.ownsRow w.heap.size 3 1 v' (k + 1) (ns (lvs (s.data.toList.take (k + 1)))) ∧ Below w.heap.size w w1 := by
  refine ⟨?_, (hb.alloc hb.size _).grown hgrow (by have := hb.size; simp; omega) (fun j hj => (hown.lt j hj).1)⟩
  have e : [Value.int .i64 j] = ns (lvs [s[k]]) := by simp [ns, lvs, hj]
  rw [e, ← ns_append, ← lvs_append, ← take_snoc s k hk] at hown'
  exact hown'

/-- where the values lie -/
theorem values_lie {w w1 : World} {s : ByteArray} {v : Value} (h : w1.ownsRow w.heap.size 3 1 v s.size (ns (lvs s.data.toList))) :
    ∃ ao cap, v = .slice ao s.size cap ∧ (0 < s.size → ∃ g, ao = some ⟨g, 0, none⟩ ∧ g < w1.heap.size ∧ s.size ≤ cap ∧ ∀ j (hj : j < s.size), w1.cell? ⟨g, j, none⟩ = some (.int .i64 (lv (s[j].toNat : Int)))) := by
  have h' := h
  obtain ⟨h1, h2⟩ := h
  rcases h2 with ⟨hv, hn⟩ | ⟨g, cap, cur, hv, hgb, hh, hle, hmx, hsz, hx⟩
  · exact ⟨none, 0, by rw [hv, hn], fun h0 => by omega⟩
  · refine ⟨_, cap, hv, fun _ => ⟨g, rfl, (h'.lt g (by rw [hv]; rfl)).2, hle, fun j hj => ?_⟩⟩
    have hu : (ns (lvs s.data.toList))[j]? = some (.int .i64 (lv (s[j].toNat : Int))) := by
      have hj' : j < s.data.toList.length := by simpa using hj
      have e : s.data.toList[j] = s[j] := by rw [Array.getElem_toList]; rfl
      simp only [ns, lvs, List.getElem?_map, List.getElem?_eq_getElem hj', Option.map_some, e]
    have := h'.cells (g := g) (by rw [hv]; rfl) j _ hu
    have ea : (⟨g, 0, none⟩ : Addr).add j = ⟨g, j, none⟩ := by
      simp only [Addr.add]
      split
      · simp_all
      · simp
    rw [ea] at this
    exact this
end Go.Proofs.YtihgkocfgjihhaaGreatDoor

namespace Go.Proofs.YtihgkocfgjihhaaGreatDoor
open Go.RowKit

/-- the decimal figures of n, none for 0 (with so many steps at the most) -/
def ddF : Nat → Nat → List UInt8
  | 0, _ => []
  | f + 1, n => if n = 0 then [] else ddF f (n / 10) ++ [UInt8.ofNat (48 + n % 10)]
/-- the decimal figures of n, none for 0 -/
def dd (n : Nat) : List UInt8 := ddF n n

theorem ddF_eq : ∀ (f g n : Nat), n ≤ f → n ≤ g → ddF f n = ddF g n
  | 0, 0, _, _, _ => rfl
  | 0, g + 1, n, h, _ => by
    obtain rfl : n = 0 := by omega
    rw [ddF, ddF, if_pos rfl]
  | f + 1, 0, n, _, h => by
    obtain rfl : n = 0 := by omega
    rw [ddF, ddF, if_pos rfl]
  | f + 1, g + 1, n, h1, h2 => by
    rw [ddF, ddF]
    by_cases h : n = 0
    · rw [if_pos h, if_pos h]
    · rw [if_neg h, if_neg h, ddF_eq f g (n / 10) (by omega) (by omega)]
theorem dd_zero : dd 0 = [] := rfl
theorem dd_pos {n : Nat} (h : 0 < n) : dd n = dd (n / 10) ++ [UInt8.ofNat (48 + n % 10)] := by
  rw [dd, ddF_eq n (n + 1) n (Nat.le_refl _) (by omega), ddF, if_neg (by omega), dd, ddF_eq n (n / 10) (n / 10) (by omega) (Nat.le_refl _)]

theorem dd_len (k : Nat) : ∀ n, n < 10 ^ k → (dd n).length ≤ k := by
  induction k with
  | zero => intro n h; have : n = 0 := by simp at h; omega
            subst this; rw [dd_zero]; simp
  | succ k ih =>
    intro n h
    by_cases h0 : n = 0
    · subst h0; rw [dd_zero]; simp
    · rw [dd_pos (by omega), List.length_append]
      have := ih (n / 10) (by rw [Nat.pow_succ] at h; omega)
      simp only [List.length_cons, List.length_nil]
      omega

/-- n in decimal -/
def dec (n : Int) : List UInt8 := if n = 0 then [48] else if n < 0 then 45 :: dd n.natAbs else dd n.natAbs

/-- what figures make -/
def num (l : List UInt8) : Nat := l.foldl (fun n c => 10 * n + (c.toNat - 48)) 0

theorem num_nil : num [] = 0 := rfl
theorem num_snoc (l : List UInt8) (c : UInt8) : num (l ++ [c]) = 10 * num l + (c.toNat - 48) := by simp [num, List.foldl_append]

def Digits (l : List UInt8) : Prop := ∀ c ∈ l, 48 ≤ c.toNat ∧ c.toNat ≤ 57

theorem Digits.init {l : List UInt8} {c : UInt8} (h : Digits (l ++ [c])) : Digits l ∧ 48 ≤ c.toNat ∧ c.toNat ≤ 57 :=
  ⟨fun x hx => h x (List.mem_append.2 (Or.inl hx)), h c (by simp)⟩
theorem Digits.snoc {l : List UInt8} {c : UInt8} (h : Digits l) (hc : 48 ≤ c.toNat ∧ c.toNat ≤ 57) : Digits (l ++ [c]) := by
  intro x hx
  rcases List.mem_append.1 hx with hx | hx
  · exact h x hx
  · simp at hx; subst hx; exact hc

theorem snoc_cases (l : List UInt8) : l = [] ∨ ∃ r c, l = r ++ [c] := by
  rcases h : l.reverse with _ | ⟨c, r⟩
  · exact Or.inl (by simpa using h)
  · exact Or.inr ⟨r.reverse, c, by have := congrArg List.reverse h; simpa using this⟩

theorem num_lt : ∀ (k : Nat) (l : List UInt8), l.length = k → Digits l → num l < 10 ^ k
  | 0, l, h, _ => by
    have : l = [] := List.eq_nil_of_length_eq_zero h
    subst this; simp [num]
  | k + 1, l, h, hd => by
    rcases snoc_cases l with rfl | ⟨r, c, rfl⟩
    · simp at h
    · have h1 := hd.init
      have := num_lt k r (by simpa using h) h1.1
      rw [num_snoc, Nat.pow_succ]
      omega

theorem num_lead (c : UInt8) (hc : c ≠ 48) (hc1 : 48 ≤ c.toNat ∧ c.toNat ≤ 57) : ∀ (k : Nat) (r : List UInt8), r.length = k → Digits r → 0 < num (c :: r) ∧ dd (num (c :: r)) = c :: r
  | 0, r, h, _ => by
    have : r = [] := List.eq_nil_of_length_eq_zero h
    subst this
    have h48 : c.toNat ≠ 48 := fun e => hc (UInt8.toNat_inj.1 (by simpa using e))
    have e : num [c] = c.toNat - 48 := by simp [num]
    rw [e]
    refine ⟨by omega, ?_⟩
    rw [dd_pos (by omega), show (c.toNat - 48) / 10 = 0 by omega, dd_zero, show 48 + (c.toNat - 48) % 10 = c.toNat by omega]
    simp
  | k + 1, r, h, hd => by
    rcases snoc_cases r with rfl | ⟨r', x, rfl⟩
    · simp at h
    · have h1 := hd.init
      obtain ⟨i1, i2⟩ := num_lead c hc hc1 k r' (by simpa using h) h1.1
      have e : num (c :: (r' ++ [x])) = 10 * num (c :: r') + (x.toNat - 48) := num_snoc (c :: r') x
      rw [e]
      refine ⟨by omega, ?_⟩
      rw [dd_pos (by omega), show (10 * num (c :: r') + (x.toNat - 48)) / 10 = num (c :: r') by omega, show 48 + (10 * num (c :: r') + (x.toNat - 48)) % 10 = x.toNat by omega, i2]
      simp

/-- figures of a number do not begin with a nought -/
theorem dd_head : ∀ (n : Nat), 0 < n → ∃ c r, dd n = c :: r ∧ c ≠ 48 := by
  intro n
  induction n using Nat.strongRecOn with
  | _ n ih =>
    intro h
    rw [dd_pos h]
    by_cases h1 : n / 10 = 0
    · rw [h1, dd_zero]
      refine ⟨_, [], rfl, ?_⟩
      intro e
      have := congrArg UInt8.toNat e
      simp only [UInt8.toNat_ofNat', UInt8.toNat_ofNat] at this
      omega
    · obtain ⟨c, r, e, hc⟩ := ih (n / 10) (by omega) (by omega)
      exact ⟨c, r ++ [UInt8.ofNat (48 + n % 10)], by rw [e]; rfl, hc⟩

/-- a text of figures is how its number is written, just when it has some and no needless nought ahead -/
theorem dec_num (l : List UInt8) (hd : Digits l) : dec (num l : Int) = l ↔ l ≠ [] ∧ ¬ (l.head? = some 48 ∧ 1 < l.length) := by
  match l, hd with
  | [], _ => simp [num, dec]
  | c :: r, hd =>
    have hc := hd c (by simp)
    have hr : Digits r := fun x hx => hd x (by simp [hx])
    by_cases h48 : c = 48
    · subst h48
      match r, hr with
      | [], _ => simp [num, dec]
      | x :: r', hr =>
        simp only [List.head?_cons, List.length_cons, ne_eq, reduceCtorEq, not_false_eq_true, true_and]
        constructor
        · intro e
          unfold dec at e
          split at e
          · simp at e
          · rename_i hz
            rw [if_neg (by omega), Int.natAbs_natCast] at e
            obtain ⟨y, q, e1, e2⟩ := dd_head (num (48 :: x :: r')) (by omega)
            rw [e1] at e
            simp only [List.cons.injEq] at e
            exact absurd e.1 e2
        · intro h
          exact absurd (by omega) h
    · obtain ⟨i1, i2⟩ := num_lead c h48 hc r.length r rfl hr
      unfold dec
      rw [if_neg (by omega), if_neg (by omega), Int.natAbs_natCast, i2]
      simp [h48]

theorem digits_figs (l : List UInt8) : Digits l ↔ Figs 10 l := by
  constructor
  · intro h c hc
    have := h c hc
    unfold lv
    rw [if_pos (by omega)]
    omega
  · intro h c hc
    have := h c hc
    unfold lv at this
    split at this
    · omega
    · split at this <;> omega
theorem lv_digit {c : UInt8} (h : 48 ≤ c.toNat ∧ c.toNat ≤ 57) : lv (c.toNat : Int) = ((c.toNat - 48 : Nat) : Int) := by
  unfold lv; rw [if_pos (by omega)]; omega

/-- a text that ReadDecimal takes -/
def DecOk (l : List UInt8) : Prop := Digits l ∧ num l ≤ 1000000000 ∧ l ≠ [] ∧ ¬ (l.head? = some 48 ∧ 1 < l.length)

theorem digits_at {s : ByteArray} {k : Nat} (hk : k < s.size) (h : ¬ (48 ≤ s[k].toNat ∧ s[k].toNat ≤ 57)) : ¬ DecOk s.data.toList := fun hd => h (hd.1 s[k] (mem_at s k hk))

theorem num_step {s : ByteArray} {k : Nat} (hk : k < s.size) (h : 48 ≤ (s[k].toNat : Int)) : ((num (s.data.toList.take (k + 1)) : Nat) : Int) = 10 * (num (s.data.toList.take k) : Int) + (s[k].toNat : Int) - 48 := by
  rw [take_snoc s k hk, num_snoc]
  omega

theorem ret_num {a b : Nat} (h : a = b) : Ending.returned (.tuple #[.int .i64 a, .bool true]) = .returned (.tuple #[.int .i64 b, .bool true]) := by rw [h]

theorem same_dec {s : ByteArray} {l : List UInt8} : (!l == s.toList) = false ↔ l = s.data.toList := by
  rw [ByteArray.toList_eq]; simp
end Go.Proofs.YtihgkocfgjihhaaGreatDoor

namespace Go.Proofs.YtihgkocfgjihhaaGreatDoor
open Go.RowKit

theorem toSession_info : (Tryz.prog.info? 121).map (fun i => (i.zero, i.size, i.bytes)) = some (some (.agg #[.int .i64 0, .int .i64 0, .string ByteArray.empty]), 3, 32) := by kernel_rfl
/-- an element's cells are written -/
theorem put_session {w w2 : World} {g k : Nat} {t : TypeId} {l : List SessionD} {r : List Value} (hk : k < l.length) (h : BlockIs w g t (sessionCells (l.take k) ++ r)) (hr : r.length = (l.length - k) * 3) {B : Nat} (hb : Below B w w2) (hg : g < B) :
    (∃ o0 o1 o2, w2.cell? ⟨g, k * 3, none⟩ = some o0 ∧ w2.cell? ⟨g, k * 3 + 1, none⟩ = some o1 ∧ w2.cell? ⟨g, k * 3 + 2, none⟩ = some o2) ∧ (∀ j, w2.frozen? ⟨g, j, none⟩ = false) ∧
    ∃ r', r'.length = (l.length - (k + 1)) * 3 ∧ BlockIs (((w2.setCell ⟨g, k * 3, none⟩ (.int .i64 l[k].token)).setCell ⟨g, k * 3 + 1, none⟩ (.int .i64 l[k].last)).setCell ⟨g, k * 3 + 2, none⟩ (.string l[k].reply)) g t (sessionCells (l.take (k + 1)) ++ r') := by
  have h2 := h.on hb hg
  have hlen : (sessionCells (l.take k)).length = k * 3 := by rw [sessionCells_length, List.length_take]; omega
  match r, hr with
  | z0 :: z1 :: z2 :: r', hr =>
    have hs := ((h2.set (k * 3) (.int .i64 l[k].token)).set (k * 3 + 1) (.int .i64 l[k].last)).set (k * 3 + 2) (.string l[k].reply)
    have e3 := session_sets (sessionCells (l.take k)) (.int .i64 l[k].token) (.int .i64 l[k].last) (.string l[k].reply) z0 z1 z2 r'
    rw [hlen] at e3
    rw [e3] at hs
    refine ⟨⟨z0, z1, z2, h2.cell ?_, h2.cell ?_, h2.cell ?_⟩, fun j => h2.thaw j, r', ?_, ?_⟩
    · rw [List.getElem?_append_right (by omega), hlen, Nat.sub_self]; rfl
    · rw [List.getElem?_append_right (by omega), hlen, show k * 3 + 1 - k * 3 = 1 by omega]; rfl
    · rw [List.getElem?_append_right (by omega), hlen, show k * 3 + 2 - k * 3 = 2 by omega]; rfl
    · simp at hr; omega
    · rw [sessionCells_take l k hk, List.append_assoc]
      exact hs
  | [], hr => simp at hr; omega
  | [_], hr => simp at hr; omega
  | [_, _], hr => simp at hr; omega

theorem made_session (n : Nat) : (madeCells (Value.agg #[.int .i64 0, .int .i64 0, .string ByteArray.empty]).cells (n * 3)).toList.length = n * 3 := by
  simp [madeCells]
end Go.Proofs.YtihgkocfgjihhaaGreatDoor

namespace Go.Proofs.YtihgkocfgjihhaaGreatDoor
open Go.RowKit

theorem toItem_info : (Tryz.prog.info? 124).map (fun i => (i.zero, i.size, i.bytes)) = some (some (.agg #[.string ByteArray.empty, .string ByteArray.empty, .int .i64 0]), 3, 40) := by kernel_rfl
/-- an element's cells are written -/
theorem put_item {w w2 : World} {g k : Nat} {t : TypeId} {l : List ItemD} {r : List Value} (hk : k < l.length) (h : BlockIs w g t (itemCells (l.take k) ++ r)) (hr : r.length = (l.length - k) * 3) {B : Nat} (hb : Below B w w2) (hg : g < B) :
    (∃ o0 o1 o2, w2.cell? ⟨g, k * 3, none⟩ = some o0 ∧ w2.cell? ⟨g, k * 3 + 1, none⟩ = some o1 ∧ w2.cell? ⟨g, k * 3 + 2, none⟩ = some o2) ∧ (∀ j, w2.frozen? ⟨g, j, none⟩ = false) ∧
    ∃ r', r'.length = (l.length - (k + 1)) * 3 ∧ BlockIs (((w2.setCell ⟨g, k * 3, none⟩ (.string l[k].key)).setCell ⟨g, k * 3 + 1, none⟩ (.string l[k].val)).setCell ⟨g, k * 3 + 2, none⟩ (.int .i64 l[k].ver)) g t (itemCells (l.take (k + 1)) ++ r') := by
  have h2 := h.on hb hg
  have hlen : (itemCells (l.take k)).length = k * 3 := by rw [itemCells_length, List.length_take]; omega
  match r, hr with
  | z0 :: z1 :: z2 :: r', hr =>
    have hs := ((h2.set (k * 3) (.string l[k].key)).set (k * 3 + 1) (.string l[k].val)).set (k * 3 + 2) (.int .i64 l[k].ver)
    have e3 := item_sets (itemCells (l.take k)) (.string l[k].key) (.string l[k].val) (.int .i64 l[k].ver) z0 z1 z2 r'
    rw [hlen] at e3
    rw [e3] at hs
    refine ⟨⟨z0, z1, z2, h2.cell ?_, h2.cell ?_, h2.cell ?_⟩, fun j => h2.thaw j, r', ?_, ?_⟩
    · rw [List.getElem?_append_right (by omega), hlen, Nat.sub_self]; rfl
    · rw [List.getElem?_append_right (by omega), hlen, show k * 3 + 1 - k * 3 = 1 by omega]; rfl
    · rw [List.getElem?_append_right (by omega), hlen, show k * 3 + 2 - k * 3 = 2 by omega]; rfl
    · simp at hr; omega
    · rw [itemCells_take l k hk, List.append_assoc]
      exact hs
  | [], hr => simp at hr; omega
  | [_], hr => simp at hr; omega
  | [_, _], hr => simp at hr; omega

theorem made_item (n : Nat) : (madeCells (Value.agg #[.string ByteArray.empty, .string ByteArray.empty, .int .i64 0]).cells (n * 3)).toList.length = n * 3 := by
  simp [madeCells]
end Go.Proofs.YtihgkocfgjihhaaGreatDoor

namespace Go.Proofs.YtihgkocfgjihhaaGreatDoor
open Go.RowKit

/-- cells with others in their places from o on -/
def overAt : List Value → Nat → List Value → List Value
  | cs, _, [] => cs
  | cs, o, v :: r => overAt (cs.set o v) (o + 1) r
theorem mid_set {b : Nat} {t : TypeId} : ∀ (vs : List Value) {W : World} {o : Nat} {cs : List Value}, BlockIs W b t cs → BlockIs (W.setCells b o vs) b t (overAt cs o vs)
  | [], _, _, _, h => h
  | v :: r, _, _, _, h => mid_set r (h.set _ v)
theorem mid_far {b g : Nat} {t : TypeId} {cs : List Value} (hne : b ≠ g) : ∀ (vs : List Value) {W : World} {o : Nat}, BlockIs W g t cs → BlockIs (W.setCells b o vs) g t cs
  | [], _, _, h => h
  | v :: r, _, _, h => mid_far hne r (h.far hne v)
theorem mid_below {b n : Nat} {w : World} (hb : n ≤ b) : ∀ (vs : List Value) {W : World} {o : Nat}, Below n w W → Below n w (W.setCells b o vs)
  | [], _, _, h => h
  | v :: r, _, _, h => mid_below hb r (h.setCell hb v)
theorem mid_own {t : TypeId} {cs : List Value} {n lo hi b : Nat} {va : Option Addr} (vs : List Value) {W : World} {o : Nat} (h : OwnAt W t cs n va lo hi) (hb : b < lo) : OwnAt (W.setCells b o vs) t cs n va lo hi :=
  h.imp id fun ⟨g, r, x, c, d, k⟩ => ⟨g, r, x, c, d, mid_far (by omega) vs k⟩
theorem mid_there {W : World} {b o n : Nat} {t : TypeId} {cs : List Value} (h : BlockIs W b t cs) (hl : o + n ≤ cs.length) : W.there b o n := fun j hj => by
  have hc := h.cell (j := o + j) (List.getElem?_eq_getElem (by omega))
  exact ⟨by rw [hc]; rfl, h.thaw _⟩
theorem mid_range {W : World} {b o : Nat} {t : TypeId} {cs vs : List Value} (h : BlockIs W b t cs) (hx : (cs.drop o).take vs.length = vs) : W.rangeAt b o vs := fun j v hv => by
  refine h.cell ?_
  rw [← hx] at hv
  have hj := (List.getElem?_eq_some_iff.1 hv).1
  rw [List.length_take] at hj
  rw [List.getElem?_take_of_lt (by omega), List.getElem?_drop] at hv
  exact hv
/-- a struct as a result, read whole: no simp over its cells (each cell would double the term) -/
theorem results_whole {n : Nat} {T : TypeId} {fs : Array Field} (hu : Tryz.prog.underlying T = some (.struct fs)) (hs : (Tryz.prog.info? T).map (·.size) = some n) {fn : Func} {tmps : Array Value} {r : Nat} {W : World} {b : Nat} {t : TypeId} {cs : List Value}
    (hr : fn.results = #[.cell r T]) (ht : tmps.getD r undef = .pointer (some ⟨b, 0, none⟩)) (hb : BlockIs W b t cs) (hn : cs.length = n) : (results fn tmps).run Tryz.prog W = .ok (.agg cs.toArray) W := by
  have h := run_loadVar_mid (P := Tryz.prog) W b 0 T cs _ (fun j v hv => by rw [Nat.zero_add]; exact hb.cell hv) hu rfl (by rw [hs, hn])
  have ht' : tmps[r]?.getD undef = .pointer (some ⟨b, 0, none⟩) := by simpa [Array.getD_eq_getD_getElem?] using ht
  simp [results, hr, ht', asAddr, h]
end Go.Proofs.YtihgkocfgjihhaaGreatDoor

namespace Go.Proofs.YtihgkocfgjihhaaGreatDoor
open Go

theorem grown_draws (w : World) (r : Option Nat) (n : Nat) : w.grownBy (w.drewN n) r := ⟨rfl, rfl, rfl, Nat.le_refl _, fun _ _ _ => rfl⟩
end Go.Proofs.YtihgkocfgjihhaaGreatDoor

namespace Go.Proofs.YtihgkocfgjihhaaGreatDoor
open Go.RowKit

theorem blk_grown {w w' : World} {g r : Nat} {t : TypeId} {cs : List Value} (h : BlockIs w g t cs) (hg : w.grownBy w' (some r)) (hr : g ≠ r) : BlockIs w' g t cs := by
  have hlt := h.lt
  unfold BlockIs at h ⊢
  rw [hg.block g hlt (by simp; omega)]
  exact h
theorem below_grown {n r : Nat} {w w1 w2 : World} (h : Below n w w1) (hg : w1.grownBy w2 (some r)) (hr : n ≤ r) (hs : n ≤ w1.heap.size) : Below n w w2 :=
  h.grown hg hs (fun k e => by simp at e; omega)
theorem grown_none {w w' : World} (h : w.grownBy w' none) (r : Nat) : w.grownBy w' (some r) := by
  obtain ⟨h1, h2, h3, h4, h5⟩ := h
  exact ⟨h1, h2, h3, h4, fun b hb _ => h5 b hb (by simp)⟩
theorem three_blocks (w : World) (o p q : Obj) : Below w.heap.size w (((w.alloc o).alloc p).alloc q) ∧ (((w.alloc o).alloc p).alloc q).heap.size = w.heap.size + 3 ∧ (((w.alloc o).alloc p).alloc q).heap[w.heap.size]? = some o ∧ (((w.alloc o).alloc p).alloc q).heap[w.heap.size + 1]? = some p ∧ (((w.alloc o).alloc p).alloc q).heap[w.heap.size + 1 + 1]? = some q := by
  refine ⟨below_more (below_more (below_more (Below.refl _ w) _) _) _, by simp [World.alloc, -World.alloc_eq], ?_, ?_, ?_⟩
  · show (((w.heap.push o).push p).push q)[w.heap.size]? = some o
    rw [Array.getElem?_push, if_neg (by simp; omega), Array.getElem?_push, if_neg (by simp), Array.getElem?_push, if_pos rfl]
  · show (((w.heap.push o).push p).push q)[w.heap.size + 1]? = some p
    rw [Array.getElem?_push, if_neg (by simp), Array.getElem?_push, if_pos (by simp)]
  · show (((w.heap.push o).push p).push q)[w.heap.size + 1 + 1]? = some q
    rw [Array.getElem?_push, if_pos (by simp)]
theorem two_blocks (w : World) (o p : Obj) : Below w.heap.size w ((w.alloc o).alloc p) ∧ ((w.alloc o).alloc p).heap.size = w.heap.size + 2 ∧ ((w.alloc o).alloc p).heap[w.heap.size]? = some o ∧ ((w.alloc o).alloc p).heap[w.heap.size + 1]? = some p := by
  refine ⟨below_more (below_more (Below.refl _ w) _) _, by simp [World.alloc, -World.alloc_eq], ?_, ?_⟩
  · show ((w.heap.push o).push p)[w.heap.size]? = some o
    rw [Array.getElem?_push, if_neg (by simp), Array.getElem?_push, if_pos rfl]
  · show ((w.heap.push o).push p)[w.heap.size + 1]? = some p
    rw [Array.getElem?_push, if_pos (by simp)]

/-- what hangs on blocks of two types alone -/
def Stays (t1 t2 : TypeId) (Q : World → Prop) : Prop := ∀ x y : World, (∀ g t cs, t = t1 ∨ t = t2 → BlockIs x g t cs → BlockIs y g t cs) → Q x → Q y
theorem Stays.alloc {t1 t2 : TypeId} {Q : World → Prop} (h : Stays t1 t2 Q) {x : World} (q : Q x) (o : Obj) : Q (x.alloc o) :=
  h _ _ (fun _ _ _ _ hb => hb.on (below_more (Below.refl _ _) o) hb.lt) q
theorem Stays.drawn {t1 t2 : TypeId} {Q : World → Prop} (h : Stays t1 t2 Q) {x : World} (q : Q x) (n : Nat) : Q (x.drewN n) := h x (x.drewN n) (fun _ _ _ _ hb => hb) q
theorem Stays.put {t1 t2 tb : TypeId} {Q : World → Prop} {cb : List Value} {b : Nat} (h : Stays t1 t2 Q) {x : World} (q : Q x) (hb : BlockIs x b tb cb) (h1 : tb ≠ t1) (h2 : tb ≠ t2) (j : Nat) (u : Value) : Q (x.setCell ⟨b, j, none⟩ u) :=
  h _ _ (fun _ _ _ ht hg => hg.far (fun e => by subst e; have := (block_one hb hg).1; rcases ht with rfl | rfl; exact h1 this; exact h2 this) u) q
theorem Stays.grown {t1 t2 tb : TypeId} {Q : World → Prop} {cb : List Value} {b : Nat} (h : Stays t1 t2 Q) {x y : World} (q : Q x) (hg : x.grownBy y (some b)) (hb : BlockIs x b tb cb) (h1 : tb ≠ t1) (h2 : tb ≠ t2) : Q y :=
  h _ _ (fun _ _ _ ht hc => blk_grown hc hg (fun e => by subst e; have := (block_one hb hc).1; rcases ht with rfl | rfl; exact h1 this; exact h2 this)) q
end Go.Proofs.YtihgkocfgjihhaaGreatDoor

namespace Go.Proofs.YtihgkocfgjihhaaGreatDoor
open Go.RowKit

/-- what the low seven bits of the bytes make, the least first -/
def val : List UInt8 → Nat
  | [] => 0
  | b :: r => b.toNat % 128 + 128 * val r

theorem val_snoc (p : List UInt8) (b : UInt8) : val (p ++ [b]) = val p + b.toNat % 128 * 128 ^ p.length := by
  induction p with
  | nil => simp [val]
  | cons x p ih =>
    simp only [List.cons_append, val, ih, List.length_cons, Nat.pow_succ, Nat.mul_add]
    rw [show b.toNat % 128 * (128 ^ p.length * 128) = 128 * (b.toNat % 128 * 128 ^ p.length) from by rw [Nat.mul_comm (128 ^ p.length) 128, Nat.mul_left_comm]]
    omega

theorem val_lt (p : List UInt8) : val p < 128 ^ p.length := by
  induction p with
  | nil => simp [val]
  | cons x p ih =>
    simp only [val, List.length_cons, Nat.pow_succ]
    omega

theorem val_zero_last (p : List UInt8) (b : UInt8) (hb : b.toNat < 128) (h : val (p ++ [b]) = 0) : b = 0 := by
  rw [val_snoc] at h
  have h1 : b.toNat % 128 * 128 ^ p.length = 0 := by omega
  have h2 : 0 < 128 ^ p.length := Nat.pow_pos (by omega)
  rcases Nat.mul_eq_zero.1 h1 with h | h
  · apply UInt8.toNat_inj.1
    rw [Nat.mod_eq_of_lt hb] at h
    simpa using h
  · omega

/-- bytes that go on, then one that ends: they are just what would be written, unless the last is a needless nought -/
theorem vb_val (p : List UInt8) (b : UInt8) (hp : ∀ x ∈ p, 128 ≤ x.toNat) (hb : b.toNat < 128) : (vb (val (p ++ [b])) = p ++ [b]) ↔ ¬ (b = 0 ∧ p ≠ []) := by
  induction p with
  | nil =>
    have : vb (val [b]) = [b] := by
      have e : val [b] = b.toNat := by simp [val]; omega
      rw [e, vb_small (by omega)]; simp
    simp [this]
  | cons x p ih =>
    have hx := hp x (by simp)
    have hx2 := x.toNat_lt
    have ih' := ih fun y hy => hp y (by simp [hy])
    simp only [List.cons_append, val]
    by_cases hv : val (p ++ [b]) = 0
    · have hb0 := val_zero_last p b hb hv
      rw [hv, vb_small (by omega)]
      constructor
      · intro h
        have := congrArg List.length h
        simp at this
      · intro h
        exact absurd ⟨hb0, by simp⟩ h
    · rw [vb_big (by omega)]
      have e1 : (x.toNat % 128 + 128 * val (p ++ [b])) % 128 + 128 = x.toNat := by omega
      have e2 : (x.toNat % 128 + 128 * val (p ++ [b])) / 128 = val (p ++ [b]) := by omega
      rw [e1, e2]
      simp only [UInt8.ofNat_toNat, List.cons.injEq, true_and]
      rw [ih']
      constructor
      · rintro h ⟨h1, _⟩
        apply h
        refine ⟨h1, ?_⟩
        rintro rfl
        apply hv
        simp [val, h1]
      · rintro h ⟨h1, _⟩
        exact h ⟨h1, by simp⟩

/-- reading on: p has been read, l is what is left -/
def rvFrom (p : List UInt8) : List UInt8 → Option (Nat × Nat)
  | [] => none
  | b :: r => if 5 ≤ p.length then none else if b.toNat < 128 then (if 1000000000 < val (p ++ [b]) ∨ (b = 0 ∧ p ≠ []) then none else some (val (p ++ [b]), p.length + 1)) else rvFrom (p ++ [b]) r

def rv (l : List UInt8) : Option (Nat × Nat) := rvFrom [] l

theorem rvFrom_full (p l : List UInt8) (h : 5 ≤ p.length) : rvFrom p l = none := by cases l <;> simp [rvFrom, h]
theorem rvFrom_on (p r : List UInt8) (b : UInt8) (h : p.length < 5) (hb : 128 ≤ b.toNat) : rvFrom p (b :: r) = rvFrom (p ++ [b]) r := by
  rw [rvFrom, if_neg (by omega), if_neg (by omega)]
theorem rvFrom_no (p r : List UInt8) (b : UInt8) (h : p.length < 5) (hb : b.toNat < 128) (hv : 1000000000 < val (p ++ [b]) ∨ (b = 0 ∧ p ≠ [])) : rvFrom p (b :: r) = none := by
  rw [rvFrom, if_neg (by omega), if_pos hb, if_pos hv]
theorem rvFrom_yes (p r : List UInt8) (b : UInt8) (h : p.length < 5) (hb : b.toNat < 128) (hv : ¬ (1000000000 < val (p ++ [b]) ∨ (b = 0 ∧ p ≠ []))) : rvFrom p (b :: r) = some (val (p ++ [b]), p.length + 1) := by
  rw [rvFrom, if_neg (by omega), if_pos hb, if_neg hv]

theorem rvFrom_some {p l : List UInt8} {n c : Nat} (h : rvFrom p l = some (n, c)) : n ≤ 1000000000 ∧ p.length < c ∧ c ≤ p.length + l.length := by
  induction l generalizing p with
  | nil => simp [rvFrom] at h
  | cons b r ih =>
    rw [rvFrom] at h
    split at h
    · cases h
    · split at h
      · split at h
        · cases h
        · simp only [Option.some.injEq, Prod.mk.injEq] at h
          obtain ⟨rfl, rfl⟩ := h
          simp only [List.length_cons]
          omega
      · have := ih h
        simp only [List.length_append, List.length_cons, List.length_nil] at this ⊢
        omega

/-- what both readers answer -/
def rvAns (a : Nat) : Option (Nat × Nat) → Value
  | none => .tuple #[.int .i64 0, .int .i64 0, .bool false]
  | some (n, c) => .tuple #[.int .i64 n, .int .i64 ((a + c : Nat) : Int), .bool true]

/-- the round's state: k bytes of the text from a on have been read, all of them go on -/
structure RvAt (s : ByteArray) (a k : Nat) (p : List UInt8) : Prop where
  lo : a ≤ k
  hi : k ≤ s.size
  five : k ≤ a + 5
  len : p.length = k - a
  on : ∀ x ∈ p, 128 ≤ x.toNat
  left : p = (s.data.toList.drop a).take (k - a)
  rv : rv (s.data.toList.drop a) = rvFrom p (s.data.toList.drop k)

theorem RvAt.start (s : ByteArray) (a : Nat) (h : a ≤ s.size) : RvAt s a a [] :=
  ⟨Nat.le_refl _, h, by omega, by simp, by simp, by simp, rfl⟩

theorem drop_cons (s : ByteArray) (k : Nat) (h : k < s.size) : s.data.toList.drop k = s[k] :: s.data.toList.drop (k + 1) := by
  rw [List.drop_eq_getElem_cons (by simpa using h)]; rfl

theorem RvAt.take {s : ByteArray} {a k : Nat} {p : List UInt8} (h : RvAt s a k p) (hk : k < s.size) : p ++ [s[k]] = (s.data.toList.drop a).take (k + 1 - a) := by
  have h1 := h.lo
  have e : k + 1 - a = (k - a) + 1 := by omega
  rw [e, List.take_succ_eq_append_getElem (by simp only [List.length_drop, Array.length_toList]; have : s.data.size = s.size := rfl; omega), ← h.left]
  congr 2
  simp only [List.getElem_drop, Array.getElem_toList, show a + (k - a) = k by omega]
  rfl

theorem RvAt.step {s : ByteArray} {a k : Nat} {p : List UInt8} (h : RvAt s a k p) (hk : k < s.size) (h5 : k < a + 5) (hb : 128 ≤ s[k].toNat) : RvAt s a (k + 1) (p ++ [s[k]]) := by
  have h1 := h.lo
  have h2 := h.len
  refine ⟨by omega, by omega, by omega, by simp; omega, ?_, h.take hk, ?_⟩
  · intro x hx
    rcases List.mem_append.1 hx with hx | hx
    · exact h.on x hx
    · simp at hx; subst hx; exact hb
  · rw [h.rv, drop_cons s k hk, rvFrom_on _ _ _ (by omega) hb]

theorem RvAt.none_end {s : ByteArray} {a k : Nat} {p : List UInt8} (h : RvAt s a k p) (he : s.size ≤ k ∨ a + 5 ≤ k) : Go.Proofs.YtihgkocfgjihhaaGreatDoor.rv (s.data.toList.drop a) = none := by
  rw [h.rv]
  rcases he with he | he
  · have : s.data.toList.drop k = [] := List.drop_eq_nil_of_le (by simpa using he)
    rw [this]; rfl
  · exact rvFrom_full _ _ (by have := h.len; omega)

theorem RvAt.no {s : ByteArray} {a k : Nat} {p : List UInt8} (h : RvAt s a k p) (hk : k < s.size) (h5 : k < a + 5) (hb : s[k].toNat < 128) (hv : 1000000000 < val (p ++ [s[k]]) ∨ (s[k] = 0 ∧ a < k)) :
    Go.Proofs.YtihgkocfgjihhaaGreatDoor.rv (s.data.toList.drop a) = none := by
  have h1 := h.lo
  have h2 := h.len
  rw [h.rv, drop_cons s k hk]
  refine rvFrom_no _ _ _ (by omega) hb ?_
  rcases hv with hv | ⟨hv, hk'⟩
  · exact Or.inl hv
  · exact Or.inr ⟨hv, by rintro rfl; simp at h2; omega⟩

theorem RvAt.yes {s : ByteArray} {a k : Nat} {p : List UInt8} (h : RvAt s a k p) (hk : k < s.size) (h5 : k < a + 5) (hb : s[k].toNat < 128) (hv : val (p ++ [s[k]]) ≤ 1000000000) (hz : ¬ (s[k] = 0 ∧ a < k)) :
    Go.Proofs.YtihgkocfgjihhaaGreatDoor.rv (s.data.toList.drop a) = some (val (p ++ [s[k]]), k + 1 - a) := by
  have h1 := h.lo
  have h2 := h.len
  rw [h.rv, drop_cons s k hk, rvFrom_yes _ _ _ (by omega) hb, show k + 1 - a = p.length + 1 by omega]
  rintro (h | ⟨h, h'⟩)
  · omega
  · exact hz ⟨h, by rcases Nat.lt_or_ge a k with q | q; exact q; exact absurd (List.eq_nil_of_length_eq_zero (by omega)) h'⟩

/-- the bounds of a round -/
theorem RvAt.bounds {s : ByteArray} {a k : Nat} {p : List UInt8} (h : RvAt s a k p) (h5 : k < a + 5) (b : Nat) : val p < 268435456 ∧ 1 ≤ 128 ^ (k - a) ∧ 128 ^ (k - a) ≤ 268435456 ∧ b % 128 * 128 ^ (k - a) ≤ 34091302912 := by
  have h1 := h.lo
  have h2 : 128 ^ (k - a) ≤ 128 ^ 4 := Nat.pow_le_pow_right (by omega) (by omega)
  have h3 : 0 < 128 ^ (k - a) := Nat.pow_pos (by omega)
  have h4 := val_lt p
  rw [h.len] at h4
  have h6 : b % 128 * 128 ^ (k - a) ≤ 127 * 128 ^ 4 := Nat.mul_le_mul (by omega) h2
  simp only [show (128 : Nat) ^ 4 = 268435456 from rfl] at h2 h6
  omega

theorem RvAt.val_step {s : ByteArray} {a k W : Nat} {p : List UInt8} (h : RvAt s a k p) (hW : W = 128 ^ (k - a)) (b : UInt8) : ((val (p ++ [b]) : Nat) : Int) = (val p : Int) + (b.toNat : Int) % 128 * (W : Int) := by
  rw [val_snoc, h.len, ← hW]
  simp

theorem RvAt.W_step {s : ByteArray} {a k W : Nat} {p : List UInt8} (h : RvAt s a k p) (hW : W = 128 ^ (k - a)) : W * 128 = 128 ^ (k + 1 - a) := by
  have := h.lo
  rw [hW, show k + 1 - a = (k - a) + 1 by omega, Nat.pow_succ]

theorem RvAt.same {s : ByteArray} {a k : Nat} {p : List UInt8} (h : RvAt s a k p) (hk : k < s.size) (hb : s[k].toNat < 128) : (vb (val (p ++ [s[k]])) = (s.extract a (k + 1)).toList) ↔ ¬ (s[k] = 0 ∧ a < k) := by
  rw [ByteArray.toList_eq, extract_eq, ← h.take hk, vb_val _ _ h.on hb]
  have h1 := h.lo
  have h2 := h.len
  constructor
  · rintro h3 ⟨h4, h5⟩
    exact h3 ⟨h4, by rintro rfl; simp at h2; omega⟩
  · rintro h3 ⟨h4, h5⟩
    exact h3 ⟨h4, by rcases Nat.lt_or_ge a k with q | q; exact q; exact absurd (List.eq_nil_of_length_eq_zero (by omega)) h5⟩
theorem RvAt.differs {s : ByteArray} {a k : Nat} {p : List UInt8} (h : RvAt s a k p) (hk : k < s.size) (hb : s[k].toNat < 128) (hn : (!vb (val (p ++ [s[k]])) == (s.extract a (k + 1)).toList) = true) : s[k] = 0 ∧ a < k := by
  simp only [Bool.not_eq_true', beq_eq_false_iff_ne, ne_eq] at hn
  exact Decidable.byContradiction fun h3 => hn ((h.same hk hb).2 h3)
theorem RvAt.meets {s : ByteArray} {a k : Nat} {p : List UInt8} (h : RvAt s a k p) (hk : k < s.size) (hb : s[k].toNat < 128) (hn : (!vb (val (p ++ [s[k]])) == (s.extract a (k + 1)).toList) = false) : ¬ (s[k] = 0 ∧ a < k) := by
  simp only [Bool.not_eq_false', beq_iff_eq] at hn
  exact (h.same hk hb).1 hn

theorem rvAns_none {a : Nat} {o : Option (Nat × Nat)} (h : o = none) : Ending.returned (.tuple #[.int .i64 0, .int .i64 0, .bool false]) = .returned (rvAns a o) := by subst h; rfl
theorem rvAns_some {a k n : Nat} {x y : Int} {o : Option (Nat × Nat)} (h : o = some (n, k + 1 - a)) (hk : a ≤ k) (hx : (n : Int) = x) (hy : (k : Int) + 1 = y) : Ending.returned (.tuple #[.int .i64 x, .int .i64 y, .bool true]) = .returned (rvAns a o) := by
  subst h hx hy
  simp only [rvAns]
  rw [show ((a + (k + 1 - a) : Nat) : Int) = (k : Int) + 1 by omega]
theorem zero_of_toNat {b : UInt8} (h : (b.toNat : Int) ≤ 0) : b = 0 := by
  apply UInt8.toNat_inj.1
  simp
  omega
theorem not_zero {b : UInt8} (h : ¬ (b.toNat : Int) ≤ 0) : b ≠ 0 := by
  rintro rfl
  simp at h
end Go.Proofs.YtihgkocfgjihhaaGreatDoor

namespace Go.Proofs.YtihgkocfgjihhaaGreatDoor
open Go.RowKit

/-- what was read as a number is just what would be written -/
theorem rvFrom_text {p l : List UInt8} {n c : Nat} (hp : ∀ x ∈ p, 128 ≤ x.toNat) (h : rvFrom p l = some (n, c)) : (vb n).length = c ∧ p ++ l = vb n ++ (p ++ l).drop c := by
  induction l generalizing p with
  | nil => simp [rvFrom] at h
  | cons b r ih =>
    rw [rvFrom] at h
    split at h
    · cases h
    · split at h
      · rename_i hb
        split at h
        · cases h
        · rename_i hv
          simp only [Option.some.injEq, Prod.mk.injEq] at h
          obtain ⟨rfl, rfl⟩ := h
          have e := (vb_val p b hp hb).2 (fun q => hv (Or.inr q))
          rw [e]
          have e2 : p ++ b :: r = (p ++ [b]) ++ r := by simp
          refine ⟨by simp, ?_⟩
          rw [e2, List.drop_left' (by simp)]
      · rename_i hb
        have := ih (p := p ++ [b]) (by
          intro x hx
          rcases List.mem_append.1 hx with hx | hx
          · exact hp x hx
          · simp at hx; subst hx; omega) h
        simpa using this
theorem rv_text {l : List UInt8} {n c : Nat} (h : rv l = some (n, c)) : (vb n).length = c ∧ l = vb n ++ l.drop c := by
  simpa using rvFrom_text (p := []) (by simp) h
theorem rv_bd {l : List UInt8} {n c : Nat} (h : rv l = some (n, c)) : n ≤ 1000000000 ∧ 0 < c ∧ c ≤ l.length := by
  have := rvFrom_some h
  simpa using this

/-- what is read of the bytes of an entry -/
def readE (l : List UInt8) : Option (Nat × EntD) := match l with
  | [] => none
  | h :: l1 => if h = 69 then
      match rv l1 with
      | none => none
      | some (i, m) => match rv (l1.drop m) with
        | none => none
        | some (t, m2) => match (l1.drop m).drop m2 with
          | [] => none
          | k :: r => if (entryOk ⟨t, k.toNat, ⟨r.toArray⟩⟩ && within i 1 1000000) = true then some (i, ⟨t, k.toNat, ⟨r.toArray⟩⟩) else none
    else none

def readEntry (s : ByteArray) : Option (Nat × EntD) := readE s.data.toList
/-- what both readers answer -/
def reAns : Option (Nat × EntD) → Value
  | none => .tuple #[.int .i64 0, .agg #[.int .i64 0, .int .i64 0, .string ByteArray.empty], .bool false]
  | some (i, e) => .tuple #[.int .i64 i, .agg #[.int .i64 e.term, .int .i64 e.kind, .string e.data], .bool true]

theorem list_at (s : ByteArray) (k : Nat) (h : k < s.size) : s.data.toList.drop k = s[k] :: s.data.toList.drop (k + 1) := drop_cons s k h
theorem list_head (s : ByteArray) (h : 0 < s.size) : s.data.toList = s[0] :: s.data.toList.drop 1 := by
  have := drop_cons s 0 h
  simpa using this

theorem readE_empty {s : ByteArray} (h : s.size = 0) : readEntry s = none := by
  have : s.data.toList = [] := List.eq_nil_of_length_eq_zero (by simpa using h)
  rw [readEntry, this, readE]
theorem readE_head {s : ByteArray} (h : 0 < s.size) (h0 : s[0] ≠ 69) : readEntry s = none := by
  rw [readEntry, list_head s h, readE, if_neg h0]
theorem readE_one {s : ByteArray} (h1 : rv (s.data.toList.drop 1) = none) : readEntry s = none := by
  rcases Nat.eq_zero_or_pos s.size with q | q
  · exact readE_empty q
  · by_cases h0 : s[0] = 69
    · rw [readEntry, list_head s q, readE, if_pos h0, h1]
    · exact readE_head q h0
theorem readE_two {s : ByteArray} {i m : Nat} (h1 : rv (s.data.toList.drop 1) = some (i, m)) (h2 : rv (s.data.toList.drop (1 + m)) = none) : readEntry s = none := by
  rcases Nat.eq_zero_or_pos s.size with q | q
  · exact readE_empty q
  · by_cases h0 : s[0] = 69
    · rw [readEntry, list_head s q, readE, if_pos h0, h1]
      simp only
      rw [List.drop_drop, h2]
    · exact readE_head q h0
theorem readE_end {s : ByteArray} {i m t c : Nat} (h1 : rv (s.data.toList.drop 1) = some (i, m)) (h2 : rv (s.data.toList.drop (1 + m)) = some (t, c)) (h3 : s.size ≤ 1 + m + c) : readEntry s = none := by
  rcases Nat.eq_zero_or_pos s.size with q | q
  · exact readE_empty q
  · by_cases h0 : s[0] = 69
    · rw [readEntry, list_head s q, readE, if_pos h0, h1]
      simp only
      rw [List.drop_drop, h2]
      simp only
      rw [List.drop_drop, List.drop_eq_nil_of_le (by simp; omega)]
    · exact readE_head q h0
/-- the data behind a place -/
theorem data_from (s : ByteArray) (k : Nat) : (⟨(s.data.toList.drop k).toArray⟩ : ByteArray) = s.extract k s.size := by
  apply ByteArray.ext
  apply Array.toList_inj.1
  rw [extract_eq, List.take_of_length_le (by simp)]
theorem readE_go {s : ByteArray} {i m t c : Nat} (q : 0 < s.size) (h0 : s[0] = 69) (h1 : rv (s.data.toList.drop 1) = some (i, m)) (h2 : rv (s.data.toList.drop (1 + m)) = some (t, c)) (h3 : 1 + m + c < s.size) :
    readEntry s = if (entryOk ⟨t, s[1 + m + c].toNat, s.extract (1 + m + c + 1) s.size⟩ && within i 1 1000000) = true then some (i, ⟨t, s[1 + m + c].toNat, s.extract (1 + m + c + 1) s.size⟩) else none := by
  rw [readEntry, list_head s q, readE, if_pos h0, h1]
  simp only
  rw [List.drop_drop, h2]
  simp only
  rw [List.drop_drop, list_at s _ h3]
  simp only [data_from]

theorem readE_at {s : ByteArray} {i m t c a : Nat} (q : 0 < s.size) (h0 : s[0] = 69) (h1 : rv (s.data.toList.drop 1) = some (i, m)) (h2 : rv (s.data.toList.drop (1 + m)) = some (t, c)) (ha : 1 + m + c = a) (h3 : a < s.size) :
    readEntry s = if (entryOk ⟨t, s[a].toNat, s.extract (a + 1) s.size⟩ && within i 1 1000000) = true then some (i, ⟨t, s[a].toNat, s.extract (a + 1) s.size⟩) else none := by
  subst ha
  exact readE_go q h0 h1 h2 h3
theorem readE_index {s : ByteArray} {i m : Nat} (h1 : rv (s.data.toList.drop 1) = some (i, m)) (hi : within i 1 1000000 = false) : readEntry s = none := by
  rcases Nat.eq_zero_or_pos s.size with q | q
  · exact readE_empty q
  · by_cases h0 : s[0] = 69
    · cases h2 : rv (s.data.toList.drop (1 + m)) with
      | none => exact readE_two h1 h2
      | some p =>
        obtain ⟨t, c⟩ := p
        by_cases h3 : s.size ≤ 1 + m + c
        · exact readE_end h1 h2 h3
        · rw [readE_go q h0 h1 h2 (by omega), if_neg (by simp [hi])]
    · exact readE_head q h0

/-- the whole text, out of what was read of it -/
theorem text_read {s : ByteArray} {i m t c : Nat} (q : 0 < s.size) (h1 : rv (s.data.toList.drop 1) = some (i, m)) (h2 : rv (s.data.toList.drop (1 + m)) = some (t, c)) (h3 : 1 + m + c < s.size) :
    s.data.toList = s[0] :: (vb i ++ (vb t ++ (s[1 + m + c] :: (s.extract (1 + m + c + 1) s.size).data.toList))) := by
  have e1 := (rv_text h1).2
  have e2 := (rv_text h2).2
  rw [List.drop_drop] at e1 e2
  rw [list_at s _ h3] at e2
  rw [e2] at e1
  have e0 := list_head s q
  rw [e1] at e0
  rw [e0]
  congr 4
  rw [extract_eq, List.take_of_length_le (by simp)]
theorem entText_list (i : Int) (e : EntD) : (entText i e).data.toList = 69 :: (vb i.toNat ++ (vb e.term.toNat ++ (UInt8.ofNat e.kind.toNat :: e.data.data.toList))) := by
  simp [entText, ByteArray.data_append]
/-- what is written of what was read is the text itself, just when it begins as an entry does -/
theorem back_same {s : ByteArray} {i m t c : Nat} (q : 0 < s.size) (h1 : rv (s.data.toList.drop 1) = some (i, m)) (h2 : rv (s.data.toList.drop (1 + m)) = some (t, c)) (h3 : 1 + m + c < s.size) :
    ((entText i ⟨t, s[1 + m + c].toNat, s.extract (1 + m + c + 1) s.size⟩).toList == s.toList) = decide (s[0] = 69) := by
  rw [ByteArray.toList_eq, ByteArray.toList_eq, entText_list, text_read q h1 h2 h3]
  simp only [Int.toNat_natCast, UInt8.ofNat_toNat]
  by_cases h : s[0] = 69
  · simp [h]
  · have h' : ¬ (69 : UInt8) = s[0] := fun x => h x.symm
    simp [h, h']
end Go.Proofs.YtihgkocfgjihhaaGreatDoor

namespace Go.Proofs.YtihgkocfgjihhaaGreatDoor
open Go.RowKit

/-- where a short text that is read at a begins and ends -/
def rs (s : ByteArray) (a : Int) : Option (Nat × Nat) :=
  if 0 ≤ a ∧ a ≤ s.size then
    (match rv (s.data.toList.drop a.toNat) with
    | none => none
    | some (n, c) => if n ≤ 20000 ∧ a.toNat + c + n ≤ s.size then some (a.toNat + c, a.toNat + c + n) else none)
  else none

def rsAns (s : ByteArray) : Option (Nat × Nat) → Value
  | none => .tuple #[.string ByteArray.empty, .int .i64 0, .bool false]
  | some (b, e) => .tuple #[.string (s.extract b e), .int .i64 e, .bool true]

theorem rs_out {s : ByteArray} {a : Int} (h : a < 0 ∨ (s.size : Int) < a) : rs s a = none := by
  unfold rs; rw [if_neg (by omega)]
theorem rs_none {s : ByteArray} {a : Nat} (ha : a ≤ s.size) (h : rv (s.data.toList.drop a) = none) : rs s a = none := by
  unfold rs; rw [if_pos (by omega)]; simp [h]
theorem rs_big {s : ByteArray} {a n c : Nat} (ha : a ≤ s.size) (h : rv (s.data.toList.drop a) = some (n, c)) (hb : ¬ (n ≤ 20000 ∧ a + c + n ≤ s.size)) : rs s a = none := by
  unfold rs; rw [if_pos (by omega)]; simp only [Int.toNat_natCast, h]; rw [if_neg hb]
theorem rs_yes {s : ByteArray} {a n c : Nat} (ha : a ≤ s.size) (h : rv (s.data.toList.drop a) = some (n, c)) (hb : n ≤ 20000 ∧ a + c + n ≤ s.size) : rs s a = some (a + c, a + c + n) := by
  unfold rs; rw [if_pos (by omega)]; simp only [Int.toNat_natCast, h]; rw [if_pos hb]
theorem rv_fits {s : ByteArray} {a n c : Nat} (ha : a ≤ s.size) (h : rv (s.data.toList.drop a) = some (n, c)) : n ≤ 1000000000 ∧ 0 < c ∧ a + c ≤ s.size := by
  have h1 := rvFrom_some h
  have h2 : s.data.toList.length = s.size := by simp
  simp only [List.length_drop, List.length_nil, h2] at h1
  omega
end Go.Proofs.YtihgkocfgjihhaaGreatDoor

namespace Go.Proofs.YtihgkocfgjihhaaGreatDoor
open Go.RowKit

/-- one of the eight steps -/
def half (x : Nat) : Nat := if x % 2 = 1 then x / 2 ^^^ 3558460437 else x / 2

theorem half_lt {x : Nat} (h : x < 4294967296) : half x < 4294967296 := by
  unfold half
  split
  · exact Nat.xor_lt_two_pow (n := 32) (by omega) (by omega)
  · omega

theorem top_bit {a : Nat} (h : a < 2147483648) : 2147483648 ≤ a ^^^ 3558460437 := by
  have h1 : (a ^^^ 3558460437).testBit 31 = true := by
    rw [Nat.testBit_xor, Nat.testBit_lt_two_pow (x := a) (i := 31) (by omega)]
    decide
  exact Nat.ge_two_pow_of_testBit h1

theorem xor_cancel {a b c : Nat} (h : a ^^^ c = b ^^^ c) : a = b := by
  have := congrArg (· ^^^ c) h
  simpa [Nat.xor_assoc] using this

theorem half_inj {x y : Nat} (hx : x < 4294967296) (hy : y < 4294967296) (h : half x = half y) : x = y := by
  unfold half at h
  have tx := top_bit (a := x / 2) (by omega)
  have ty := top_bit (a := y / 2) (by omega)
  split at h <;> split at h
  · have := xor_cancel h; omega
  · omega
  · omega
  · omega

/-- k steps -/
def hsN : Nat → Nat → Nat
  | 0, x => x
  | k + 1, x => half (hsN k x)

theorem hsN_lt (k : Nat) {x : Nat} (h : x < 4294967296) : hsN k x < 4294967296 := by
  induction k with
  | zero => exact h
  | succ k ih => exact half_lt ih
theorem hsN_inj (k : Nat) {x y : Nat} (hx : x < 4294967296) (hy : y < 4294967296) (h : hsN k x = hsN k y) : x = y := by
  induction k with
  | zero => exact h
  | succ k ih => exact ih (half_inj (hsN_lt k hx) (hsN_lt k hy) h)

/-- a sum and one byte more -/
def crc1 (s : Nat) (b : UInt8) : Nat := hsN 8 (s ^^^ b.toNat)

theorem xb_lt {s : Nat} (h : s < 4294967296) (b : UInt8) : s ^^^ b.toNat < 4294967296 := Nat.xor_lt_two_pow (n := 32) (by omega) (by have := b.toNat_lt; omega)
theorem crc1_lt {s : Nat} (h : s < 4294967296) (b : UInt8) : crc1 s b < 4294967296 := hsN_lt 8 (xb_lt h b)
theorem crc1_inj {s t : Nat} (hs : s < 4294967296) (ht : t < 4294967296) {b : UInt8} (h : crc1 s b = crc1 t b) : s = t :=
  xor_cancel (hsN_inj 8 (xb_lt hs b) (xb_lt ht b) h)
theorem crc1_byte {s : Nat} (hs : s < 4294967296) {b c : UInt8} (h : crc1 s b = crc1 s c) : b = c := by
  have h1 := hsN_inj 8 (xb_lt hs b) (xb_lt hs c) h
  rw [Nat.xor_comm s, Nat.xor_comm s] at h1
  exact UInt8.toNat_inj.1 (xor_cancel h1)

/-- a sum and more bytes -/
def crc (s : Nat) (l : List UInt8) : Nat := l.foldl crc1 s

theorem crc_append (s : Nat) (l r : List UInt8) : crc s (l ++ r) = crc (crc s l) r := by simp [crc]
theorem crc_snoc (s : Nat) (l : List UInt8) (b : UInt8) : crc s (l ++ [b]) = crc1 (crc s l) b := by simp [crc]
theorem crc_lt {s : Nat} (h : s < 4294967296) (l : List UInt8) : crc s l < 4294967296 := by
  induction l generalizing s with
  | nil => exact h
  | cons b l ih => exact ih (crc1_lt h b)
theorem crc_inj {s t : Nat} (hs : s < 4294967296) (ht : t < 4294967296) (l : List UInt8) (h : crc s l = crc t l) : s = t := by
  induction l generalizing s t with
  | nil => exact h
  | cons b l ih => exact crc1_inj hs ht (ih (crc1_lt hs b) (crc1_lt ht b) h)
/-- one byte turned turns the sum -/
theorem crc_turned {s : Nat} (hs : s < 4294967296) (p q : List UInt8) {b c : UInt8} (h : crc s (p ++ b :: q) = crc s (p ++ c :: q)) : b = c := by
  rw [crc_append, crc_append] at h
  have hp := crc_lt hs p
  have h1 : crc (crc1 (crc s p) b) q = crc (crc1 (crc s p) c) q := h
  exact crc1_byte hp (crc_inj (crc1_lt hp b) (crc1_lt hp c) q h1)

/-- a sum in four bytes, the highest first -/
def four (x : Nat) : List UInt8 := [UInt8.ofNat (x / 16777216), UInt8.ofNat (x / 65536), UInt8.ofNat (x / 256), UInt8.ofNat x]
theorem four_length (x : Nat) : (four x).length = 4 := rfl
theorem four_inj {x y : Nat} (hx : x < 4294967296) (hy : y < 4294967296) (h : four x = four y) : x = y := by
  simp only [four, List.cons.injEq, and_true] at h
  obtain ⟨h1, h2, h3, h4⟩ := h
  have e1 := congrArg UInt8.toNat h1
  have e2 := congrArg UInt8.toNat h2
  have e3 := congrArg UInt8.toNat h3
  have e4 := congrArg UInt8.toNat h4
  simp only [UInt8.toNat_ofNat'] at e1 e2 e3 e4
  omega

def sumOf (l : List UInt8) : Nat := crc 4294967295 l
theorem sumOf_lt (l : List UInt8) : sumOf l < 4294967296 := crc_lt (by omega) l

/-- a sealed text with one byte turned is the sealed text of none of its length -/
theorem seal_turned (l m : List UInt8) (p q : List UInt8) (b c : UInt8) (h1 : l ++ four (sumOf l) = p ++ b :: q) (h2 : m ++ four (sumOf m) = p ++ c :: q) : b = c := by
  have hlen : l.length = m.length := by
    have e1 := congrArg List.length h1
    have e2 := congrArg List.length h2
    simp only [List.length_append, List.length_cons, four_length] at e1 e2
    omega
  have tl : l = (p ++ b :: q).take l.length := by rw [← h1, List.take_left]
  have tm : m = (p ++ c :: q).take l.length := by rw [← h2, hlen, List.take_left]
  have dl : four (sumOf l) = (p ++ b :: q).drop l.length := by rw [← h1, List.drop_left]
  have dm : four (sumOf m) = (p ++ c :: q).drop l.length := by rw [← h2, hlen, List.drop_left]
  rw [List.take_append] at tl tm
  rw [List.drop_append] at dl dm
  rcases Nat.lt_or_ge p.length l.length with hp | hp
  · -- the byte lies in the text: the sums' bytes are alike
    obtain ⟨k, hk⟩ : ∃ k, l.length - p.length = k + 1 := ⟨l.length - p.length - 1, by omega⟩
    rw [hk, List.take_of_length_le (by omega), List.take_succ_cons] at tl tm
    rw [hk, List.drop_of_length_le (by omega), List.drop_succ_cons] at dl dm
    have hs := four_inj (sumOf_lt l) (sumOf_lt m) (dl.trans dm.symm)
    rw [tl, tm] at hs
    exact crc_turned (by omega) p (q.take k) hs
  · -- the byte lies in the sum: the texts are alike
    have hk : l.length - p.length = 0 := by omega
    rw [hk, List.take_zero, List.append_nil] at tl tm
    have e : l = m := tl.trans tm.symm
    have h3 : p ++ b :: q = p ++ c :: q := by rw [← h1, ← h2, e]
    have h4 := List.append_cancel_left h3
    simp only [List.cons.injEq] at h4
    exact h4.1

/-- a text that is sealed -/
def Uns (s : ByteArray) : Prop := 4 ≤ s.size ∧ s.size ≤ 20004 ∧ s.data.toList.drop (s.size - 4) = four (sumOf (s.data.toList.take (s.size - 4)))

theorem slice_from {P : Program} {t : TypeId} (h : P.underlying t = some .string) (s : ByteArray) (a : Nat) (x : Int) (hx : x = a) (ha : a ≤ s.size) (w : World) :
    (Instr.slice t (.string s) (some (.int .i64 x)) none none).run P w = .ok (.string (s.extract a s.size)) w := by
  subst hx
  rw [run_slice_string_l w t s h .i64 a (by omega) (by omega)]
  simp
theorem slice_upto {P : Program} {t : TypeId} (h : P.underlying t = some .string) (s : ByteArray) (a : Nat) (x : Int) (hx : x = a) (ha : a ≤ s.size) (w : World) :
    (Instr.slice t (.string s) none (some (.int .i64 x)) none).run P w = .ok (.string (s.extract 0 a)) w := by
  subst hx
  rw [run_slice_string_h w t s h .i64 a (by omega) (by omega)]
  simp

theorem head_list (s : ByteArray) (a : Nat) : (s.extract 0 a).data.toList = s.data.toList.take a := by rw [extract_eq]; simp
theorem tail_list (s : ByteArray) (a : Nat) : (s.extract a s.size).data.toList = s.data.toList.drop a := by
  rw [extract_eq, List.take_of_length_le (by simp)]

theorem uns_same {s : ByteArray} (h4 : 4 ≤ s.size) (h2 : s.size ≤ 20004) : (s.extract (s.size - 4) s.size).toList = four (sumOf (s.extract 0 (s.size - 4)).data.toList) ↔ Uns s := by
  rw [ByteArray.toList_eq, tail_list s _, head_list]
  exact ⟨fun h => ⟨h4, h2, h⟩, fun h => h.2.2⟩
end Go.Proofs.YtihgkocfgjihhaaGreatDoor

namespace Go.Proofs.YtihgkocfgjihhaaGreatDoor
open Go.RowKit

/-- the sealed text -/
def sealOf (s : ByteArray) : ByteArray := s ++ ⟨(four (sumOf s.data.toList)).toArray⟩

theorem sealOf_list (s : ByteArray) : (sealOf s).data.toList = s.data.toList ++ four (sumOf s.data.toList) := by
  rw [sealOf, ByteArray.data_append, Array.toList_append]
theorem sealOf_size (s : ByteArray) : (sealOf s).size = s.size + 4 := by
  rw [sealOf, ByteArray.size_append]
  rfl
theorem sealOf_uns {s : ByteArray} (h : s.size ≤ 20000) : Uns (sealOf s) := by
  refine ⟨by rw [sealOf_size]; omega, by rw [sealOf_size]; omega, ?_⟩
  have e : (sealOf s).size - 4 = s.data.toList.length := by rw [sealOf_size]; simp
  rw [e, sealOf_list, List.take_left, List.drop_left]
theorem sealOf_head (s : ByteArray) : (sealOf s).extract 0 ((sealOf s).size - 4) = s := by
  apply ByteArray.ext
  apply Array.toList_inj.1
  have e : (sealOf s).size - 4 = s.data.toList.length := by rw [sealOf_size]; simp
  rw [head_list, e, sealOf_list, List.take_left]

/-- a sealed text with one byte turned is none -/
theorem turned_not {s t : ByteArray} {k : Nat} {b : UInt8} (hk : k < (sealOf s).size) (hb : b ≠ (sealOf s).data.toList[k]'(by simpa using hk)) (ht : t.data.toList = (sealOf s).data.toList.set k b) : ¬ Uns t := by
  intro h
  have hkl : k < (sealOf s).data.toList.length := by simpa using hk
  obtain ⟨L, hL⟩ : ∃ L, (sealOf s).data.toList = L := ⟨_, rfl⟩
  have h1 := sealOf_list s
  simp only [hL] at hb hkl ht h1
  obtain ⟨_, _, h3⟩ := h
  have h4 := List.take_append_drop (t.size - 4) t.data.toList
  rw [h3] at h4
  refine hb ?_
  refine (seal_turned s.data.toList (t.data.toList.take (t.size - 4)) (L.take k) (L.drop (k + 1)) L[k] b ?_ ?_).symm
  · rw [← h1]
    rw [List.getElem_cons_drop hkl, List.take_append_drop]
  · rw [h4, ht, List.set_eq_take_append_cons_drop, if_pos hkl]

/-- with one byte turned it is no sealed text -/
def TurnsNot (Q : ByteArray) : Prop := ∀ (t : ByteArray) (k : Nat) (b : UInt8) (hk : k < Q.size), b ≠ Q[k] → t.data.toList = Q.data.toList.set k b → ¬ Uns t
theorem sealOf_turns (s : ByteArray) : TurnsNot (sealOf s) := fun _ _ _ hk hb ht => turned_not hk (fun h => hb (h.trans rfl)) ht
end Go.Proofs.YtihgkocfgjihhaaGreatDoor

namespace Go.Proofs.YtihgkocfgjihhaaGreatDoor
open Go.RowKit

/-- a snapshot: its index, its term, its conf, its body -/
abbrev snapV (ix tm : Int) (v : Value) (bd : ByteArray) : Value := .agg #[.int .i64 ix, .int .i64 tm, v, .string bd]
/-- a short text with its length ahead -/
def shortT (s : ByteArray) : ByteArray := ⟨(vb s.size).toArray⟩ ++ s
/-- what is sealed of a snapshot -/
def snapIn (ix tm : Nat) (zs : List Int) (bd : ByteArray) : ByteArray := ⟨(vb ix).toArray⟩ ++ ⟨(vb tm).toArray⟩ ++ shortT ⟨(confBytes zs).toArray⟩ ++ shortT bd
def snapOk (ix tm : Int) (zs : List Int) (bd : ByteArray) : Bool := confOk zs && (within ix 0 1000000 && within tm 0 100000) && decide ((snapIn ix.toNat tm.toNat zs bd).size ≤ 19996)
def snapText (ix tm : Int) (zs : List Int) (bd : ByteArray) : ByteArray × Bool := if snapOk ix tm zs bd = true then (sealOf (snapIn ix.toNat tm.toNat zs bd), true) else (ByteArray.empty, false)

theorem snapOk_iff {ix tm : Int} {zs : List Int} {bd : ByteArray} : snapOk ix tm zs bd = true ↔ confOk zs = true ∧ ((0 ≤ ix ∧ ix ≤ 1000000) ∧ (0 ≤ tm ∧ tm ≤ 100000)) ∧ (snapIn ix.toNat tm.toNat zs bd).size ≤ 19996 := by
  simp only [snapOk, Bool.and_eq_true, within_iff, decide_eq_true_eq, and_assoc]
theorem snapText_no {ix tm : Int} {zs : List Int} {bd : ByteArray} (h : ¬ snapOk ix tm zs bd = true) : snapText ix tm zs bd = (ByteArray.empty, false) := by rw [snapText, if_neg h]
theorem snapText_yes {ix tm : Int} {zs : List Int} {bd : ByteArray} (h : snapOk ix tm zs bd = true) : snapText ix tm zs bd = (sealOf (snapIn ix.toNat tm.toNat zs bd), true) := by rw [snapText, if_pos h]
theorem shortT_size (s : ByteArray) : (shortT s).size = (vb s.size).length + s.size := by
  rw [shortT, ByteArray.size_append]
  rfl
theorem snapIn_size (ix tm : Nat) (zs : List Int) (bd : ByteArray) : (snapIn ix tm zs bd).size = (vb ix).length + (vb tm).length + (shortT ⟨(confBytes zs).toArray⟩).size + (shortT bd).size := by
  rw [snapIn, ByteArray.size_append, ByteArray.size_append, ByteArray.size_append]
  rfl
theorem snapText_conf {ix tm : Int} {zs : List Int} {bd : ByteArray} (h : confOk zs = false) : snapText ix tm zs bd = (ByteArray.empty, false) := snapText_no (by rw [snapOk_iff, h]; simp)
theorem snapText_ix {ix tm : Int} {zs : List Int} {bd : ByteArray} (h : within ix 0 1000000 = false) : snapText ix tm zs bd = (ByteArray.empty, false) := snapText_no (by rw [snapOk, h]; simp)
theorem snapText_tm {ix tm : Int} {zs : List Int} {bd : ByteArray} (h : within tm 0 100000 = false) : snapText ix tm zs bd = (ByteArray.empty, false) := snapText_no (by rw [snapOk, h]; simp)
theorem snapText_big {ix tm : Int} {zs : List Int} {bd : ByteArray} (h : 20000 < bd.size) : snapText ix tm zs bd = (ByteArray.empty, false) := snapText_no (by
  rw [snapOk_iff]
  rintro ⟨_, _, h3⟩
  rw [snapIn_size, shortT_size bd] at h3
  omega)
theorem snapText_long {ix tm : Int} {zs : List Int} {bd : ByteArray} (h : 19996 < (snapIn ix.toNat tm.toNat zs bd).size) : snapText ix tm zs bd = (ByteArray.empty, false) := snapText_no (by
  rw [snapOk_iff]
  rintro ⟨_, _, h3⟩
  omega)
theorem vb_short {n : Nat} (h : n ≤ 1000000) : (vb n).length ≤ 3 := by
  rcases Nat.lt_or_ge 127 n with h1 | h1
  · rw [vb_big h1]
    rcases Nat.lt_or_ge 127 (n / 128) with h2 | h2
    · rw [vb_big h2, vb_small (show n / 128 / 128 ≤ 127 by omega)]
      simp
    · rw [vb_small h2]
      simp
  · rw [vb_small h1]
    simp
theorem confBytes_size (zs : List Int) : (⟨(confBytes zs).toArray⟩ : ByteArray).size = zs.length := by
  show (confBytes zs).toArray.size = _
  rw [List.size_toArray, confBytes_length]
/-- how long what is sealed is, at the most -/
theorem snapIn_le {ix tm : Nat} {zs : List Int} {bd : ByteArray} (h1 : ix ≤ 1000000) (h2 : tm ≤ 1000000) (h3 : zs.length ≤ 1000000) (h4 : bd.size ≤ 1000000) : (snapIn ix tm zs bd).size ≤ 12 + zs.length + bd.size := by
  rw [snapIn_size, shortT_size, shortT_size, confBytes_size]
  have a := vb_short h1
  have b := vb_short h2
  have c := vb_short h3
  have d := vb_short h4
  omega
end Go.Proofs.YtihgkocfgjihhaaGreatDoor

namespace Go.Proofs.YtihgkocfgjihhaaGreatDoor
open Go.RowKit

structure SnapD where
  ix : Nat
  tm : Nat
  conf : List Int
  body : ByteArray

/-- what is read of what was sealed -/
def readSnapIn (t : ByteArray) : Option SnapD :=
  match rv (t.data.toList.drop 0) with
  | none => none
  | some (ix, c1) => if 1000000 < ix then none else
    match rv (t.data.toList.drop c1) with
    | none => none
    | some (tm, c2) => if 100000 < tm then none else
      match rs t ((c1 + c2 : Nat) : Int) with
      | none => none
      | some (a, b) => if confOk (intsOf (t.extract a b).data.toList) = true then
          match rs t (b : Int) with
          | none => none
          | some (a', b') => if b' = t.size then some ⟨ix, tm, intsOf (t.extract a b).data.toList, t.extract a' b'⟩ else none
        else none
/-- a text that is sealed, and no longer than a text may be -/
def snapSealed (s : ByteArray) : Bool := decide (4 ≤ s.size ∧ s.size ≤ 20000 ∧ s.data.toList.drop (s.size - 4) = four (sumOf (s.data.toList.take (s.size - 4))))
theorem snapSealed_iff {s : ByteArray} : snapSealed s = true ↔ Uns s ∧ s.size ≤ 20000 := by
  rw [snapSealed, decide_eq_true_eq, Uns]
  constructor
  · rintro ⟨h1, h2, h3⟩
    exact ⟨⟨h1, by omega, h3⟩, h2⟩
  · rintro ⟨⟨h1, _, h3⟩, h2⟩
    exact ⟨h1, h2, h3⟩
def readSnap (s : ByteArray) : Option SnapD := if snapSealed s = true then readSnapIn (s.extract 0 (s.size - 4)) else none

def takeStN (s : ByteArray) (n : Nat) : Option Nat → Option Nat
  | none => none
  | some k => if k + n ≤ s.size then some (k + n) else none
def takeTxtN (s : ByteArray) (n : Nat) : Option Nat → ByteArray
  | none => ByteArray.empty
  | some k => if k + n ≤ s.size then s.extract k (k + n) else ByteArray.empty
def varSt' (s : ByteArray) : Option Nat → Option Nat
  | none => none
  | some k => (rv (s.data.toList.drop k)).map fun p => k + p.2
def varNum' (s : ByteArray) : Option Nat → Nat
  | none => 0
  | some k => match rv (s.data.toList.drop k) with
    | none => 0
    | some p => p.1
def shortSt (s : ByteArray) (o : Option Nat) : Option Nat := takeStN s (varNum' s o) (varSt' s o)
def shortTxt (s : ByteArray) (o : Option Nat) : ByteArray := takeTxtN s (varNum' s o) (varSt' s o)

/-- the other way: all is read, and held against what would be written -/
def askSnapIn (text t : ByteArray) (o : Option Nat) : Option SnapD :=
  let o1 := varSt' t o
  let o2 := varSt' t o1
  let o3 := shortSt t o2
  let o4 := shortSt t o3
  let c := (readConf (shortTxt t o2)).1
  let bd := shortTxt t o3
  if o4.isSome = true ∧ snapOk (varNum' t o) (varNum' t o1) c bd = true ∧ sealOf (snapIn (varNum' t o) (varNum' t o1) c bd) = text then some ⟨varNum' t o, varNum' t o1, c, bd⟩ else none

theorem varSt'_none (s : ByteArray) : varSt' s none = none := rfl
theorem shortSt_none (s : ByteArray) : shortSt s none = none := rfl
theorem ask_none (text t : ByteArray) : askSnapIn text t none = none := by
  unfold askSnapIn
  simp [varSt', shortSt, takeStN]

theorem short_read {s : ByteArray} {k : Nat} (hk : k ≤ s.size) (hs : s.size ≤ 20000) : rs s (k : Int) = (match shortSt s (some k) with | none => none | some e => some (e - (shortTxt s (some k)).size, e)) ∧
    ∀ a b, rs s (k : Int) = some (a, b) → shortSt s (some k) = some b ∧ shortTxt s (some k) = s.extract a b ∧ a ≤ b ∧ b ≤ s.size ∧ k ≤ a ∧ s.data.toList.drop k = (shortT (s.extract a b)).data.toList ++ s.data.toList.drop b := by
  cases h : rv (s.data.toList.drop k) with
  | none =>
    rw [rs_none hk h]
    refine ⟨by simp [shortSt, varSt', h, takeStN], fun a b e => by cases e⟩
  | some p =>
    obtain ⟨n, c⟩ := p
    have hf := rv_fits hk h
    have e1 : shortSt s (some k) = if k + c + n ≤ s.size then some (k + c + n) else none := by simp [shortSt, varSt', varNum', h, takeStN]
    have e2 : shortTxt s (some k) = if k + c + n ≤ s.size then s.extract (k + c) (k + c + n) else ByteArray.empty := by simp [shortTxt, varSt', varNum', h, takeTxtN]
    by_cases hb : k + c + n ≤ s.size
    · rw [rs_yes hk h ⟨by omega, hb⟩, e1, e2, if_pos hb, if_pos hb]
      have hz : (s.extract (k + c) (k + c + n)).size = n := by rw [ByteArray.size_extract]; omega
      refine ⟨by simp only [hz]; congr 2; omega, ?_⟩
      rintro a b e
      simp only [Option.some.injEq, Prod.mk.injEq] at e
      obtain ⟨rfl, rfl⟩ := e
      refine ⟨rfl, rfl, by omega, hb, by omega, ?_⟩
      obtain ⟨l1, l2⟩ := rv_text h
      rw [List.drop_drop] at l2
      rw [shortT, hz, ByteArray.data_append, Array.toList_append, List.append_assoc]
      show _ = vb n ++ _
      conv => lhs; rw [l2]
      congr 1
      rw [extract_eq, show k + c + n - (k + c) = n by omega]
      conv => lhs; rw [← List.take_append_drop n (s.data.toList.drop (k + c))]
      rw [List.drop_drop]
    · rw [rs_big hk h (by omega), e1, if_neg hb]
      exact ⟨rfl, fun a b e => by cases e⟩

theorem extract_all {s : ByteArray} (h : Uns s) : sealOf (s.extract 0 (s.size - 4)) = s := by
  apply ByteArray.ext
  apply Array.toList_inj.1
  rw [sealOf_list, head_list, ← h.2.2, List.take_append_drop]
theorem sealOf_inj {a b : ByteArray} (h : sealOf a = sealOf b) : a = b := by
  have h1 := sealOf_head a
  have h2 := sealOf_head b
  rw [h] at h1
  exact h1.symm.trans h2

theorem conf_back (s : ByteArray) : (⟨(confBytes (intsOf s.data.toList)).toArray⟩ : ByteArray) = s := by
  have : confBytes (intsOf s.data.toList) = s.data.toList := by
    simp only [confBytes, intsOf, List.map_map]
    conv => rhs; rw [← List.map_id s.data.toList]
    apply List.map_congr_left
    intro b _
    simp
  rw [this]

/-- both ways are one -/
theorem ask_read {text : ByteArray} (hu : Uns text) (h2 : text.size ≤ 20000) : askSnapIn text (text.extract 0 (text.size - 4)) (some 0) = readSnapIn (text.extract 0 (text.size - 4)) := by
  have hts : (text.extract 0 (text.size - 4)).size = text.size - 4 := by rw [ByteArray.size_extract]; have := hu.1; omega
  have hall := extract_all hu
  obtain ⟨t, ht⟩ : ∃ t, text.extract 0 (text.size - 4) = t := ⟨_, rfl⟩
  rw [ht] at hts hall ⊢
  have hl : t.data.toList.length = t.size := by simp
  unfold readSnapIn
  cases h1 : rv (t.data.toList.drop 0) with
  | none =>
    have o1 : varSt' t (some 0) = none := by rw [varSt', h1]; rfl
    simp only [askSnapIn, o1, varSt'_none, shortSt_none]
    rw [if_neg (by simp)]
  | some p1 =>
    obtain ⟨ix, c1⟩ := p1
    dsimp only
    have f1 := rv_fits (Nat.zero_le _) h1
    obtain ⟨_, x1⟩ := rv_text h1
    rw [List.drop_drop, Nat.zero_add] at x1
    have o1 : varSt' t (some 0) = some c1 := by rw [varSt', h1]; simp
    have n1 : varNum' t (some 0) = ix := by rw [varNum', h1]
    cases h3 : rv (t.data.toList.drop c1) with
    | none =>
      have o2 : varSt' t (some c1) = none := by rw [varSt', h3]; rfl
      simp only [askSnapIn, o1, n1, o2, shortSt_none]
      refine (if_neg (by simp)).trans ?_
      split <;> rfl
    | some p2 =>
      obtain ⟨tm, c2⟩ := p2
      dsimp only
      have f2 := rv_fits (show c1 ≤ t.size by omega) h3
      obtain ⟨_, x2⟩ := rv_text h3
      rw [List.drop_drop] at x2
      have o2 : varSt' t (some c1) = some (c1 + c2) := by rw [varSt', h3]; rfl
      have n2 : varNum' t (some c1) = tm := by rw [varNum', h3]
      have q2 := short_read (s := t) (k := c1 + c2) (by omega) (by omega)
      simp only [askSnapIn, o1, n1, o2, n2]
      cases h4 : rs t ((c1 + c2 : Nat) : Int) with
      | none =>
        have o3 : shortSt t (some (c1 + c2)) = none := by
          have := q2.1
          rw [h4] at this
          cases hx : shortSt t (some (c1 + c2)) with
          | none => rfl
          | some e => rw [hx] at this; cases this
        rw [o3, shortSt_none]
        refine (if_neg (by simp)).trans ?_
        split
        · rfl
        · split <;> rfl
      | some p3 =>
        obtain ⟨a, b⟩ := p3
        dsimp only
        obtain ⟨o3, t3, hab, hb, hka, x3⟩ := q2.2 a b h4
        have q3 := short_read (s := t) (k := b) hb (by omega)
        rw [o3, t3]
        cases hc : confOk (intsOf (t.extract a b).data.toList) with
        | false =>
          rw [readConf_no hc]
          have hn : ∀ x y z, ¬ snapOk x y ([] : List Int) z = true := by
            intro x y z
            rw [snapOk_iff]
            rintro ⟨q, _⟩
            cases q
          refine (if_neg (fun q => hn _ _ _ q.2.1)).trans ?_
          split
          · rfl
          · split <;> rfl
        | true =>
          rw [readConf_yes hc]
          dsimp only
          cases h5 : rs t (b : Int) with
          | none =>
            have o4 : shortSt t (some b) = none := by
              have := q3.1
              rw [h5] at this
              cases hx : shortSt t (some b) with
              | none => rfl
              | some e => rw [hx] at this; cases this
            rw [o4]
            refine (if_neg (by simp)).trans ?_
            split
            · rfl
            · split <;> rfl
          | some p4 =>
            obtain ⟨a', b'⟩ := p4
            dsimp only
            obtain ⟨o4, t4, hab', hb', hka', x4⟩ := q3.2 a' b' h5
            rw [o4, t4]
            have hin : t.data.toList = (snapIn ix tm (intsOf (t.extract a b).data.toList) (t.extract a' b')).data.toList ++ t.data.toList.drop b' := by
              rw [snapIn, conf_back]
              simp only [ByteArray.data_append, Array.toList_append, List.append_assoc]
              show _ = vb ix ++ (vb tm ++ _)
              rw [← x4, ← x3, ← x2, ← x1]
              rfl
            have hsz := congrArg List.length hin
            rw [hl, List.length_append, List.length_drop, hl] at hsz
            have hsi : (snapIn ix tm (intsOf (t.extract a b).data.toList) (t.extract a' b')).data.toList.length = (snapIn ix tm (intsOf (t.extract a b).data.toList) (t.extract a' b')).size := Array.length_toList
            rw [hsi] at hsz
            by_cases hi : 1000000 < ix
            · rw [if_pos hi]
              refine if_neg ?_
              rintro ⟨_, q, _⟩
              have := (snapOk_iff.1 q).2.1
              omega
            · rw [if_neg hi]
              by_cases hm : 100000 < tm
              · rw [if_pos hm]
                refine if_neg ?_
                rintro ⟨_, q, _⟩
                have := (snapOk_iff.1 q).2.1
                omega
              · rw [if_neg hm, if_pos rfl]
                by_cases he : b' = t.size
                · rw [if_pos he]
                  have hsame : snapIn ix tm (intsOf (t.extract a b).data.toList) (t.extract a' b') = t := by
                    apply ByteArray.ext
                    apply Array.toList_inj.1
                    conv => rhs; rw [hin]
                    rw [he, ← hl, List.drop_length, List.append_nil]
                  refine if_pos ⟨rfl, snapOk_iff.2 ⟨hc, ⟨⟨by omega, by omega⟩, by omega, by omega⟩, ?_⟩, ?_⟩
                  · simp only [Int.toNat_natCast]
                    rw [hsame]
                    omega
                  · rw [hsame, hall]
                · rw [if_neg he]
                  refine if_neg ?_
                  rintro ⟨_, _, q⟩
                  rw [← hall] at q
                  rw [sealOf_inj q] at hsz
                  omega

/-- what is left to be read behind the two numbers, and behind the conf -/
def readSnapC (t : ByteArray) (ix tm : Nat) (zs : List Int) (y : Nat) : Option SnapD := match rs t (y : Int) with
  | none => none
  | some (a', b') => if b' = t.size then some ⟨ix, tm, zs, t.extract a' b'⟩ else none
def readSnapB (t : ByteArray) (ix tm k : Nat) : Option SnapD := match rs t (k : Int) with
  | none => none
  | some (a, b) => if confOk (intsOf (t.extract a b).data.toList) = true then readSnapC t ix tm (intsOf (t.extract a b).data.toList) b else none
theorem readSnap_sealed {s : ByteArray} (h : Uns s ∧ s.size ≤ 20000) : readSnap s = readSnapIn (s.extract 0 (s.size - 4)) := by rw [readSnap, if_pos (snapSealed_iff.2 h)]
theorem rs_sealed {s : ByteArray} (h : ¬ (Uns s ∧ s.size ≤ 20000)) : readSnap s = none := by rw [readSnap, if_neg (fun q => h (snapSealed_iff.1 q))]
theorem rsi1 {t : ByteArray} (h1 : rv (t.data.toList.drop 0) = none) : readSnapIn t = none := by rw [readSnapIn, h1]
theorem rsi2 {t : ByteArray} {ix k1 : Nat} (h1 : rv (t.data.toList.drop 0) = some (ix, k1)) (hi : 1000000 < ix) : readSnapIn t = none := by rw [readSnapIn, h1]; simp only [hi, if_true]
theorem rsi3 {t : ByteArray} {ix k1 : Nat} (h1 : rv (t.data.toList.drop 0) = some (ix, k1)) (hi : ¬ 1000000 < ix) (h2 : rv (t.data.toList.drop k1) = none) : readSnapIn t = none := by rw [readSnapIn, h1]; simp only [hi, if_false, h2]
theorem rsi4 {t : ByteArray} {ix k1 tm k2 : Nat} (h1 : rv (t.data.toList.drop 0) = some (ix, k1)) (hi : ¬ 1000000 < ix) (h2 : rv (t.data.toList.drop k1) = some (tm, k2)) (hm : 100000 < tm) : readSnapIn t = none := by rw [readSnapIn, h1]; simp only [hi, if_false, h2, hm, if_true]
theorem rsi5 {t : ByteArray} {ix k1 tm k2 : Nat} (h1 : rv (t.data.toList.drop 0) = some (ix, k1)) (hi : ¬ 1000000 < ix) (h2 : rv (t.data.toList.drop k1) = some (tm, k2)) (hm : ¬ 100000 < tm) : readSnapIn t = readSnapB t ix tm (k1 + k2) := by rw [readSnapIn, h1]; simp only [hi, if_false, h2, hm]; rfl
theorem rsb1 {t : ByteArray} {ix tm k : Nat} (h : rs t (k : Int) = none) : readSnapB t ix tm k = none := by rw [readSnapB, h]
theorem rsb2 {t : ByteArray} {ix tm k x y : Nat} (h : rs t (k : Int) = some (x, y)) (hc : confOk (intsOf (t.extract x y).data.toList) = false) : readSnapB t ix tm k = none := by rw [readSnapB, h]; simp only [hc, Bool.false_eq_true, if_false]
theorem rsb3 {t : ByteArray} {ix tm k x y : Nat} (h : rs t (k : Int) = some (x, y)) (hc : confOk (intsOf (t.extract x y).data.toList) = true) : readSnapB t ix tm k = readSnapC t ix tm (intsOf (t.extract x y).data.toList) y := by rw [readSnapB, h]; simp only [hc, if_true]
theorem rsc1 {t : ByteArray} {ix tm y : Nat} {zs : List Int} (h : rs t (y : Int) = none) : readSnapC t ix tm zs y = none := by rw [readSnapC, h]
theorem rsc2 {t : ByteArray} {ix tm y x' y' : Nat} {zs : List Int} (h : rs t (y : Int) = some (x', y')) : readSnapC t ix tm zs y = if y' = t.size then some ⟨ix, tm, zs, t.extract x' y'⟩ else none := by rw [readSnapC, h]
theorem ask_sealed {s : ByteArray} (h : Uns s) : askSnapIn s (s.extract 0 (s.size - 4)) (some 0) = readSnap s := by
  by_cases h2 : s.size ≤ 20000
  · rw [readSnap_sealed ⟨h, h2⟩, ask_read h h2]
  · rw [rs_sealed (fun q => h2 q.2)]
    refine if_neg ?_
    rintro ⟨_, q1, q2⟩
    have q3 := (snapOk_iff.1 q1).2.2
    simp only [Int.toNat_natCast] at q3
    have q4 := congrArg ByteArray.size q2
    rw [sealOf_size] at q4
    omega
theorem ask_not {s : ByteArray} (h : ¬ Uns s) : askSnapIn s ByteArray.empty none = readSnap s := by rw [ask_none, rs_sealed (fun q => h q.1)]
theorem shortTxt_size (t : ByteArray) (o : Option Nat) : (shortTxt t o).size ≤ t.size := by
  rw [shortTxt]
  generalize varSt' t o = o1
  cases o1 with
  | none => exact Nat.zero_le _
  | some k =>
    rw [takeTxtN]
    split
    · rw [ByteArray.size_extract]; omega
    · exact Nat.zero_le _
theorem readConf_small (s : ByteArray) : (readConf s).1.length ≤ 4 := by
  cases h : confOk (intsOf s.data.toList) with
  | false => rw [readConf_no h]; exact Nat.zero_le _
  | true => rw [readConf_yes h]; exact (confOk_len h).2
end Go.Proofs.YtihgkocfgjihhaaGreatDoor

namespace Go.Proofs.YtihgkocfgjihhaaGreatDoor
open Go.RowKit

/-- what both answer -/
def snapDid (o : Option SnapD) (w : World) (e : Ending) (w' : World) : Prop := match o with
  | none => e = .returned (.tuple #[snapV 0 0 (.slice none 0 0) ByteArray.empty, .bool false]) ∧ Below w.heap.size w w'
  | some d => ∃ v, e = .returned (.tuple #[snapV d.ix d.tm v d.body, .bool true]) ∧ w'.ownsRow w.heap.size 3 1 v d.conf.length (intCells d.conf) ∧ Below w.heap.size w w'

/-- a block of another type is written -/
theorem own_put {x : World} {base n b j : Nat} {tb : TypeId} {v u : Value} {xs cb : List Value} (h : x.ownsRow base 3 1 v n xs) (hb : BlockIs x b tb cb) (ht : tb ≠ 3) : (x.setCell ⟨b, j, none⟩ u).ownsRow base 3 1 v n xs := by
  refine ⟨h.1, h.2.imp id ?_⟩
  rintro ⟨g, cap, cur, a, c, d, r⟩
  refine ⟨g, cap, cur, a, c, ?_, r⟩
  have hne : b ≠ g := by
    intro q
    subst q
    unfold BlockIs at hb
    rw [hb] at d
    simp only [Option.some.injEq, Obj.cells.injEq] at d
    exact ht d.2.1
  have hg : BlockIs x g 3 cur.toList := by unfold BlockIs; rw [d]
  have := hg.far hne (j := j) u
  unfold BlockIs at this
  simpa using this
theorem own_grown {x y : World} {base n r : Nat} {tb : TypeId} {v : Value} {xs cb : List Value} (h : x.ownsRow base 3 1 v n xs) (hg : x.grownBy y (some r)) (hb : BlockIs x r tb cb) (ht : tb ≠ 3) : y.ownsRow base 3 1 v n xs := by
  have hh := h
  rcases h.2 with ⟨hv, hn⟩ | ⟨g, cap, cur, hv, _, d, _⟩
  · subst hv
    exact hh.kept hg (Or.inl rfl)
  · subst hv
    refine hh.kept hg (Or.inr ?_)
    intro e
    have e2 : g = r := by simpa [Value.ownBlock] using e
    subst e2
    unfold BlockIs at hb
    rw [hb] at d
    simp only [Option.some.injEq, Obj.cells.injEq] at d
    exact ht d.2.1
theorem text_same {s t : ByteArray} (h : s.toList = t.toList) : s = t := by
  rw [ByteArray.toList_eq, ByteArray.toList_eq] at h
  apply ByteArray.ext
  exact Array.toList_inj.1 h
/-- the answer's parts, whether there is a snapshot or not -/
def snapIx (o : Option SnapD) : Int := match o with | none => 0 | some d => d.ix
def snapTm (o : Option SnapD) : Int := match o with | none => 0 | some d => d.tm
def snapZs (o : Option SnapD) : List Int := match o with | none => [] | some d => d.conf
def snapBd (o : Option SnapD) : ByteArray := match o with | none => ⟨#[]⟩ | some d => d.body
theorem own_nil (w : World) (base : Nat) : w.ownsRow base 3 1 (.slice none 0 0) 0 [] := ⟨rfl, Or.inl ⟨rfl, rfl⟩⟩
theorem snapDid_parts {o : Option SnapD} {w w' : World} {e : Ending} (h : snapDid o w e w') : ∃ ao cap, e = .returned (.tuple #[snapV (snapIx o) (snapTm o) (.slice ao (snapZs o).length cap) (snapBd o), .bool o.isSome]) ∧ w'.ownsRow w.heap.size 3 1 (.slice ao (snapZs o).length cap) (snapZs o).length (intCells (snapZs o)) ∧ Below w.heap.size w w' := by
  cases o with
  | none => exact ⟨none, 0, h.1, own_nil _ _, h.2⟩
  | some d =>
    obtain ⟨v, h1, h2, h3⟩ := h
    obtain ⟨va, vc, rfl⟩ := row_shape h2
    exact ⟨va, vc, h1, h2, h3⟩
theorem readSnap_small {s : ByteArray} : (snapZs (readSnap s)).length ≤ 4 := by
  cases h : readSnap s with
  | none => exact Nat.zero_le _
  | some d =>
    have : d.conf.length ≤ 4 := by
      unfold readSnap readSnapIn at h
      repeat' split at h
      all_goals first
        | contradiction
        | (cases h; exact (confOk_len (by assumption)).2)
    exact this
/-- the same as a post of its own -/
def snapAns (o : Option SnapD) (w : World) (e : Ending) (w' : World) : Prop := ∃ ao cap, e = .returned (.tuple #[snapV (snapIx o) (snapTm o) (.slice ao (snapZs o).length cap) (snapBd o), .bool o.isSome]) ∧ w'.ownsRow w.heap.size 3 1 (.slice ao (snapZs o).length cap) (snapZs o).length (intCells (snapZs o)) ∧ Below w.heap.size w w'
end Go.Proofs.YtihgkocfgjihhaaGreatDoor

namespace Go.Proofs.YtihgkocfgjihhaaGreatDoor
open Go.RowKit

def nameOk (s : ByteArray) : Bool := within s.size 1 8
def fileOk (f : FileD) : Bool := nameOk f.name && decide (f.text.size ≤ 20000) && within f.kept 0 f.text.size
/-- is a text less than another one -/
def textLt (s t : ByteArray) : Bool := Op.bytesLess s.toList t.toList
/-- a file stands behind the one ahead of it -/
def behind (l : List FileD) (k : Nat) (f : FileD) : Bool := match k with
  | 0 => true
  | j + 1 => match l[j]? with
    | none => true
    | some g => textLt g.name f.name
/-- the first k files are right, and ascend -/
def rightTo (l : List FileD) : Nat → Bool
  | 0 => true
  | k + 1 => rightTo l k && match l[k]? with
    | none => true
    | some f => fileOk f && behind l k f
def diskOk (l : List FileD) : Bool := decide (l.length ≤ 30) && rightTo l l.length

theorem rightTo_step {l : List FileD} {k : Nat} (hk : k < l.length) : rightTo l (k + 1) = (rightTo l k && (fileOk l[k] && behind l k l[k])) := by
  rw [rightTo, List.getElem?_eq_getElem hk]
theorem behind_step {l : List FileD} {j : Nat} (hj : j + 1 < l.length) : behind l (j + 1) l[j + 1] = textLt l[j].name l[j + 1].name := by
  rw [behind, List.getElem?_eq_getElem (show j < l.length by omega)]
theorem rightTo_down {l : List FileD} {n k : Nat} (h : rightTo l n = true) (hk : k ≤ n) : rightTo l k = true := by
  induction n with
  | zero => obtain rfl : k = 0 := by omega
            rfl
  | succ n ih =>
    rcases Nat.lt_or_ge k (n + 1) with q | q
    · rw [rightTo, Bool.and_eq_true] at h
      exact ih h.1 (by omega)
    · obtain rfl : k = n + 1 := by omega
      exact h
theorem diskOk_of {l : List FileD} (h : l.length ≤ 30) (hr : rightTo l l.length = true) : diskOk l = true := by
  rw [diskOk, hr]
  simpa using h
theorem not_diskOk {l : List FileD} {k : Nat} (hk : k < l.length) (h : (fileOk l[k] && behind l k l[k]) = false) : diskOk l = false := by
  cases hd : diskOk l with
  | false => rfl
  | true =>
    rw [diskOk, Bool.and_eq_true] at hd
    have := rightTo_down hd.2 (show k + 1 ≤ l.length by omega)
    rw [rightTo_step hk, h] at this
    simp at this
end Go.Proofs.YtihgkocfgjihhaaGreatDoor

namespace Go.Proofs.YtihgkocfgjihhaaGreatDoor

/-- a snapshot's name -/
def sname (n : Int) : ByteArray := if within n 0 1000000 = true then ⟨#[115]⟩ ++ ⟨(dec n).toArray⟩ else ⟨#[]⟩
theorem sname_yes {n : Int} (h : within n 0 1000000 = true) : sname n = ⟨#[115]⟩ ++ ⟨(dec n).toArray⟩ := by rw [sname, if_pos h]
theorem sname_no {n : Int} (h : within n 0 1000000 = false) : sname n = ⟨#[]⟩ := by rw [sname, h]; rfl
theorem dec_small7 {n : Int} (h : 0 ≤ n ∧ n ≤ 1000000) : (⟨(dec n).toArray⟩ : ByteArray).size ≤ 7 := by
  show (dec n).toArray.size ≤ 7
  rw [List.size_toArray, dec]
  split
  · simp
  · rw [if_neg (by omega)]
    exact dd_len 7 _ (by omega)
end Go.Proofs.YtihgkocfgjihhaaGreatDoor

namespace Go.Proofs.YtihgkocfgjihhaaGreatDoor
open Go.RowKit

theorem val_append (p q : List UInt8) : val (p ++ q) = val p + val q * 128 ^ p.length := by
  induction p with
  | nil => simp [val]
  | cons x p ih =>
    simp only [List.cons_append, val, ih, List.length_cons, Nat.pow_succ, Nat.mul_add]
    rw [show val q * (128 ^ p.length * 128) = 128 * (val q * 128 ^ p.length) from by rw [Nat.mul_comm (128 ^ p.length) 128, Nat.mul_left_comm]]
    omega

theorem val_vb (n : Nat) : val (vb n) = n := by
  induction n using Nat.strongRecOn with
  | _ n ih =>
    by_cases h : n ≤ 127
    · rw [vb_small h]; simp [val]; omega
    · rw [vb_big (by omega)]
      simp only [val, ih (n / 128) (by omega), UInt8.toNat_ofNat']
      omega

theorem vb_len {n : Nat} (h : n ≤ 1000000000) : (vb n).length ≤ 5 := by
  by_cases h1 : n ≤ 127
  · rw [vb_small h1]; simp
  rw [vb_big (by omega)]
  by_cases h2 : n / 128 ≤ 127
  · rw [vb_small h2]; simp
  rw [vb_big (by omega)]
  by_cases h3 : n / 128 / 128 ≤ 127
  · rw [vb_small h3]; simp
  rw [vb_big (by omega)]
  by_cases h4 : n / 128 / 128 / 128 ≤ 127
  · rw [vb_small h4]; simp
  rw [vb_big (by omega), vb_small (by omega)]; simp

theorem rvFrom_vb (m : Nat) : ∀ (p r : List UInt8), p.length + (vb m).length ≤ 5 → val (p ++ vb m) ≤ 1000000000 → (p = [] ∨ 0 < m) → rvFrom p (vb m ++ r) = some (val (p ++ vb m), p.length + (vb m).length) := by
  induction m using Nat.strongRecOn with
  | _ m ih =>
    intro p r h5 hv hp
    by_cases h : m ≤ 127
    · rw [vb_small h] at h5 hv ⊢
      have hb : (UInt8.ofNat m).toNat = m := by rw [UInt8.toNat_ofNat']; omega
      simp only [List.length_cons, List.length_nil] at h5 ⊢
      simp only [List.cons_append, List.nil_append]
      rw [rvFrom_yes _ _ _ (by omega) (by omega)]
      rintro (q | ⟨q1, q2⟩)
      · omega
      · rcases hp with hp | hp
        · exact q2 hp
        · have := congrArg UInt8.toNat q1
          rw [hb] at this
          simp at this
          omega
    · have e := vb_big (n := m) (by omega)
      have hb : (UInt8.ofNat (m % 128 + 128)).toNat = m % 128 + 128 := by rw [UInt8.toNat_ofNat']; omega
      have hp1 := vb_pos (m / 128)
      rw [e] at h5 hv ⊢
      simp only [List.length_cons] at h5 ⊢
      simp only [List.cons_append]
      have e2 : p ++ UInt8.ofNat (m % 128 + 128) :: vb (m / 128) = (p ++ [UInt8.ofNat (m % 128 + 128)]) ++ vb (m / 128) := by simp
      rw [e2] at hv ⊢
      rw [rvFrom_on _ _ _ (by omega) (by omega), ih (m / 128) (by omega) _ r (by simp; omega) hv (Or.inr (by omega))]
      simp only [List.length_append, List.length_cons, List.length_nil]
      congr 2
      omega

theorem rv_vb {n : Nat} (h : n ≤ 1000000000) (r : List UInt8) : rv (vb n ++ r) = some (n, (vb n).length) := by
  have := rvFrom_vb n [] r (by simpa using vb_len h) (by simpa [val_vb] using h) (Or.inl rfl)
  simpa [rv, val_vb] using this
end Go.Proofs.YtihgkocfgjihhaaGreatDoor

namespace Go.Proofs.YtihgkocfgjihhaaGreatDoor
open Go.RowKit

/-- the bytes that figures, two by two, make -/
def unh : List UInt8 → List UInt8
  | a :: b :: r => UInt8.ofNat (16 * lv (a.toNat : Int) + lv (b.toNat : Int)).toNat :: unh r
  | _ => []

theorem unh_snoc2 (a b : UInt8) : ∀ (n : Nat) (l : List UInt8), l.length = 2 * n → unh (l ++ [a, b]) = unh l ++ unh [a, b]
  | 0, l, h => by
    have : l = [] := List.eq_nil_of_length_eq_zero (by omega)
    subst this; rfl
  | n + 1, l, h => by
    match l, h with
    | x :: y :: r, h =>
      have ih := unh_snoc2 a b n r (by simp at h; omega)
      simp [unh, ih]

theorem unh_length : ∀ (n : Nat) (l : List UInt8), l.length = 2 * n → (unh l).length = n
  | 0, l, h => by
    have : l = [] := List.eq_nil_of_length_eq_zero (by omega)
    subst this; rfl
  | n + 1, l, h => by
    match l, h with
    | x :: y :: r, h =>
      have ih := unh_length n r (by simp at h; omega)
      simp [unh, ih]

theorem take_snoc2 (s : ByteArray) (k : Nat) (h : k + 1 < s.size) : s.data.toList.take (k + 2) = s.data.toList.take k ++ [s[k], s[k + 1]] := by
  rw [take_snoc s (k + 1) h, take_snoc s k (by omega)]
  simp

theorem unh_step {s : ByteArray} {k : Nat} {w wr w1 : World} {v v' : Value} {B : Obj} (hk : 2 * k + 1 < s.size) (h1 : 0 ≤ lv (s[2 * k].toNat : Int)) (h2 : 0 ≤ lv (s[2 * k + 1].toNat : Int)) (hown : wr.ownsRow w.heap.size 5 1 v k (cs (unh (s.data.toList.take (2 * k)))))
    (hown' : w1.ownsRow w.heap.size 5 1 v' (k + 1) (cs (unh (s.data.toList.take (2 * k))) ++ [.int .u8 (16 * lv (s[2 * k].toNat : Int) + lv (s[2 * k + 1].toNat : Int))])) (hgrow : (wr.alloc B).grownBy w1 v.ownBlock) (hb : Below w.heap.size w wr) :
    w1.ownsRow w.heap.size 5 1 v' (k + 1) (cs (unh (s.data.toList.take (2 * (k + 1))))) ∧ Below w.heap.size w w1 := by
  refine ⟨?_, (hb.alloc hb.size _).grown hgrow (by have := hb.size; simp; omega) (fun j hj => (hown.lt j hj).1)⟩
  have b1 := lv_bd (s[2 * k].toNat : Int)
  have b2 := lv_bd (s[2 * k + 1].toNat : Int)
  have e : [Value.int .u8 (16 * lv (s[2 * k].toNat : Int) + lv (s[2 * k + 1].toNat : Int))] = cs (unh [s[2 * k], s[2 * k + 1]]) := by
    rw [cs_one (by omega) (by omega)]
    simp [unh]
  rw [e, ← cs_append, ← unh_snoc2 _ _ k _ (take_len s (2 * k) (by omega)), ← take_snoc2 s (2 * k) hk] at hown'
  exact hown'

theorem Figs.snoc2 {s : ByteArray} {k : Nat} (hk : 2 * k + 1 < s.size) (h : Figs 16 (s.data.toList.take (2 * k))) (h1 : 0 ≤ lv (s[2 * k].toNat : Int)) (h2 : 0 ≤ lv (s[2 * k + 1].toNat : Int)) : Figs 16 (s.data.toList.take (2 * (k + 1))) := by
  have b1 := lv_bd (s[2 * k].toNat : Int)
  have b2 := lv_bd (s[2 * k + 1].toNat : Int)
  show Figs 16 (s.data.toList.take (2 * k + 2))
  rw [take_snoc2 s (2 * k) hk]
  intro x hx
  rcases List.mem_append.1 hx with hx | hx
  · exact h x hx
  · simp only [List.mem_cons, List.not_mem_nil, or_false] at hx
    rcases hx with hx | hx <;> subst hx <;> constructor <;> omega

theorem not_Figs {s : ByteArray} {k : Nat} (hk : k < s.size) (h : lv (s[k].toNat : Int) < 0) : ¬ Figs 16 s.data.toList := by
  intro hall
  have := hall s[k] (mem_at s k hk)
  omega
end Go.Proofs.YtihgkocfgjihhaaGreatDoor

namespace Go.Proofs.YtihgkocfgjihhaaGreatDoor
open Go.RowKit

theorem figs_hex (l : List UInt8) : Figs 16 (hexOf l) := by
  induction l with
  | nil => simp [hexOf, Figs]
  | cons b l ih =>
    have hb := b.toNat_lt
    intro c hc
    simp only [hexOf, List.mem_cons] at hc
    have one : ∀ x : Int, 0 ≤ x → x ≤ 15 → 0 ≤ lv ((UInt8.ofNat (fig x).toNat).toNat : Int) ∧ lv ((UInt8.ofNat (fig x).toNat).toNat : Int) < (16 : Nat) := by
      intro x h0 h1
      have hf := fig_bd h0 h1
      have e : ((UInt8.ofNat (fig x).toNat).toNat : Int) = fig x := by rw [UInt8.toNat_ofNat']; omega
      have := (fig_lv (c := fig x) (j := x) h0 h1).1 rfl
      rw [e, this]
      omega
    rcases hc with hc | hc | hc
    · subst hc; exact one _ (by omega) (by omega)
    · subst hc; exact one _ (by omega) (by omega)
    · exact ih c hc

theorem unh_hex (l : List UInt8) : unh (hexOf l) = l := by
  induction l with
  | nil => rfl
  | cons b l ih =>
    have hb := b.toNat_lt
    have one : ∀ x : Int, 0 ≤ x → x ≤ 15 → lv ((UInt8.ofNat (fig x).toNat).toNat : Int) = x := by
      intro x h0 h1
      have hf := fig_bd h0 h1
      have e : ((UInt8.ofNat (fig x).toNat).toNat : Int) = fig x := by rw [UInt8.toNat_ofNat']; omega
      rw [e]
      exact (fig_lv (c := fig x) (j := x) h0 h1).1 rfl
    simp only [hexOf, unh, ih]
    rw [one _ (by omega) (by omega), one _ (by omega) (by omega)]
    congr 1
    apply UInt8.toNat_inj.1
    rw [UInt8.toNat_ofNat']
    omega

theorem num_dd (n : Nat) : num (dd n) = n := by
  induction n using Nat.strongRecOn with
  | _ n ih =>
    by_cases h : n = 0
    · subst h; rw [dd_zero]; rfl
    · rw [dd_pos (by omega), num_snoc, ih (n / 10) (by omega), UInt8.toNat_ofNat']
      omega
theorem digits_dd (n : Nat) : Digits (dd n) := by
  induction n using Nat.strongRecOn with
  | _ n ih =>
    by_cases h : n = 0
    · subst h; rw [dd_zero]; simp [Digits]
    · rw [dd_pos (by omega)]
      refine (ih (n / 10) (by omega)).snoc ?_
      rw [UInt8.toNat_ofNat']
      omega
theorem dec_back (n : Nat) (hn : n ≤ 1000000000) : DecOk (dec n) ∧ num (dec n) = n ∧ (dec n).length ≤ 10 := by
  have hd : Digits (dec n) ∧ num (dec n) = n ∧ (dec n).length ≤ 10 := by
    unfold dec
    by_cases h : (n : Int) = 0
    · rw [if_pos h]
      have e : n = 0 := by omega
      subst e
      refine ⟨?_, rfl, by simp⟩
      intro c hc
      simp at hc
      subst hc
      decide
    · rw [if_neg h, if_neg (by omega), Int.natAbs_natCast]
      exact ⟨digits_dd n, num_dd n, dd_len 10 n (by omega)⟩
  obtain ⟨h1, h2, h3⟩ := hd
  refine ⟨⟨h1, by omega, (dec_num _ h1).1 (by rw [h2])⟩, h2, h3⟩

theorem text_list (s : ByteArray) : (⟨s.data.toList.toArray⟩ : ByteArray) = s := by simp

/-- a short text is read back -/
theorem rs_back (t : ByteArray) (ht : t.size ≤ 20000) : rs (⟨(vb t.size).toArray⟩ ++ t) 0 = some ((vb t.size).length, (vb t.size).length + t.size) := by
  have hl : (⟨(vb t.size).toArray⟩ ++ t : ByteArray).data.toList = vb t.size ++ t.data.toList := by simp [ByteArray.data_append]
  have hsz : (⟨(vb t.size).toArray⟩ ++ t : ByteArray).size = (vb t.size).length + t.size := by
    rw [ByteArray.size_append]
    show (vb t.size).toArray.size + t.size = _
    simp
  have := rs_yes (s := ⟨(vb t.size).toArray⟩ ++ t) (a := 0) (n := t.size) (c := (vb t.size).length) (by omega) (by rw [hl]; simpa using rv_vb (n := t.size) (by omega) t.data.toList) ⟨ht, by omega⟩
  simpa using this
theorem extract_back (l : List UInt8) (t : ByteArray) : (⟨l.toArray⟩ ++ t : ByteArray).extract l.length (l.length + t.size) = t := by
  apply ByteArray.ext
  apply Array.toList_inj.1
  rw [extract_eq]
  have hl : (⟨l.toArray⟩ ++ t : ByteArray).data.toList = l ++ t.data.toList := by simp [ByteArray.data_append]
  have ht : t.data.toList.length = t.size := by simp
  rw [hl, List.drop_left, List.take_of_length_le (by omega)]
end Go.Proofs.YtihgkocfgjihhaaGreatDoor

namespace Go.Proofs.YtihgkocfgjihhaaGreatDoor
open Go.RowKit

/-- the number of a name: a letter and the figures of a number up to a limit -/
def nameNum (c : UInt8) (lim : Nat) (name : ByteArray) : Option Nat :=
  if num (name.data.toList.drop 1) ≤ lim ∧ name.data.toList = c :: dec (num (name.data.toList.drop 1)) then some (num (name.data.toList.drop 1)) else none
theorem nameNum_some {c : UInt8} {lim n : Nat} {name : ByteArray} (hl : lim ≤ 1000000000) : nameNum c lim name = some n ↔ n ≤ lim ∧ name.data.toList = c :: dec n := by
  unfold nameNum
  constructor
  · intro h
    split at h
    · rename_i q
      simp only [Option.some.injEq] at h
      subst h
      exact q
    · cases h
  · rintro ⟨h1, h2⟩
    have e : num (name.data.toList.drop 1) = n := by
      rw [h2]
      exact (dec_back n (by omega)).2.1
    rw [e, if_pos ⟨h1, h2⟩]
theorem nameNum_dec {c : UInt8} {lim : Nat} {name : ByteArray} {r : List UInt8} (h : name.data.toList = c :: r) (hd : DecOk r) (hl : num r ≤ lim) : nameNum c lim name = some (num r) := by
  unfold nameNum
  rw [h]
  simp only [List.drop_succ_cons, List.drop_zero]
  rw [if_pos ⟨hl, by rw [(dec_num r hd.1).2 ⟨hd.2.2.1, hd.2.2.2⟩]⟩]
theorem nameNum_not {c : UInt8} {lim : Nat} {name : ByteArray} (hl : lim ≤ 1000000000) (h : ∀ n, n ≤ lim → name.data.toList ≠ c :: dec n) : nameNum c lim name = none := by
  cases hq : nameNum c lim name with
  | none => rfl
  | some n =>
    have := (nameNum_some hl).1 hq
    exact absurd this.2 (h n this.1)
theorem nameNum_figs {c : UInt8} {lim : Nat} {name : ByteArray} {r : List UInt8} (hl : lim ≤ 1000000000) (h : name.data.toList = c :: r) (hd : ¬ (DecOk r ∧ num r ≤ lim ∧ r.length ≤ 10)) : nameNum c lim name = none := by
  refine nameNum_not hl fun n hn e => hd ?_
  rw [h, List.cons.injEq] at e
  rw [e.2]
  have := dec_back n (by omega)
  exact ⟨this.1, by omega, this.2.2⟩
theorem nameNum_head {c : UInt8} {lim : Nat} {name : ByteArray} (hl : lim ≤ 1000000000) (h : name.data.toList.head? ≠ some c) : nameNum c lim name = none := by
  refine nameNum_not hl fun n _ e => h ?_
  rw [e]
  rfl
theorem nameNum_short {c : UInt8} {lim : Nat} {name : ByteArray} (hl : lim ≤ 1000000000) (h : name.size < 2) : nameNum c lim name = none := by
  refine nameNum_not hl fun n hn e => ?_
  have h1 : name.data.toList.length = name.size := Array.length_toList
  rw [e, List.length_cons] at h1
  have := (dec_back n (by omega)).1.2.2.1
  exact this (List.eq_nil_of_length_eq_zero (by omega))
/-- the number's place in the answer -/
def nameAns (o : Option Nat) : Int := match o with
  | none => -1
  | some n => n
theorem name_of_list {name : ByteArray} {l : List UInt8} (h : name.data.toList = l) : name = ⟨l.toArray⟩ := by
  apply ByteArray.ext
  apply Array.toList_inj.1
  simpa using h
end Go.Proofs.YtihgkocfgjihhaaGreatDoor

namespace Go.Proofs.YtihgkocfgjihhaaGreatDoor
open Go.RowKit

/-- the snapshot of a file that has its name -/
def fileSnap (f : FileD) : Option SnapD := match nameNum 115 1000000 f.name with
  | none => none
  | some n => match readSnap f.text with
    | none => none
    | some s => if s.ix = n then some s else none
def newer (b : Option SnapD) (f : FileD) : Option SnapD := match fileSnap f with
  | none => b
  | some s => match b with
    | none => some s
    | some d => if d.ix < s.ix then some s else some d
def newestTo (l : List FileD) (k : Nat) : Option SnapD := (l.take k).foldl newer none
def newestSnap (l : List FileD) : Option SnapD := if diskOk l = true then l.foldl newer none else none
theorem newestTo_zero (l : List FileD) : newestTo l 0 = none := by simp [newestTo]
theorem newestTo_step {l : List FileD} {k : Nat} (hk : k < l.length) : newestTo l (k + 1) = newer (newestTo l k) l[k] := by
  rw [newestTo, List.take_succ_eq_append_getElem hk, List.foldl_append]
  rfl
theorem newestTo_all {l : List FileD} {k : Nat} (hd : diskOk l = true) (hk : l.length ≤ k) : newestSnap l = newestTo l k := by
  rw [newestSnap, if_pos hd, newestTo, List.take_of_length_le hk]
theorem newest_no {l : List FileD} (hd : diskOk l = false) : newestSnap l = none := by rw [newestSnap, hd]; rfl
theorem fileSnap_name {f : FileD} (h : nameNum 115 1000000 f.name = none) : fileSnap f = none := by rw [fileSnap, h]
theorem fileSnap_text {f : FileD} (h : readSnap f.text = none) : fileSnap f = none := by
  rw [fileSnap]
  split
  · rfl
  · rw [h]
theorem fileSnap_eq {f : FileD} {n : Nat} {s : SnapD} (h : nameNum 115 1000000 f.name = some n) (h2 : readSnap f.text = some s) : fileSnap f = if s.ix = n then some s else none := by rw [fileSnap, h]; simp only [h2]
def pickSnap (n : Nat) (o : Option SnapD) : Option SnapD := match o with
  | none => none
  | some s => if s.ix = n then some s else none
theorem fileSnap_pick {f : FileD} {n : Nat} (h : nameNum 115 1000000 f.name = some n) : fileSnap f = pickSnap n (readSnap f.text) := by rw [fileSnap, h]; rfl
theorem pick_yes {n : Nat} {s : SnapD} (h : s.ix = n) : pickSnap n (some s) = some s := by rw [pickSnap, if_pos h]
theorem pick_no {n : Nat} {s : SnapD} (h : ¬ s.ix = n) : pickSnap n (some s) = none := by rw [pickSnap, if_neg h]
theorem newer_no {b : Option SnapD} {f : FileD} (h : fileSnap f = none) : newer b f = b := by rw [newer, h]
theorem newer_first {f : FileD} {s : SnapD} (h : fileSnap f = some s) : newer none f = some s := by rw [newer, h]
theorem newer_more {f : FileD} {s d : SnapD} (h : fileSnap f = some s) (hl : d.ix < s.ix) : newer (some d) f = some s := by rw [newer, h]; simp only [hl, if_true]
theorem newer_less {f : FileD} {s d : SnapD} (h : fileSnap f = some s) (hl : ¬ d.ix < s.ix) : newer (some d) f = some d := by rw [newer, h]; simp only [hl, if_false]
theorem fileSnap_conf {f : FileD} {s : SnapD} (h : fileSnap f = some s) : s.conf.length ≤ 4 ∧ s.ix ≤ 1000000000 := by
  unfold fileSnap at h
  split at h
  · cases h
  · rename_i n hn
    split at h
    · cases h
    · rename_i d hd
      split at h
      · cases h
        have h1 := readSnap_small (s := f.text)
        rw [hd] at h1
        have h2 := ((nameNum_some (by omega)).1 hn).1
        rename_i hq
        exact ⟨h1, by omega⟩
      · cases h
/-- a snapshot that is answered, with a flag; without it, it is any one -/
def SnapSome (o : Option SnapD) (w : World) (e : Ending) (w' : World) : Prop := ∃ (ix tm : Int) (ao : Option Addr) (zs : List Int) (cap : Nat) (bd : ByteArray), e = .returned (.tuple #[snapV ix tm (.slice ao zs.length cap) bd, .bool o.isSome]) ∧ w'.ownsRow w.heap.size 3 1 (.slice ao zs.length cap) zs.length (intCells zs) ∧ Below w.heap.size w w' ∧ (∀ d, o = some d → ix = d.ix ∧ tm = d.tm ∧ zs = d.conf ∧ bd = d.body)
end Go.Proofs.YtihgkocfgjihhaaGreatDoor

namespace Go.Proofs.YtihgkocfgjihhaaGreatDoor
open Go.RowKit

theorem take_one (s : ByteArray) (k : Nat) (h : k < s.size) : s.data.toList.take (k + 1) = s.data.toList.take k ++ [s[k]] := by
  rw [List.take_succ_eq_append_getElem (by simpa using h)]; rfl

theorem ret_u32 {a b : Nat} (h : a = b) : Ending.returned (.int .u32 a) = .returned (.int .u32 b) := by rw [h]

end Go.Proofs.YtihgkocfgjihhaaGreatDoor

namespace Go.Proofs.YtihgkocfgjihhaaGreatDoor
open Go.RowKit

/-- a number at a place, and the place behind it -/
def numAt (s : ByteArray) (lim k : Nat) : Option (Nat × Nat) := match rv (s.data.toList.drop k) with
  | some (n, c) => if n ≤ lim then some (n, k + c) else none
  | none => none
/-- a short text at a place, and the place behind it -/
def txtAt (s : ByteArray) (k : Nat) : Option (ByteArray × Nat) := match rs s (k : Int) with
  | some (x, y) => some (s.extract x y, y)
  | none => none
theorem numAt_fits {s : ByteArray} {lim k n k' : Nat} (hk : k ≤ s.size) (h : numAt s lim k = some (n, k')) : n ≤ lim ∧ n ≤ 1000000000 ∧ k < k' ∧ k' ≤ s.size ∧ s.data.toList.drop k = vb n ++ s.data.toList.drop k' := by
  unfold numAt at h
  cases hv : rv (s.data.toList.drop k) with
  | none => rw [hv] at h; cases h
  | some p =>
    obtain ⟨a, c⟩ := p
    rw [hv] at h
    dsimp only at h
    have hf := rv_fits hk hv
    obtain ⟨_, l2⟩ := rv_text hv
    rw [List.drop_drop] at l2
    by_cases hl : a ≤ lim
    · rw [if_pos hl] at h
      cases h
      exact ⟨hl, hf.1, by omega, hf.2.2, l2⟩
    · rw [if_neg hl] at h
      cases h
theorem txtAt_fits {s : ByteArray} {k k' : Nat} {t : ByteArray} (hk : k ≤ s.size) (h : txtAt s k = some (t, k')) : t.size ≤ 20000 ∧ k < k' ∧ k' ≤ s.size ∧ s.data.toList.drop k = vb t.size ++ (t.data.toList ++ s.data.toList.drop k') := by
  unfold txtAt at h
  cases hv : rv (s.data.toList.drop k) with
  | none => rw [rs_none hk hv] at h; cases h
  | some p =>
    obtain ⟨n, c⟩ := p
    have hf := rv_fits hk hv
    by_cases hb : n ≤ 20000 ∧ k + c + n ≤ s.size
    · rw [rs_yes hk hv hb] at h
      dsimp only at h
      cases h
      have hz : (s.extract (k + c) (k + c + n)).size = n := by rw [ByteArray.size_extract]; omega
      obtain ⟨_, l2⟩ := rv_text hv
      rw [List.drop_drop] at l2
      refine ⟨by rw [hz]; exact hb.1, by omega, hb.2, ?_⟩
      rw [hz]
      conv => lhs; rw [l2]
      congr 1
      rw [extract_eq, show k + c + n - (k + c) = n by omega]
      conv => lhs; rw [← List.take_append_drop n (s.data.toList.drop (k + c))]
      rw [List.drop_drop]
    · rw [rs_big hk hv hb] at h
      cases h
end Go.Proofs.YtihgkocfgjihhaaGreatDoor

namespace Go.Proofs.YtihgkocfgjihhaaGreatDoor
open Go.RowKit

/-- the number ahead of a place, 0 at the first -/
def lastOf (zs : List Int) (k : Nat) : Int := match k with
  | 0 => 0
  | j + 1 => (zs[j]?).getD 0
theorem lastOf_step {zs : List Int} {k : Nat} (hk : k < zs.length) : lastOf zs (k + 1) = zs[k] := by
  rw [lastOf, List.getElem?_eq_getElem hk, Option.getD_some]
theorem rise_last {zs : List Int} {k : Nat} (hk : k < zs.length) (h : riseTo zs k = true) : (within zs[k] 1 4 && behindI zs k zs[k]) = true ↔ lastOf zs k < zs[k] ∧ zs[k] ≤ 4 := by
  cases k with
  | zero =>
    rw [Bool.and_eq_true, within_iff, lastOf, behindI]
    simp
    omega
  | succ j =>
    have hj : j < zs.length := by omega
    have h1 := riseTo_down h (Nat.le_refl (j + 1))
    rw [riseTo_step hj, Bool.and_eq_true, Bool.and_eq_true, within_iff] at h1
    rw [Bool.and_eq_true, within_iff, behindI_step hk, lastOf_step hj, decide_eq_true_eq]
    omega
theorem rise_on {zs : List Int} {k : Nat} (hk : k < zs.length) (h : riseTo zs k = true) (h1 : lastOf zs k < zs[k]) (h2 : zs[k] ≤ 4) : riseTo zs (k + 1) = true := by
  rw [riseTo_step hk, h, Bool.true_and]
  exact (rise_last hk h).2 ⟨h1, h2⟩
theorem rise_off {zs : List Int} {k : Nat} (hk : k < zs.length) (h : riseTo zs k = true) (h1 : ¬ (lastOf zs k < zs[k] ∧ zs[k] ≤ 4)) : riseTo zs zs.length = false := by
  refine not_rise hk ?_
  cases hb : (within zs[k] 1 4 && behindI zs k zs[k]) with
  | false => rfl
  | true => exact absurd ((rise_last hk h).1 hb) h1

/-- how many of the first k numbers are in a list -/
def countIn (zs ls : List Int) : Nat → Nat
  | 0 => 0
  | k + 1 => countIn zs ls k + match zs[k]? with
    | none => 0
    | some x => if x ∈ ls then 1 else 0
theorem countIn_step {zs ls : List Int} {k : Nat} (hk : k < zs.length) : countIn zs ls (k + 1) = countIn zs ls k + if zs[k] ∈ ls then 1 else 0 := by
  rw [countIn, List.getElem?_eq_getElem hk]
theorem countIn_le (zs ls : List Int) : ∀ k, countIn zs ls k ≤ k
  | 0 => Nat.le_refl _
  | k + 1 => by
    have := countIn_le zs ls k
    rw [countIn]
    split
    · omega
    · split <;> omega
def most (zs ls : List Int) : Bool := confOk zs && decide (zs.length < 2 * countIn zs ls zs.length)
end Go.Proofs.YtihgkocfgjihhaaGreatDoor

namespace Go.Proofs.YtihgkocfgjihhaaGreatDoor
open Go.RowKit

theorem half_xor (a b : Nat) : half (a ^^^ b) = half a ^^^ half b := by
  have hm : (a ^^^ b) % 2 = (a % 2 + b % 2) % 2 := by
    have h := Nat.testBit_xor a b 0
    simp only [Nat.testBit_zero] at h
    have e1 : a % 2 = 0 ∨ a % 2 = 1 := by omega
    have e2 : b % 2 = 0 ∨ b % 2 = 1 := by omega
    have e3 : (a ^^^ b) % 2 = 0 ∨ (a ^^^ b) % 2 = 1 := by omega
    rcases e1 with e1 | e1 <;> rcases e2 with e2 | e2 <;> rcases e3 with e3 | e3 <;> rw [e1, e2, e3] at h <;> simp at h <;> omega
  have hd : (a ^^^ b) / 2 = a / 2 ^^^ b / 2 := by
    apply Nat.eq_of_testBit_eq
    intro i
    simp only [Nat.testBit_xor, Nat.testBit_div_two]
  unfold half
  rw [hm, hd]
  have e1 : a % 2 = 0 ∨ a % 2 = 1 := by omega
  have e2 : b % 2 = 0 ∨ b % 2 = 1 := by omega
  rcases e1 with e1 | e1 <;> rcases e2 with e2 | e2 <;> simp only [e1, e2]
  · rfl
  · simp [Nat.xor_assoc]
  · have : a / 2 ^^^ b / 2 ^^^ 3558460437 = a / 2 ^^^ 3558460437 ^^^ b / 2 := by rw [Nat.xor_assoc, Nat.xor_assoc, Nat.xor_comm (b / 2)]
    simpa using this
  · have : a / 2 ^^^ 3558460437 ^^^ (b / 2 ^^^ 3558460437) = a / 2 ^^^ b / 2 := by
      rw [Nat.xor_comm (b / 2), ← Nat.xor_assoc, Nat.xor_assoc (a / 2), Nat.xor_self, Nat.xor_zero]
    simp [this]

theorem hsN_xor (k a b : Nat) : hsN k (a ^^^ b) = hsN k a ^^^ hsN k b := by
  induction k with
  | zero => rfl
  | succ k ih =>
    show half (hsN k (a ^^^ b)) = _
    rw [ih, half_xor]
    rfl

theorem half_even (y : Nat) : half (2 * y) = y := by
  unfold half
  rw [if_neg (by omega)]
  omega

theorem low_high (x : Nat) : x = (16 * (x / 16)) ^^^ (x % 16) := by
  apply Nat.eq_of_testBit_eq
  intro i
  rw [Nat.testBit_xor, show 16 * (x / 16) = 2 ^ 4 * (x / 2 ^ 4) from rfl, show x % 16 = x % 2 ^ 4 from rfl, Nat.testBit_two_pow_mul, Nat.testBit_mod_two_pow, Nat.testBit_div_two_pow]
  by_cases h : 4 ≤ i
  · have : ¬ i < 4 := by omega
    simp [h, this]
  · have : i < 4 := by omega
    simp [h, this]

theorem hsN_add (k j x : Nat) : hsN (k + j) x = hsN j (hsN k x) := by
  induction j with
  | zero => rfl
  | succ j ih => show half (hsN (k + j) x) = half (hsN j (hsN k x)); rw [ih]

theorem four_high (q : Nat) : hsN 4 (16 * q) = q := by
  show half (half (half (half (16 * q)))) = q
  rw [show 16 * q = 2 * (2 * (2 * (2 * q))) by omega, half_even, half_even, half_even, half_even]

theorem four_steps (x : Nat) : hsN 4 x = x / 16 ^^^ hsN 4 (x % 16) := by
  have h := congrArg (hsN 4) (low_high x)
  rw [hsN_xor, four_high] at h
  exact h

def stepsTab : List Int := [0, 1166650509, 2333301018, 3466261911, 3189058079, 4221339282, 889615109, 1888477064, 3558460437, 2442158232, 1594529039, 444807554, 1779230218, 797264519, 3776954128, 2761298845]
theorem stepsTab_at : ∀ r : Nat, r < 16 → stepsTab.getD r 0 = ((hsN 4 r : Nat) : Int) := by decide +kernel
end Go.Proofs.YtihgkocfgjihhaaGreatDoor

namespace Go.Proofs.YtihgkocfgjihhaaGreatDoor
open Go

theorem leaves_put {P : Program} {fn : Func} {j : Nat} {v : Value} {R : Ending → World → Prop} (hr : ∀ t : Array Value, results fn (t.setIfInBounds j v) = results fn t) :
    ∀ (ds : List Deferred) (t : Array Value) (u : FrameMode) (w : World), Leaves P fn (t.setIfInBounds j v) R ds u w → Leaves P fn t R ds u w
  | [], t, .returning, _, h => by
    obtain ⟨x, h1, h2⟩ := h
    rw [hr] at h1
    exact ⟨x, h1, h2⟩
  | [], _, .panicking _, _, h => h
  | [], _, .run, _, h => h
  | _ :: ds, t, _, _, ⟨hu, fv, cap, f, args, e1, e2, e3⟩ => ⟨hu, fv, cap, f, args, e1, e2, e3.mono fun e u' w' hh => by
      cases e with
      | returned _ => exact leaves_put hr ds t _ _ hh
      | panicked _ => exact leaves_put hr ds t _ _ hh
      | outgrown => exact hh⟩
theorem panic_put {P : Program} {fn : Func} {j : Nat} {v : Value} {R : Ending → World → Prop} (hr : ∀ t : Array Value, results fn (t.setIfInBounds j v) = results fn t) (c : List PanicEntry) (a : Act) (w : World) (h : bodyPostD P fn R (.panic c) (a.put (some j) v) w) : bodyPostD P fn R (.panic c) a w :=
  leaves_put hr a.defers a.tmps (.panicking c) w h
end Go.Proofs.YtihgkocfgjihhaaGreatDoor
