/-
  Plain facts on the parts of a line; nothing of the program stands here.
-/
import Derived.Test.YtkdpecjjalddbabPlainRows
import Derived.Test.YtkdpecjjalddbabPlainFig
namespace Go.Proofs.Ytkdpecjjalddbab
open Go.RowKit

/-- a blank stands at k, or the line ends there -/
def blankAt (s : ByteArray) (k : Nat) : Bool := if h : k < s.size then s[k].toNat == 32 else true

/-- where the part at hand begins, and the parts ahead of it, when k places are gone through -/
def stt (s : ByteArray) : Nat → Nat × List ByteArray
  | 0 => (0, [])
  | k + 1 => if blankAt s k then (k + 1, if (stt s k).1 < k then (stt s k).2 ++ [s.extract (stt s k).1 k] else (stt s k).2) else stt s k

theorem stt_bd (s : ByteArray) : ∀ k, (stt s k).1 ≤ k ∧ (stt s k).2.length ≤ k
  | 0 => by simp [stt]
  | k + 1 => by
    have := stt_bd s k
    simp only [stt]
    split
    · constructor
      · simp
      · simp only
        split
        · simp; omega
        · omega
    · omega

theorem stt_on {s : ByteArray} {k : Nat} (h : blankAt s k = false) : stt s (k + 1) = stt s k := by simp [stt, h]
theorem stt_part {s : ByteArray} {k : Nat} (h : blankAt s k = true) (hb : (stt s k).1 < k) : stt s (k + 1) = (k + 1, (stt s k).2 ++ [s.extract (stt s k).1 k]) := by simp [stt, h, hb]
theorem stt_none {s : ByteArray} {k : Nat} (h : blankAt s k = true) (hb : ¬ (stt s k).1 < k) : stt s (k + 1) = (k + 1, (stt s k).2) := by simp [stt, h, hb]

theorem blank_no {s : ByteArray} {k : Nat} (hk : k < s.size) (h : (s[k].toNat : Int) ≠ 32) : blankAt s k = false := by
  unfold blankAt; rw [dif_pos hk]; simp; omega
theorem blank_yes {s : ByteArray} {k : Nat} (hk : k < s.size) (h : (s[k].toNat : Int) = 32) : blankAt s k = true := by
  unfold blankAt; rw [dif_pos hk]; simp; omega
theorem blank_end {s : ByteArray} {k : Nat} (hk : ¬ k < s.size) : blankAt s k = true := by
  unfold blankAt; rw [dif_neg hk]

def PlainL (l : List UInt8) : Prop := ∀ c ∈ l, 32 ≤ c.toNat ∧ c.toNat ≤ 126

theorem PlainL.snoc {s : ByteArray} {k : Nat} (hk : k < s.size) (h : PlainL (s.data.toList.take k)) (h1 : 32 ≤ s[k].toNat) (h2 : s[k].toNat ≤ 126) : PlainL (s.data.toList.take (k + 1)) := by
  rw [take_snoc s k hk]
  intro x hx
  rcases List.mem_append.1 hx with hx | hx
  · exact h x hx
  · simp at hx; subst hx; exact ⟨h1, h2⟩
theorem not_plain {s : ByteArray} {k : Nat} (hk : k < s.size) (h : (s[k].toNat : Int) < 32 ∨ 126 < (s[k].toNat : Int)) : ¬ PlainL s.data.toList := by
  intro hp
  have := hp s[k] (mem_at s k hk)
  omega

/-- a line that has parts -/
def PartsOk (s : ByteArray) : Prop := s.size ≤ 600 ∧ PlainL s.data.toList ∧ (stt s (s.size + 1)).2.length ≤ 10

theorem part_step {s : ByteArray} {k : Nat} {w wr w1 : World} {v v' : Value} {B : Obj} {base : Nat} (hbase : w.heap.size ≤ base) (hbl : blankAt s k = true) (hlt : (stt s k).1 < k) (hown : wr.ownsRow base 9 1 v (stt s k).2.length (st (stt s k).2))
    (hown' : w1.ownsRow base 9 1 v' ((stt s k).2.length + 1) (st (stt s k).2 ++ [.string (s.extract (stt s k).1 k)])) (hgrow : (wr.alloc B).grownBy w1 v.ownBlock) (hb : Below w.heap.size w wr) :
    w1.ownsRow base 9 1 v' (stt s (k + 1)).2.length (st (stt s (k + 1)).2) ∧ Below w.heap.size w w1 := by
  refine ⟨?_, (hb.alloc hb.size _).grown hgrow (by have := hb.size; simp; omega) (fun j hj => by have := (hown.lt j hj).1; omega)⟩
  rw [stt_part hbl hlt]
  simp only [List.length_append, List.length_cons, List.length_nil, st_append]
  exact hown'
end Go.Proofs.Ytkdpecjjalddbab
