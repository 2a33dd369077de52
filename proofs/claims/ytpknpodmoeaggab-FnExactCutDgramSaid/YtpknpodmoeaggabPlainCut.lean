/-
  Plain facts on a datagram's parts; nothing of the program stands here.
-/
import Derived.Test.YtpknpodmoeaggabPlainDgram
namespace Go.Proofs.Ytpknpodmoeaggab
open Go.RowKit

/-- the part that begins at a place -/
def partAt (d : DgramD) (sz k : Nat) : DgramD := ⟨d.src, d.dst, d.ident, d.place + (k * sz : Nat), if d.body.size ≤ k * sz + sz then d.more else true, d.body.extract (k * sz) (min (k * sz + sz) d.body.size)⟩
def cutTo (d : DgramD) (sz k : Nat) : List DgramD := (List.range k).map (partAt d sz)
def nParts (d : DgramD) (sz : Nat) : Nat := (d.body.size + sz - 1) / sz
def cutOk (d : DgramD) (size : Int) : Bool := dgramOk d && within size 8 160
/-- the parts of a datagram -/
def cutD (d : DgramD) (size : Int) : List DgramD := if cutOk d size = true then cutTo d (size.toNat / 8 * 8) (nParts d (size.toNat / 8 * 8)) else []
theorem cutTo_length (d : DgramD) (sz k : Nat) : (cutTo d sz k).length = k := by simp [cutTo]
theorem cutTo_succ (d : DgramD) (sz k : Nat) : cutTo d sz (k + 1) = cutTo d sz k ++ [partAt d sz k] := by simp [cutTo, List.range_succ]
theorem parts_more {d : DgramD} {sz k : Nat} (hs : 0 < sz) : k * sz < d.body.size ↔ k < nParts d sz := by
  unfold nParts
  rw [Nat.lt_div_iff_mul_lt hs]
  constructor <;> intro h <;> omega
theorem parts_done {d : DgramD} {sz k : Nat} (hs : 0 < sz) (h : k ≤ nParts d sz) (h2 : ¬ k * sz < d.body.size) : k = nParts d sz := by
  rw [parts_more hs] at h2
  omega
theorem nParts_le {d : DgramD} {sz : Nat} (hs : 8 ≤ sz) (hb : d.body.size ≤ 160) : nParts d sz ≤ 20 := by
  unfold nParts
  have h1 : (d.body.size + sz - 1) / sz ≤ (160 + sz - 1) / sz := Nat.div_le_div_right (by omega)
  have h2 : (160 + sz - 1) / sz < 21 := by rw [Nat.div_lt_iff_lt_mul (by omega)]; omega
  omega
end Go.Proofs.Ytpknpodmoeaggab
