/-
  Snapshots as data, and their texts; nothing of the program stands here.
-/
import Derived.Test.YtnpdidcfpmiefaaDoorPlainConfText
import Derived.Test.YtnpdidcfpmiefaaDoorPlainReadEntry
import Derived.Test.YtnpdidcfpmiefaaDoorPlainShort
import Derived.Test.YtnpdidcfpmiefaaDoorPlainSeal
namespace Go.Proofs.YtnpdidcfpmiefaaDoor
open Go.RowKit

/-- a snapshot: its index, its term, its conf, its body -/
abbrev snapV (ix tm : Int) (v : Value) (bd : ByteArray) : Value := .agg #[.int .i64 ix, .int .i64 tm, v, .string bd]
/-- a short text with its length ahead -/
def shortT (s : ByteArray) : ByteArray := ⟨(vb s.size).toArray⟩ ++ s
/-- what is sealed of a snapshot -/
def snapIn (ix tm : Nat) (zs : List Int) (bd : ByteArray) : ByteArray := ⟨(vb ix).toArray⟩ ++ ⟨(vb tm).toArray⟩ ++ shortT ⟨(confBytes zs).toArray⟩ ++ shortT bd
def snapOk (ix tm : Int) (zs : List Int) (bd : ByteArray) : Bool := confOk zs && (within ix 0 1000000 && within tm 0 100000) && decide ((snapIn ix.toNat tm.toNat zs bd).size ≤ 19996)
def snapText (ix tm : Int) (zs : List Int) (bd : ByteArray) : ByteArray × Bool := if snapOk ix tm zs bd = true then (sealOf (snapIn ix.toNat tm.toNat zs bd), true) else (ByteArray.empty, false)

theorem snapOk_iff {ix tm : Int} {zs : List Int} {bd : ByteArray} : snapOk ix tm zs bd = true ↔ confOk zs = true ∧ ((0 ≤ ix ∧ ix ≤ 1000000) ∧ (0 ≤ tm ∧ tm ≤ 100000)) ∧ (snapIn ix.toNat tm.toNat zs bd).size ≤ 19996 := by
  simp only [snapOk, Bool.and_eq_true, within_iff, decide_eq_true_eq, and_assoc]
theorem snapText_no {ix tm : Int} {zs : List Int} {bd : ByteArray} (h : ¬ snapOk ix tm zs bd = true) : snapText ix tm zs bd = (ByteArray.empty, false) := by rw [snapText, if_neg h]
theorem snapText_yes {ix tm : Int} {zs : List Int} {bd : ByteArray} (h : snapOk ix tm zs bd = true) : snapText ix tm zs bd = (sealOf (snapIn ix.toNat tm.toNat zs bd), true) := by rw [snapText, if_pos h]
theorem shortT_size (s : ByteArray) : (shortT s).size = (vb s.size).length + s.size := by
  rw [shortT, ByteArray.size_append]
  rfl
theorem snapIn_size (ix tm : Nat) (zs : List Int) (bd : ByteArray) : (snapIn ix tm zs bd).size = (vb ix).length + (vb tm).length + (shortT ⟨(confBytes zs).toArray⟩).size + (shortT bd).size := by
  rw [snapIn, ByteArray.size_append, ByteArray.size_append, ByteArray.size_append]
  rfl
theorem snapText_conf {ix tm : Int} {zs : List Int} {bd : ByteArray} (h : confOk zs = false) : snapText ix tm zs bd = (ByteArray.empty, false) := snapText_no (by rw [snapOk_iff, h]; simp)
theorem snapText_ix {ix tm : Int} {zs : List Int} {bd : ByteArray} (h : within ix 0 1000000 = false) : snapText ix tm zs bd = (ByteArray.empty, false) := snapText_no (by rw [snapOk, h]; simp)
theorem snapText_tm {ix tm : Int} {zs : List Int} {bd : ByteArray} (h : within tm 0 100000 = false) : snapText ix tm zs bd = (ByteArray.empty, false) := snapText_no (by rw [snapOk, h]; simp)
theorem snapText_big {ix tm : Int} {zs : List Int} {bd : ByteArray} (h : 20000 < bd.size) : snapText ix tm zs bd = (ByteArray.empty, false) := snapText_no (by
  rw [snapOk_iff]
  rintro ⟨_, _, h3⟩
  rw [snapIn_size, shortT_size bd] at h3
  omega)
theorem snapText_long {ix tm : Int} {zs : List Int} {bd : ByteArray} (h : 19996 < (snapIn ix.toNat tm.toNat zs bd).size) : snapText ix tm zs bd = (ByteArray.empty, false) := snapText_no (by
  rw [snapOk_iff]
  rintro ⟨_, _, h3⟩
  omega)
theorem vb_short {n : Nat} (h : n ≤ 1000000) : (vb n).length ≤ 3 := by
  rcases Nat.lt_or_ge 127 n with h1 | h1
  · rw [vb_big h1]
    rcases Nat.lt_or_ge 127 (n / 128) with h2 | h2
    · rw [vb_big h2, vb_small (show n / 128 / 128 ≤ 127 by omega)]
      simp
    · rw [vb_small h2]
      simp
  · rw [vb_small h1]
    simp
theorem confBytes_size (zs : List Int) : (⟨(confBytes zs).toArray⟩ : ByteArray).size = zs.length := by
  show (confBytes zs).toArray.size = _
  rw [List.size_toArray, confBytes_length]
/-- how long what is sealed is, at the most -/
theorem snapIn_le {ix tm : Nat} {zs : List Int} {bd : ByteArray} (h1 : ix ≤ 1000000) (h2 : tm ≤ 1000000) (h3 : zs.length ≤ 1000000) (h4 : bd.size ≤ 1000000) : (snapIn ix tm zs bd).size ≤ 12 + zs.length + bd.size := by
  rw [snapIn_size, shortT_size, shortT_size, confBytes_size]
  have a := vb_short h1
  have b := vb_short h2
  have c := vb_short h3
  have d := vb_short h4
  omega
end Go.Proofs.YtnpdidcfpmiefaaDoor
