/-
  The name of a snapshot's file; nothing of the program stands here.
-/
import Derived.Test.YtnpdidcfpmiefaaDoorPlainIn
import Derived.Test.YtnpdidcfpmiefaaDoorPlainDec
namespace Go.Proofs.YtnpdidcfpmiefaaDoor

/-- a snapshot's name -/
def sname (n : Int) : ByteArray := if within n 0 1000000 = true then ⟨#[115]⟩ ++ ⟨(dec n).toArray⟩ else ⟨#[]⟩
theorem sname_yes {n : Int} (h : within n 0 1000000 = true) : sname n = ⟨#[115]⟩ ++ ⟨(dec n).toArray⟩ := by rw [sname, if_pos h]
theorem sname_no {n : Int} (h : within n 0 1000000 = false) : sname n = ⟨#[]⟩ := by rw [sname, h]; rfl
theorem dec_small7 {n : Int} (h : 0 ≤ n ∧ n ≤ 1000000) : (⟨(dec n).toArray⟩ : ByteArray).size ≤ 7 := by
  show (dec n).toArray.size ≤ 7
  rw [List.size_toArray, dec]
  split
  · simp
  · rw [if_neg (by omega)]
    exact dd_len 7 _ (by omega)
end Go.Proofs.YtnpdidcfpmiefaaDoor
