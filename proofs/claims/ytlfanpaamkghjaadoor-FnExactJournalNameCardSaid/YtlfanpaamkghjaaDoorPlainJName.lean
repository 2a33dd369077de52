/-
  The name of a journal's file; nothing of the program stands here.
-/
import Derived.Test.YtlfanpaamkghjaaDoorPlainIn
import Derived.Test.YtlfanpaamkghjaaDoorPlainDec
namespace Go.Proofs.YtlfanpaamkghjaaDoor

/-- a journal's name -/
def jname (n : Int) : ByteArray := if within n 0 999 = true then ⟨#[106]⟩ ++ ⟨(dec n).toArray⟩ else ⟨#[]⟩
theorem jname_yes {n : Int} (h : within n 0 999 = true) : jname n = ⟨#[106]⟩ ++ ⟨(dec n).toArray⟩ := by rw [jname, if_pos h]
theorem jname_no {n : Int} (h : within n 0 999 = false) : jname n = ⟨#[]⟩ := by rw [jname, h]; rfl
theorem dec_small {n : Int} (h : 0 ≤ n ∧ n ≤ 999) : (⟨(dec n).toArray⟩ : ByteArray).size ≤ 3 := by
  show (dec n).toArray.size ≤ 3
  rw [List.size_toArray, dec]
  split
  · simp
  · rw [if_neg (by omega)]
    exact dd_len 3 _ (by omega)
end Go.Proofs.YtlfanpaamkghjaaDoor
