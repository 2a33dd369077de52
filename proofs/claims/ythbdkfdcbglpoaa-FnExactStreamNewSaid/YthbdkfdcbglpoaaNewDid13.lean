/-
  What StreamNew answers, as the law asks it.
-/
import Derived.Test.YthbdkfdcbglpoaaStrNewS
import Derived.Test.YthbdkfdcbglpoaaStrNewI
import Derived.Test.YthbdkfdcbglpoaaStrRow
namespace Go.Proofs.Ythbdkfdcbglpoaa
open Go.RowKit

theorem newD_late (n : Int) (b : Bool) : (newD n b).late.length = 0 := by unfold newD; split <;> rfl
theorem new_did {w w' : World} {n : Int} {b ok : Bool} {e : Ending} (he : e = .returned (.tuple #[.agg (strCells (newD n b) none 0).toArray, .bool ok])) (hb : Below w.heap.size w w') : StrDid2 w (newD n b) ok e w' :=
  ⟨none, 0, he, by rw [newD_late]; exact Nat.le_refl _, Or.inl (newD_late n b), hb⟩
theorem specNew_did (n : Int) (b : Bool) (w : World) : Calls Try.prog 9 #[.int .i64 n, .bool b] w fun e w' => StrDid2 w (newD n b) (within n 0 65535) e w' :=
  (specStreamNew_any n b w).mono fun _ _ h => new_did h.1 h.2
theorem implNew_did (n : Int) (b : Bool) (w : World) : Calls Try.prog 10 #[.int .i64 n, .bool b] w fun e w' => StrDid2 w (newD n b) (within n 0 65535) e w' :=
  (implStreamNew_any n b w).mono fun _ _ h => new_did h.1 h.2
end Go.Proofs.Ythbdkfdcbglpoaa
