/-
  The walk of spec.DrawSumOf: some text of less than forty bytes.
-/
import Derived.Test.YticphimfmgkpbaaDoorCurText
import Derived.Test.YticphimfmgkpbaaDoorCurNew
namespace Go.Proofs.YticphimfmgkpbaaDoor
open Go.RowKit

theorem drawSumOf_any (ao : Option Addr) (len cap : Nat) (hlen : len ≤ 1048576) (hcap : len ≤ cap) (w : World) (hr : Bytes w ao len) :
    Calls Tryd.prog 9 #[.slice ao len cap] w fun e w' => ∃ s : ByteArray, e = .returned (.string s) ∧ s.size < 40 ∧ Below w.heap.size w w' := by
  have HR := (show Hid (Bytes w ao len) from hr)
  clear hr
  go_enter Tryd.func9, Tryd.ntmps9
  go_wp2_with fail
  refine (l01New_any ao len cap hlen hcap _ HR.out).mono ?_
  rintro e w1 ⟨rfl, k1, b1⟩
  have K1 := (show Hid (CurAt w1 w.heap.size) from k1)
  clear k1
  go_wp2_with fail
  refine (l01Below_any w.heap.size 40 (by omega) (by omega) _ K1.out).mono ?_
  rintro e w3 ⟨y, rfl, y0, y1, k3, q3⟩
  obtain ⟨n, rfl⟩ : ∃ n : Nat, y = n := ⟨y.toNat, by omega⟩
  have K3 := (show Hid (CurAt w3 w.heap.size) from k3)
  have B3 := (show Hid (Below w.heap.size w w3) from below_cur b1 q3)
  clear k3 q3
  go_wp2_with fail
  refine (l01Text_any w.heap.size n (by omega) _ K3.out).mono ?_
  rintro e w4 ⟨s, rfl, hs, k4, q4⟩
  have HS := (show Hid (s.size = n) from hs)
  have B4 := (show Hid (Below w.heap.size w w4) from below_cur B3.out q4)
  clear k4 q4 hs
  go_wp2
  go_ret
  exact ⟨_, rfl, by have := HS.out; omega, B4.out⟩
end Go.Proofs.YticphimfmgkpbaaDoor
