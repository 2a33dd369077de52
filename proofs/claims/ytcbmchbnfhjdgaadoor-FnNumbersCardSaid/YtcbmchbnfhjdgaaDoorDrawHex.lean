/-
  The walk of spec.DrawHex: some text.
-/
import Derived.Test.YtcbmchbnfhjdgaaDoorCurOnce
import Derived.Test.YtcbmchbnfhjdgaaDoorCurText
import Derived.Test.YtcbmchbnfhjdgaaDoorCurLong
import Derived.Test.YtcbmchbnfhjdgaaDoorCurNew
namespace Go.Proofs.YtcbmchbnfhjdgaaDoor
open Go.RowKit

set_option maxRecDepth 1000000 in
set_option maxHeartbeats 1000000 in
theorem drawHex_any (ao : Option Addr) (len cap : Nat) (hlen : len ≤ 1048576) (hcap : len ≤ cap) (w : World) (hr : Bytes w ao len) :
    Calls Tryd.prog 11 #[.slice ao len cap] w fun e w' => ∃ s : ByteArray, e = .returned (.string s) ∧ s.size ≤ 20001 ∧ Below w.heap.size w w' := by
  have HR := (show Hid (Bytes w ao len) from hr)
  clear hr
  go_enter Tryd.func11, Tryd.ntmps11
  go_wp2_with fail
  refine (l01New_any ao len cap hlen hcap _ HR.out).mono ?_
  rintro e w1 ⟨rfl, k1, b1⟩
  have K1 := (show Hid (CurAt w1 w.heap.size) from k1)
  clear k1
  go_wp2_with fail
  refine (l01Once_any w.heap.size 60 (by omega) (by omega) _ K1.out).mono ?_
  rintro e w2 ⟨bb, rfl, k2, q2⟩
  have K2 := (show Hid (CurAt w2 w.heap.size) from k2)
  have B2 := (show Hid (Below w.heap.size w w2) from below_cur b1 q2)
  clear k2 q2
  cases bb
  · go_wp2_with fail
    refine (l01Below_any w.heap.size 30 (by omega) (by omega) _ K2.out).mono ?_
    rintro e w3 ⟨y, rfl, y0, y1, k3, q3⟩
    obtain ⟨n, rfl⟩ : ∃ n : Nat, y = n := ⟨y.toNat, by omega⟩
    have K3 := (show Hid (CurAt w3 w.heap.size) from k3)
    have B3 := (show Hid (Below w.heap.size w w3) from below_cur B2.out q3)
    clear k3 q3
    go_wp2_with fail
    refine (l01Text_any w.heap.size n (by omega) _ K3.out).mono ?_
    rintro e w4 ⟨s, rfl, hs, k4, q4⟩
    have HS := (show Hid (s.size = n) from hs)
    have B4 := (show Hid (Below w.heap.size w w4) from below_cur B3.out q4)
    clear k4 q4 hs
    go_wp2
    go_ret
    exact ⟨_, rfl, by have := HS.out; omega, B4.out⟩
  · go_wp2_with fail
    refine (l01Below_any w.heap.size 2 (by omega) (by omega) _ K2.out).mono ?_
    rintro e w3 ⟨y, rfl, y0, y1, k3, q3⟩
    obtain ⟨n, rfl⟩ : ∃ n : Nat, y = n := ⟨y.toNat, by omega⟩
    have B3 := (show Hid (Below w.heap.size w w3) from below_cur B2.out q3)
    have C3 := (show Hid _ from l01Long_any (20000 + n) (by omega) 200 (by omega) (by omega))
    clear k3 q3
    go_wp2_with fail
    refine (C3.out _).mono ?_
    rintro e w4 ⟨s, rfl, hs, b4⟩
    have HS := (show Hid (s.size = 20000 + n) from hs)
    have B4 := (show Hid (Below w.heap.size w w4) from B3.out.trans (b4.mono B3.out.size))
    clear b4 hs
    go_wp2
    go_ret
    exact ⟨_, rfl, by have := HS.out; omega, B4.out⟩
end Go.Proofs.YtcbmchbnfhjdgaaDoor
