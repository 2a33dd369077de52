/-
  The walk of spec.l11Two: two bytes.
-/
import Derived.Test.YthkkhmmcgjcedaaDoorJoint1
import Derived.Test.YthkkhmmcgjcedaaDoorRows
import Derived.WalkKit
import Derived.WalkSmall
namespace Go.Proofs.YthkkhmmcgjcedaaDoor
open Go.RowKit

set_option maxRecDepth 1000000 in
theorem l11Two_any (n : Nat) (hn : n ≤ 65535) (w : World) :
    Calls Tryd.prog 21 #[.int .i64 n] w fun e w' => e = .returned (.string ⟨(twoB n).toArray⟩) ∧ Below w.heap.size w w' := by
  obtain ⟨a, ha⟩ : ∃ a, n / 256 = a := ⟨_, rfl⟩
  obtain ⟨b, hb⟩ : ∃ b, n % 256 = b := ⟨_, rfl⟩
  have ha2 : a ≤ 255 := by omega
  have hb2 : b ≤ 255 := by omega
  have hq : (n : Int).tdiv 256 = (a : Int) := by rw [Int.tdiv_eq_ediv_of_nonneg (by omega)]; omega
  have hr : (n : Int).tmod 256 = (b : Int) := by rw [Int.tmod_eq_emod_of_nonneg (by omega)]; omega
  have hq2 : (n : Int) / 256 = (a : Int) := by omega
  have hr2 : (n : Int) % 256 = (b : Int) := by omega
  have hwa : IntKind.u8.wrap (a : Int) = (a : Int) := by rw [IntKind.wrap_u8]; omega
  have hwb : IntKind.u8.wrap (b : Int) = (b : Int) := by rw [IntKind.wrap_u8]; omega
  have hcv := two2_new w ha2 hb2
  have HR : Hid ((⟨(twoB n).toArray⟩ : ByteArray) = two2 a b) := by show _ = _; rw [twoB, ha, hb]; rfl
  have HB := hid (below_more (Below.refl w.heap.size w) (.cells #[.int .u8 (a : Int), .int .u8 (b : Int)] 5))
  clear ha hb
  go_enter Tryd.func21, Tryd.ntmps21
  go_wp2
  go_ret
  exact ⟨by rw [HR.out]; rfl, HB.out⟩
end Go.Proofs.YthkkhmmcgjcedaaDoor
