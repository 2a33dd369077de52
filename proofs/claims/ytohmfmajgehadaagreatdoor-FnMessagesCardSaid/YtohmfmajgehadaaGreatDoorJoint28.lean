/-
  The walks of impl.textWriter's methods number and short: a buffer that is a field.
-/
import Derived.Test.YtohmfmajgehadaaGreatDoorJoint26
import Derived.Test.YtohmfmajgehadaaGreatDoorJoint27
import Derived.Test.YtohmfmajgehadaaGreatDoorJoint1
import Derived.Lib.BufferAt
import Derived.Lib.Hide
namespace Go.Proofs.YtohmfmajgehadaaGreatDoor
open Go.RowKit

/-- a writer that holds these bytes -/
def WrIs (w : World) (B b : Nat) (l : List UInt8) : Prop := LibA.IsBuffer 77 (fun _ => none) 5 B b 0 (Lib.byteCells l) w
theorem WrIs.on {w w' : World} {B b : Nat} {l : List UInt8} (h : WrIs w B b l) (hb : Below w.heap.size w w') : WrIs w' B b l := LibA.IsBuffer.old h hb
theorem cells_app (l m : List UInt8) : Lib.byteCells l ++ Lib.byteCells m = Lib.byteCells (l ++ m) := by simp [Lib.byteCells]
theorem wr_new (w : World) (B : Nat) (hB : B ≤ w.heap.size) : WrIs (w.alloc (.cells #[.slice none 0 0, .int .i64 0, .int .i8 0] 77)) B w.heap.size [] :=
  LibA.zero_isBuffer hB (LibA.three_whole (heap_alloc_new w _))
theorem blk_others {w w' : World} {g b : Nat} {t : TypeId} {cs : List Value} (h : BlockIs w g t cs) (hk : Lib.OthersKept 5 (some b) w w') (ht : t ≠ 5) (hg : g ≠ b) : BlockIs w' g t cs :=
  hk g _ h (fun e => hg (Option.some.inj e)) (fun c fz e => ht (by cases e; rfl))
theorem writeString_on (B b : Nat) (l : List UInt8) (s : ByteArray) (w : World) (h : WrIs w B b l) (hB : B ≤ w.heap.size) (hl : l.length + s.size ≤ 1000000) :
    Calls Tryz.prog 126 #[.pointer (some ⟨b, 0, none⟩), .string s] w fun e w' => e = .returned (.tuple #[.int .i64 s.size, .nilIface]) ∧ WrIs w' B b (l ++ s.data.toList) ∧ Below B w w' ∧ Lib.OthersKept 5 (some b) w w' := by
  refine (Tryz.Buffer_WriteString_at _ _ B b 0 (Lib.byteCells l) s w h hB (Lib.byteCells_one l) (by rw [Lib.byteCells_length]; omega)).mono ?_
  rintro e w' ⟨e1, e2, e3, e4⟩
  rw [cells_app] at e2
  exact ⟨e1, e2, e3, e4⟩
theorem string_on (B b : Nat) (l : List UInt8) (w : World) (h : WrIs w B b l) :
    Calls Tryz.prog 36 #[.pointer (some ⟨b, 0, none⟩)] w fun e w' => e = .returned (.string ⟨l.toArray⟩) ∧ Below w.heap.size w w' := by
  refine (Tryz.Buffer_String_at _ _ B b 0 l w h).mono ?_
  rintro e w' ⟨e1, n, rfl⟩
  exact ⟨e1, below_drewN (Below.refl _ _) n⟩

set_option maxRecDepth 1000000 in
theorem wrNumber_on (B b : Nat) (l : List UInt8) (n : Nat) (hn : n ≤ 1000000000) (w : World) (h : WrIs w B b l) (hB : B ≤ w.heap.size) (hl : l.length ≤ 500000) :
    Calls Tryz.prog 81 #[.pointer (some ⟨b, 0, none⟩), .int .i64 (n : Int)] w fun e w' => e = .returned (.tuple #[]) ∧ WrIs w' B b (l ++ vb n) ∧ Below B w w' ∧ Lib.OthersKept 5 (some b) w w' := by
  have hv := vb_len hn
  have H := hid h
  have hz : (⟨(vb n).toArray⟩ : ByteArray).size = (vb n).length := by show (vb n).toArray.size = _; simp
  have cV := hid (implVarText_yes n hn w)
  have hd : (⟨(vb n).toArray⟩ : ByteArray).data.toList = vb n := by simp
  obtain ⟨T, hT⟩ : ∃ T : ByteArray, ⟨(vb n).toArray⟩ = T := ⟨_, rfl⟩
  rw [hT] at hz cV hd
  clear h hT
  go_enter Tryz.func81, Tryz.ntmps81
  go_wp2_with fail
  refine cV.out.mono ?_
  rintro e w1 ⟨rfl, b1⟩
  have H1 := hid (H.out.on b1)
  have B1 := hid (b1.mono hB)
  have K1 := hid ((Lib.OthersKept.refl 5 (some b) w).below b1)
  have S1 : B ≤ w1.heap.size := Nat.le_trans hB b1.size
  clear b1 cV H
  go_wp2_with fail
  refine (writeString_on B b l T w1 H1.out S1 (by omega)).mono ?_
  rintro e w2 ⟨rfl, h2, b2, k2⟩
  have K2 := hid (K1.out.trans k2)
  have H2 := hid h2
  have B2 := hid (B1.out.trans b2)
  clear h2 b2 k2 H1 B1 K1
  go_wp2
  go_end0
  exact ⟨rfl, by rw [← hd]; exact H2.out, B2.out, K2.out⟩
set_option maxRecDepth 1000000 in
theorem wrShort_on (B b : Nat) (l : List UInt8) (s : ByteArray) (hn : s.size ≤ 20000) (w : World) (h : WrIs w B b l) (hB : B ≤ w.heap.size) (hl : l.length ≤ 500000) :
    Calls Tryz.prog 84 #[.pointer (some ⟨b, 0, none⟩), .string s] w fun e w' => e = .returned (.tuple #[]) ∧ WrIs w' B b (l ++ (vb s.size ++ s.data.toList)) ∧ Below B w w' ∧ Lib.OthersKept 5 (some b) w w' := by
  have hv := vb_len (n := s.size) (by omega)
  have H := hid h
  have hz : ((⟨(vb s.size).toArray⟩ : ByteArray) ++ s).size = (vb s.size).length + s.size := by rw [ByteArray.size_append]; congr 1
  have cV := hid (implShortText_yes s hn w)
  have hd : ((⟨(vb s.size).toArray⟩ : ByteArray) ++ s).data.toList = vb s.size ++ s.data.toList := by simp [ByteArray.data_append]
  obtain ⟨T, hT⟩ : ∃ T : ByteArray, (⟨(vb s.size).toArray⟩ : ByteArray) ++ s = T := ⟨_, rfl⟩
  rw [hT] at hz cV hd
  clear h hT
  go_enter Tryz.func84, Tryz.ntmps84
  go_wp2_with fail
  refine cV.out.mono ?_
  rintro e w1 ⟨rfl, b1⟩
  have H1 := hid (H.out.on b1)
  have B1 := hid (b1.mono hB)
  have K1 := hid ((Lib.OthersKept.refl 5 (some b) w).below b1)
  have S1 : B ≤ w1.heap.size := Nat.le_trans hB b1.size
  clear b1 cV H
  go_wp2_with fail
  refine (writeString_on B b l T w1 H1.out S1 (by omega)).mono ?_
  rintro e w2 ⟨rfl, h2, b2, k2⟩
  have K2 := hid (K1.out.trans k2)
  have H2 := hid h2
  have B2 := hid (B1.out.trans b2)
  clear h2 b2 k2 H1 B1 K1
  go_wp2
  go_end0
  exact ⟨rfl, by rw [← hd]; exact H2.out, B2.out, K2.out⟩
end Go.Proofs.YtohmfmajgehadaaGreatDoor
