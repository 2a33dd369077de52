/-
  The walk of spec.l13Take: what is new of a text is taken.
-/
import Derived.Test.YtngcldjkpcmidaaJoint1
import Derived.Test.YtngcldjkpcmidaaJoint17
import Derived.BigRegion
namespace Go.Proofs.Ytngcldjkpcmidaa
open Go.RowKit

set_option maxRecDepth 1000000 in
set_option maxHeartbeats 4000000 in
theorem l13Take_any (lo g : Nat) (d : StrD) (num : Int) (text : ByteArray) (ht : text.size ≤ 1048576) (hi : d.inn.size ≤ 1048576) (w : World) (h : StIs w lo g d) :
    Calls Try.prog 52 #[.pointer (some ⟨g, 0, none⟩), .int .i64 num, .string text] w fun e w' => e = .returned (.tuple #[]) ∧ HsTo lo g w w' (takeD num text d) := by
  have H := hid h.hs
  obtain ⟨N, hN⟩ : ∃ N : Nat, gapNum num d.rcv = (N : Int) := ⟨(gapNum num d.rcv).toNat, by have := gapNum_bd num d.rcv; omega⟩
  have hN2 : (N : Int) ≤ 65535 := by have := gapNum_bd num d.rcv; omega
  have HT : Hid (takeD num text d = (if (N : Int) < text.size then { d with inn := d.inn ++ text.extract N text.size, rcv := addNum d.rcv (text.size - (N : Int)) } else d)) := by show _ = _; rw [takeD, hN, Int.toNat_natCast]
  have CG' := specGap_any num d.rcv w
  rw [hN] at CG'
  have CG := hid CG'
  clear CG' hN
  obtain ⟨_, ao, cap, hb, _⟩ := h
  have c3 := hb.cell (j := 3) rfl
  have c8 := hb.cell (j := 8) rfl
  have f3 := hb.thaw 3
  have f8 := hb.thaw 8
  clear hb
  by_cases q : (N : Int) < (text.size : Int)
  rotate_left
  · have HR : Hid (takeD num text d = d) := by show _ = _; rw [HT.out, if_neg q]
    go_enter Try.func52, Try.ntmps52
    go_wp2_with fail
    refine Calls.mono CG.out ?_
    rintro e w1 ⟨rfl, hw1⟩
    rw [hw1]
    clear hw1 w1
    go_wp2
    refine bodyPost_ret (v := .tuple #[]) (by simp [results, Try.results52]) rfl ?_
    exact ⟨rfl, by rw [HR.out]; exact H.out⟩
  obtain ⟨tx, htx⟩ : ∃ tx, text.extract N text.size = tx := ⟨_, rfl⟩
  have hts : tx.size ≤ 1048576 := by rw [← htx, ByteArray.size_extract]; omega
  have HR : Hid (takeD num text d = { d with inn := d.inn ++ tx, rcv := addNum d.rcv (text.size - (N : Int)) }) := by show _ = _; rw [HT.out, if_pos q, htx]
  have i1 : N ≤ text.size := by omega
  have i2 : (N : Int) ≤ (text.size : Int) := by omega
  go_enter Try.func52, Try.ntmps52
  go_wp2_with fail
  refine Calls.mono CG.out ?_
  rintro e w1 ⟨rfl, hw1⟩
  rw [hw1]
  clear hw1 w1 CG
  go_wp2
  go_region
  all_goals
    obtain ⟨V, hV⟩ : ∃ V, (w.setCell ⟨g, 8, none⟩ (.string (d.inn ++ tx))).drew = V := ⟨_, rfl⟩
    rw [hV]
    have H5 : Hid (HsTo lo g w V { d with inn := d.inn ++ tx }) := by rw [← hV]; exact (H.out.inn _).on (below_drewN (Below.refl _ _) 1)
    obtain ⟨_, ao5, cap5, hb5, _⟩ := H5.out.1.1
    have k3 := hb5.cell (j := 3) rfl
    have j3 := hb5.thaw 3
    clear hb5
    dsimp only at k3
    go_wp2_with fail
    refine Calls.mono (specAddNum_any d.rcv ((text.size : Int) - (N : Int)) _) ?_
    rintro e w6 ⟨rfl, hw6⟩
    rw [hw6]
    clear hw6 w6
    go_wp2
    go_end0
    exact ⟨rfl, by rw [HR.out]; exact H5.out.rcv _⟩
end Go.Proofs.Ytngcldjkpcmidaa
