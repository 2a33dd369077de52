/-
  The walk of spec.l01Long: a text of so many bytes.
-/
import Derived.Test.YtjkgjnpifdafaaaJoint2
namespace Go.Proofs.Ytjkgjnpifdafaaa
open Go.RowKit

theorem curLong_info5 : (Try.prog.info? 5).map (fun i => (i.zero, i.size, i.bytes)) = some (some (.int .u8 0), 1, 1) := by kernel_rfl

theorem zeros_cs (n : Nat) : (madeCells #[Value.int .u8 0] n).toList = cs (List.replicate n 0) := by
  apply List.ext_getElem?
  intro i
  simp only [madeCells, cs, Array.toList_map, List.getElem?_map, List.getElem?_replicate]
  by_cases h : i < n
  · simp [h, Nat.mod_one]
  · simp [h]

set_option maxRecDepth 1000000 in
set_option maxHeartbeats 1000000 in
theorem l01Long_any (n : Nat) (hn : n ≤ 1000000) (x : Int) (x0 : 0 ≤ x) (x1 : x ≤ 255) (w : World) :
    Calls Try.prog 69 #[.int .i64 n, .int .u8 x] w fun e w' => ∃ s : ByteArray, e = .returned (.string s) ∧ s.size = n ∧ Below w.heap.size w w' := by
  obtain ⟨i0, hi, hz0, hz1, hz2⟩ := info_parts curLong_info5
  go_enter Try.func69, Try.ntmps69
  go_wp2_with (at_make; refine wpList_make_full _ rfl (.tmp 7) (.tmp 7) 44 rfl w.heap.size 5 i0 (.int .u8 0) 1 Try.underlying44 hi hz0 hz1 _ _ _ _ n rfl rfl rfl rfl ?b2 ?b3 ?b4 ?_)
  case b2 => rw [hz2]; omega
  case b3 => unfold maxLen; omega
  case b4 => exact Nat.le_refl _
  intro w0 hown0 hgrow0
  rw [zeros_cs] at hown0
  have hb0 : Below w.heap.size w w0 := (Below.refl _ _).grown hgrow0 (Nat.le_refl _) (fun k h => by cases h)
  clear hgrow0
  go_wp2
  go_loopw [6] (fun i wr => ∃ (k : Nat) (l : List UInt8), k ≤ n ∧ i = .int .i64 k ∧ l.length = n ∧ wr.ownsRow w.heap.size 5 1 (.slice (some ⟨w.heap.size, 0, none⟩) n n) n (cs l) ∧ Below w.heap.size w wr) (fun i _ => n - (intOf i).toNat)
  case atStart => exact ⟨0, List.replicate n 0, Nat.zero_le _, rfl, by simp, hown0, hb0⟩
  case round =>
    obtain ⟨k, l, hk, rfl, hl, hown, hb⟩ := hrel
    clear hown0 hb0
    have HL := (show Hid _ from hl)
    clear hl
    by_cases hlt : k < n
    · obtain ⟨u0, hc0, hf0⟩ := at_row hown k hlt
      have k1 : (k : Int) < (n : Int) := by omega
      have HO : Hid ((wr.setCell ⟨w.heap.size, k, none⟩ (.int .u8 x)).ownsRow w.heap.size 5 1 (.slice (some ⟨w.heap.size, 0, none⟩) n n) n (cs (l.set k (UInt8.ofNat x.toNat)))) := by
        have h1 := ownsRow_set hown (g := w.heap.size) rfl k (.int .u8 x)
        have h2 : (cs l).set k (.int .u8 x) = cs (l.set k (UInt8.ofNat x.toNat)) := by
          have e : Value.int .u8 x = .int .u8 ((UInt8.ofNat x.toNat).toNat : Int) := by rw [UInt8.toNat_ofNat']; congr 1; omega
          rw [e]
          simp only [cs, List.map_set]
        rw [h2] at h1
        exact h1
      have HB := (show Hid _ from hb.setCell (p := ⟨w.heap.size, k, none⟩) (Nat.le_refl _) (.int .u8 x))
      clear hown hb
      go_wp2
      go_roundw
      case rel => exact ⟨k + 1, l.set k (UInt8.ofNat x.toNat), by omega, by go_num, by simp [HL.out], HO.out, HB.out⟩
      case measure => simp [intOf]; omega
    · have hown2 : wr.ownsRow w.heap.size 5 1 (.slice (some ⟨w.heap.size, 0, none⟩) n n) l.length (cs l) := by rw [HL.out]; exact hown
      have hcv := text_of_row (P := Try.prog) Try.underlying44 Try.underlying5 Try.underlying9 hown2
      clear hown hown2
      go_wp2
      go_ret
      exact ⟨_, rfl, by simp [ByteArray.size, HL.out], hb⟩
end Go.Proofs.Ytjkgjnpifdafaaa
