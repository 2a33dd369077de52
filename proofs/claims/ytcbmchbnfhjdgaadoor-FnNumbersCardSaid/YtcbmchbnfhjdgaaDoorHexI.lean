/-
  The walk of impl.Hex: what it answers.
-/
import Derived.Test.YtcbmchbnfhjdgaaDoorRows
import Derived.Test.YtcbmchbnfhjdgaaDoorPlainHex
import Derived.Deep.RegionHeld3
import Derived.Deep.AppendLies
import Derived.WalkKit
namespace Go.Proofs.YtcbmchbnfhjdgaaDoor
open Go.RowKit

theorem hexI_info5 : (Tryd.prog.info? 5).map (fun i => (i.zero, i.size, i.bytes)) = some (some (.int .u8 0), 1, 1) := by kernel_rfl

theorem figs : ∀ n : Fin 16, (((ByteArray.mk #[48, 49, 50, 51, 52, 53, 54, 55, 56, 57, 97, 98, 99, 100, 101, 102])[n.val]'(by have := n.isLt; simp [ByteArray.size])).toNat : Int) = fig (n.val : Int) := by decide

theorem const_at (x : Int) (h0 : 0 ≤ x) (h1 : x ≤ 15) (wx : World) :
    (Instr.index 9 (.string ⟨#[48, 49, 50, 51, 52, 53, 54, 55, 56, 57, 97, 98, 99, 100, 101, 102]⟩) (.int .u8 x)).run Tryd.prog wx = .ok (.int .u8 (fig x)) wx := by
  rw [run_index_string wx 9 _ .u8 x Tryd.underlying9, dif_pos (by simp [ByteArray.size]; omega)]
  have h := figs ⟨x.toNat, by omega⟩
  simp only at h
  have e : ((x.toNat : Nat) : Int) = x := by omega
  rw [e] at h
  rw [h]

theorem u8_quo (b : UInt8) : IntKind.u8.wrap ((b.toNat : Int) / 16) = (b.toNat : Int) / 16 := by
  have hb := b.toNat_lt
  simp [IntKind.wrap, IntKind.signed, IntKind.bits]; omega
theorem u8_rem (b : UInt8) : (b.toNat : Int).tmod 16 = (b.toNat : Int) % 16 := by
  rw [Int.tmod_eq_emod_of_nonneg (by omega)]

theorem const_quo (b : UInt8) (wx : World) :
    (Instr.index 9 (.string ⟨#[48, 49, 50, 51, 52, 53, 54, 55, 56, 57, 97, 98, 99, 100, 101, 102]⟩) (.int .u8 (IntKind.u8.wrap ((b.toNat : Int) / 16)))).run Tryd.prog wx = .ok (.int .u8 (fig ((b.toNat : Int) / 16))) wx := by
  have hb := b.toNat_lt
  rw [u8_quo]
  exact const_at _ (by omega) (by omega) wx
theorem const_rem (b : UInt8) (wx : World) :
    (Instr.index 9 (.string ⟨#[48, 49, 50, 51, 52, 53, 54, 55, 56, 57, 97, 98, 99, 100, 101, 102]⟩) (.int .u8 ((b.toNat : Int).tmod 16))).run Tryd.prog wx = .ok (.int .u8 (fig ((b.toNat : Int) % 16))) wx := by
  have hb := b.toNat_lt
  rw [u8_rem]
  exact const_at _ (by omega) (by omega) wx

attribute [local go_sem ↓] const_quo const_rem

set_option maxRecDepth 1000000 in
set_option maxHeartbeats 1000000 in
theorem implHex_yes (s : ByteArray) (hs : s.size ≤ 20000) (w : World) :
    Calls Tryd.prog 14 #[.string s] w fun e w' => e = .returned (.tuple #[.string ⟨(hexOf s.data.toList).toArray⟩, .bool true]) ∧ Below w.heap.size w w' := by
  obtain ⟨i0, hi, hz0, hz1, hz2⟩ := info_parts hexI_info5
  go_enter Tryd.func14, Tryd.ntmps14
  go_wp2_with (at_make; refine wpList_make_own _ rfl _ _ 22 rfl w.heap.size 5 i0 (.int .u8 0) 1 Tryd.underlying22 hi hz0 hz1 _ _ _ (2 * s.size) rfl rfl ?b1 ?b2 ?b3 ?b4 ?_)
  case b1 => omega
  case b2 => rw [hz2]; omega
  case b3 => unfold maxLen; omega
  case b4 => exact Nat.le_refl _
  intro w0 hown0 hgrow0
  have hb0 : Below w.heap.size w w0 := (Below.refl _ _).grown hgrow0 (Nat.le_refl _) (fun k h => by cases h)
  clear hgrow0
  go_wp2
  go_loopw [4, 5] (fun v i wr => ∃ (k : Nat), k ≤ s.size ∧ i = .int .i64 k ∧ wr.ownsRow w.heap.size 5 1 v (2 * k) (cs (hexOf (s.data.toList.take k))) ∧ Below w.heap.size w wr) (fun _ i _ => s.size - (intOf i).toNat)
  case atStart => exact ⟨0, Nat.zero_le _, rfl, hown0, hb0⟩
  case round =>
    obtain ⟨k, hk, rfl, hown, hb⟩ := hrel
    have hsz := hb.size
    clear hown0 hb0
    by_cases hlt : k < s.size
    · have c0 : (s[k].toNat : Int) ≤ 255 := by have := s[k].toNat_lt; omega
      have k0 : (0 : Int) ≤ (k : Int) := Int.natCast_nonneg _
      have k1 : (k : Int) < (s.size : Int) := by omega
      have hR := fun g cap w1 B (h1 : w1.ownsRow w.heap.size 5 1 (.slice (some ⟨g, 0, none⟩) (2 * k + 2) cap) (2 * k + 2) _) h2 => hex_step (g := g) (cap := cap) (w1 := w1) (B := B) hlt hown h1 h2 hb
      have HR := (show Hid _ from hR)
      clear hR
      go_wp2
      go_region_held3 (fun _ => True) (trivial) (first
        | (refine step_append_lies _ ?_ (.tmp 19) (.tmp 30) 22 ?_ w.heap.size 5 i0 _ 1 1 Tryd.underlying22 hi hz0 hz1 hz2 rfl ?_ _ (2 * k) _ ?_ ((hown.alloc _).drew) ⟨wr.heap.size, 0, none⟩ 2 2 [.int .u8 (fig ((s[k].toNat : Int) / 16)), .int .u8 (fig ((s[k].toNat : Int) % 16))] ?_ ?_ ?_ ?_ ?_ ?_ ?_ ?_ (wr.heap.size + 1) ?_ ?_; (focus rfl); (focus rfl); (focus decide); (focus rfl); (focus rfl); (focus rfl); (focus exact World.news_of_block (cs := #[.int .u8 (fig ((s[k].toNat : Int) / 16)), .int .u8 (fig ((s[k].toNat : Int) % 16))]) (t := 5) (fr := (0, 0)) (heap_alloc_new wr _)); (focus simp [Value.oneCell']); (focus decide); (focus (unfold maxLen; omega)); (focus omega); (focus (simp; omega)); (focus simp); intro g cap w1 hown1 hgrow hat hlt1))
      all_goals
        have R := HR.out g cap w1 _ hown1 hgrow
        clear hown1 hgrow HR hown hb
        go_wp2
        go_roundw
        case rel => exact ⟨k + 1, by omega, by go_num, R.1, R.2⟩
        case measure => simp [intOf]; omega
    · have hks : k = s.size := by omega
      have hown2 : wr.ownsRow w.heap.size 5 1 u4 (hexOf s.data.toList).length (cs (hexOf s.data.toList)) := by
        have e : s.data.toList.take k = s.data.toList := List.take_of_length_le (by simp; omega)
        have e2 : 2 * k = (hexOf s.data.toList).length := by rw [hexOf_length]; simp; omega
        rw [e, e2] at hown
        exact hown
      have hcv := text_of_row (P := Tryd.prog) Tryd.underlying22 Tryd.underlying5 Tryd.underlying9 hown2
      clear hown hown2 hks
      go_wp2
      go_ret2
      exact ⟨rfl, hb⟩

theorem implHex_no (s : ByteArray) (hs : 20000 < s.size) (w : World) :
    Calls Tryd.prog 14 #[.string s] w fun e w' => e = .returned (.tuple #[.string ByteArray.empty, .bool false]) ∧ Below w.heap.size w w' := by
  go_enter Tryd.func14, Tryd.ntmps14
  go_wp2
  go_ret2
  exact ⟨rfl, Below.refl _ _⟩
end Go.Proofs.YtcbmchbnfhjdgaaDoor
