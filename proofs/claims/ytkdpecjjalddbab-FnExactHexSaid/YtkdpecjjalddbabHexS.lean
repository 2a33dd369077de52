/-
  The walk of spec.Hex: what it answers.
-/
import Derived.Test.YtkdpecjjalddbabRows
import Derived.Test.YtkdpecjjalddbabFigure
import Derived.Deep.RegionHeld3
import Derived.Deep.AppendLies
import Derived.WalkKit
namespace Go.Proofs.Ytkdpecjjalddbab
open Go.RowKit

theorem hex_info5 : (Try.prog.info? 5).map (fun i => (i.zero, i.size, i.bytes)) = some (some (.int .u8 0), 1, 1) := by kernel_rfl

set_option maxRecDepth 1000000 in
set_option maxHeartbeats 1000000 in
theorem specHex_yes (s : ByteArray) (hs : s.size ≤ 20000) (w : World) :
    Calls Try.prog 7 #[.string s] w fun e w' => e = .returned (.tuple #[.string ⟨(hexOf s.data.toList).toArray⟩, .bool true]) ∧ Below w.heap.size w w' := by
  obtain ⟨i0, hi, hz0, hz1, hz2⟩ := info_parts hex_info5
  go_enter Try.func7, Try.ntmps7
  go_wp2
  go_loopw [4, 5] (fun v i wr => ∃ (k : Nat), k ≤ s.size ∧ i = .int .i64 k ∧ wr.ownsRow w.heap.size 5 1 v (2 * k) (cs (hexOf (s.data.toList.take k))) ∧ Below w.heap.size w wr) (fun _ i _ => s.size - (intOf i).toNat)
  case atStart => exact ⟨0, Nat.zero_le _, rfl, World.ownsRow_made w #[] 0 (Nat.le_refl _) (Nat.zero_le _) rfl, (Below.refl _ _).alloc (Nat.le_refl _) _⟩
  case round =>
    obtain ⟨k, hk, rfl, hown, hb⟩ := hrel
    have hsz := hb.size
    by_cases hlt : k < s.size
    · have c0 : (s[k].toNat : Int) ≤ 255 := by have := s[k].toNat_lt; omega
      have k0 : (0 : Int) ≤ (k : Int) := Int.natCast_nonneg _
      have k1 : (k : Int) < (s.size : Int) := by omega
      have hR := fun g cap w1 B (h1 : w1.ownsRow w.heap.size 5 1 (.slice (some ⟨g, 0, none⟩) (2 * k + 2) cap) (2 * k + 2) _) h2 => hex_step (g := g) (cap := cap) (w1 := w1) (B := B) hlt hown h1 h2 hb
      have HR := (show Hid _ from hR)
      clear hR
      go_wp2
      go_region_held3 (fun _ => True) (trivial) (first
        | (simp only [wrap_quo]; go_at_call 18; refine (l01Figure_any _ ?_ ?_ _).mono ?_; (focus omega); (focus omega); rintro e w' ⟨rfl, rfl⟩)
        | (simp only [wrap_rem]; go_at_call 18; refine (l01Figure_any _ ?_ ?_ _).mono ?_; (focus omega); (focus omega); rintro e w' ⟨rfl, rfl⟩)
        | (refine step_append_lies _ ?_ (.tmp 16) (.tmp 29) 32 ?_ w.heap.size 5 i0 _ 1 1 Try.underlying32 hi hz0 hz1 hz2 rfl ?_ _ (2 * k) _ ?_ ((hown.alloc _).drew) ⟨wr.heap.size, 0, none⟩ 2 2 [.int .u8 (fig ((s[k].toNat : Int) / 16)), .int .u8 (fig ((s[k].toNat : Int) % 16))] ?_ ?_ ?_ ?_ ?_ ?_ ?_ ?_ (wr.heap.size + 1) ?_ ?_; (focus rfl); (focus rfl); (focus decide); (focus rfl); (focus rfl); (focus rfl); (focus exact World.news_of_block (cs := #[.int .u8 (fig ((s[k].toNat : Int) / 16)), .int .u8 (fig ((s[k].toNat : Int) % 16))]) (t := 5) (fr := (0, 0)) (heap_alloc_new wr _)); (focus simp [Value.oneCell']); (focus decide); (focus (unfold maxLen; omega)); (focus omega); (focus (simp; omega)); (focus simp); intro g cap w1 hown1 hgrow hat hlt1))
      all_goals
        have R := HR.out g cap w1 _ hown1 hgrow
        clear hown1 hgrow HR hown hb
        go_wp2
        go_roundw
        case rel => exact ⟨k + 1, by omega, by go_num, R.1, R.2⟩
        case measure => simp [intOf]; omega
    · have hks : k = s.size := by omega
      have hown2 : wr.ownsRow w.heap.size 5 1 u4 (hexOf s.data.toList).length (cs (hexOf s.data.toList)) := by
        have e : s.data.toList.take k = s.data.toList := List.take_of_length_le (by simp; omega)
        have e2 : 2 * k = (hexOf s.data.toList).length := by rw [hexOf_length]; simp; omega
        rw [e, e2] at hown
        exact hown
      have hcv := text_of_row (P := Try.prog) Try.underlying32 Try.underlying5 Try.underlying9 hown2
      clear hown hown2 hks
      go_wp2
      go_ret2
      exact ⟨rfl, hb⟩

theorem specHex_no (s : ByteArray) (hs : 20000 < s.size) (w : World) :
    Calls Try.prog 7 #[.string s] w fun e w' => e = .returned (.tuple #[.string ByteArray.empty, .bool false]) ∧ Below w.heap.size w w' := by
  go_enter Try.func7, Try.ntmps7
  go_wp2
  go_ret2
  exact ⟨rfl, Below.refl _ _⟩
end Go.Proofs.Ytkdpecjjalddbab
