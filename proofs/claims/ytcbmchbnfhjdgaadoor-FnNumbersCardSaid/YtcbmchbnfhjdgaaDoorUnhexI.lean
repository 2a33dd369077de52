/-
  The walk of impl.Unhex: what it answers.
-/
import Derived.Test.YtcbmchbnfhjdgaaDoorFigV
import Derived.Test.YtcbmchbnfhjdgaaDoorPlainUnhex
import Derived.Deep.RegionHeld3
import Derived.Deep.AppendLies
import Derived.WalkKit
namespace Go.Proofs.YtcbmchbnfhjdgaaDoor
open Go.RowKit

theorem unhexI_info5 : (Tryd.prog.info? 5).map (fun i => (i.zero, i.size, i.bytes)) = some (some (.int .u8 0), 1, 1) := by kernel_rfl

theorem unh_stepI {s : ByteArray} {i : Nat} {w wr w1 : World} {v v' : Value} {B : Obj} (he : i % 2 = 0) (hk : i + 1 < s.size) (h1 : 0 ≤ lv (s[i].toNat : Int)) (h2 : 0 ≤ lv (s[i + 1].toNat : Int)) (hown : wr.ownsRow w.heap.size 5 1 v (i / 2) (cs (unh (s.data.toList.take i))))
    (hown' : w1.ownsRow w.heap.size 5 1 v' (i / 2 + 1) (cs (unh (s.data.toList.take i)) ++ [.int .u8 (lv (s[i].toNat : Int) * 16 + lv (s[i + 1].toNat : Int))])) (hgrow : (wr.alloc B).drew.grownBy w1 v.ownBlock) (hb : Below w.heap.size w wr) :
    w1.ownsRow w.heap.size 5 1 v' ((i + 2) / 2) (cs (unh (s.data.toList.take (i + 2)))) ∧ Below w.heap.size w w1 := by
  obtain ⟨k, rfl⟩ : ∃ k, i = 2 * k := ⟨i / 2, by omega⟩
  have e1 : 2 * k / 2 = k := by omega
  have e2 : (2 * k + 2) / 2 = k + 1 := by omega
  rw [e1, Int.mul_comm] at hown'
  rw [e1] at hown
  rw [e2]
  exact unh_step (B := B) hk h1 h2 hown hown' ⟨hgrow.os, hgrow.tape, hgrow.output, hgrow.size, hgrow.block⟩ hb

set_option maxRecDepth 1000000 in
set_option maxHeartbeats 1000000 in
theorem implUnhex_any (s : ByteArray) (hs : s.size ≤ 40000) (he : s.size % 2 = 0) (w : World) :
    Calls Tryd.prog 15 #[.string s] w fun e w' =>
      ((Figs 16 s.data.toList ∧ e = .returned (.tuple #[.string ⟨(unh s.data.toList).toArray⟩, .bool true])) ∨ (¬ Figs 16 s.data.toList ∧ e = .returned (.tuple #[.string ByteArray.empty, .bool false]))) ∧ Below w.heap.size w w' := by
  obtain ⟨i0, hi, hz0, hz1, hz2⟩ := info_parts unhexI_info5
  have hs' : ¬ (40000 : Int) < (s.size : Int) := by omega
  have he' : ((s.size : Int) % 2 != 0) = false := by simp; omega
  go_enter Tryd.func15, Tryd.ntmps15
  go_wp2_with fail
  refine (figureValues_any s 16 (by omega) hs _).mono ?_
  rintro e w1 (⟨hF, v, rfl, hownv, hb1⟩ | ⟨hF, rfl, hb1⟩)
  · obtain ⟨ao, cap, rfl, hcells⟩ := values_lie hownv
    have HC := (show Hid _ from hcells)
    have HF := (show Hid _ from hF)
    clear hownv hcells hF
    go_wp2_with (at_make; refine wpList_make_own _ rfl _ _ 22 rfl w1.heap.size 5 i0 (.int .u8 0) 1 Tryd.underlying22 hi hz0 hz1 _ _ _ (s.size / 2) rfl rfl ?b1 ?b2 ?b3 ?b4 ?_)
    case b1 => omega
    case b2 => rw [hz2]; omega
    case b3 => unfold maxLen; omega
    case b4 => exact Nat.le_refl _
    intro w0 hown0 hgrow0
    have hb0 : Below w1.heap.size w1 w0 := (Below.refl _ _).grown hgrow0 (Nat.le_refl _) (fun k h => by cases h)
    clear hgrow0
    go_wp2
    go_loopw [6, 7] (fun v i wr => ∃ (k : Nat), k ≤ s.size ∧ k % 2 = 0 ∧ i = .int .i64 k ∧ wr.ownsRow w1.heap.size 5 1 v (k / 2) (cs (unh (s.data.toList.take k))) ∧ Below w1.heap.size w1 wr) (fun _ i _ => s.size - (intOf i).toNat)
    case atStart => exact ⟨0, Nat.zero_le _, rfl, rfl, hown0, hb0⟩
    case round =>
      obtain ⟨k, hk, hk2, rfl, hown, hb⟩ := hrel
      have hsz := hb.size
      clear hown0 hb0
      by_cases hlt : k < s.size
      · have hlt1 : k + 1 < s.size := by omega
        obtain ⟨g, rfl, hg, hcap, hc⟩ := HC.out (by omega)
        have d1 : wr.cell? ⟨g, k, none⟩ = some (.int .i64 (lv (s[k].toNat : Int))) := (hb.cell (p := ⟨g, k, none⟩) hg).trans (hc k hlt)
        have d2 : wr.cell? ⟨g, k + 1, none⟩ = some (.int .i64 (lv (s[k + 1].toNat : Int))) := (hb.cell (p := ⟨g, k + 1, none⟩) hg).trans (hc (k + 1) hlt1)
        have f1 := HF.out s[k] (mem_at s k hlt)
        have f2 := HF.out s[k + 1] (mem_at s (k + 1) hlt1)
        obtain ⟨f1, f1'⟩ := f1
        obtain ⟨f2, f2'⟩ := f2
        have HK : Hid (∀ (w2 : World) (B : Obj), (wr.alloc B).drew.grownBy w2 u6.ownBlock → ∀ o v, wr.cell? ⟨g, o, none⟩ = some v → w2.cell? ⟨g, o, none⟩ = some v) := by
          intro w2 B hgr o v hv
          rw [hgr.cell_far _ (by simp; omega) (fun e => by have := (hown.lt g e.symm).1; omega)]
          show (wr.alloc B).cell? _ = _
          rw [World.cell?_alloc_past _ _ _ (by show g < _; omega)]
          exact hv
        have k0 : (0 : Int) ≤ (k : Int) := Int.natCast_nonneg _
        have k1 : (k : Int) < (s.size : Int) := by omega
        have k2 : (0 : Int) ≤ (k : Int) + 1 := by omega
        have k3 : (k : Int) + 1 < (s.size : Int) := by omega
        have q1 := i64_id (x := (k : Int) + 1) (by omega) (by omega)
        have q2 := i64_id (x := lv (s[k].toNat : Int) * 16) (by omega) (by omega)
        have q3 := i64_id (x := lv (s[k].toNat : Int) * 16 + lv (s[k + 1].toNat : Int)) (by omega) (by omega)
        have q4 := u8_id (x := lv (s[k].toNat : Int) * 16 + lv (s[k + 1].toNat : Int)) (by omega) (by omega)
        have hR := fun v' w1' B h1 h2 => unh_stepI (v' := v') (w1 := w1') (B := B) hk2 hlt1 f1 f2 hown h1 h2 hb
        have HR := (show Hid _ from hR)
        clear hR hc
        go_wp2
        go_region_held3 (fun w' => w'.cell? ⟨g, k, none⟩ = some (.int .i64 (lv (s[k].toNat : Int))) ∧ w'.cell? ⟨g, k + 1, none⟩ = some (.int .i64 (lv (s[k + 1].toNat : Int)))) (first
          | go_keep
          | (exact ⟨HK.out _ _ hgrow _ _ d1, HK.out _ _ hgrow _ _ d2⟩))
         (first
          | (refine step_append_lies _ ?_ (.tmp 34) (.tmp 47) 22 ?_ w1.heap.size 5 i0 _ 1 1 Tryd.underlying22 hi hz0 hz1 hz2 rfl ?_ _ (k / 2) _ ?_ ((hown.alloc _).drew) ⟨wr.heap.size, 0, none⟩ 1 1 [.int .u8 (lv (s[k].toNat : Int) * 16 + lv (s[k + 1].toNat : Int))] ?_ ?_ ?_ ?_ ?_ ?_ ?_ ?_ (wr.heap.size + 1) ?_ ?_; (focus rfl); (focus rfl); (focus decide); (focus rfl); (focus rfl); (focus rfl); (focus exact World.news_of_block (cs := #[.int .u8 (lv (s[k].toNat : Int) * 16 + lv (s[k + 1].toNat : Int))]) (t := 5) (fr := (0, 0)) (heap_alloc_new wr _)); (focus simp [Value.oneCell']); (focus decide); (focus (unfold maxLen; omega)); (focus omega); (focus (simp; omega)); (focus simp); intro gg capp w2 hown1 hgrow hat hlt2))
        all_goals
          have R := HR.out _ w2 _ hown1 hgrow
          clear hown1 hgrow HR hown hb q1 q2 q3 q4
          go_wp2
          go_roundw
          case rel => exact ⟨k + 2, by omega, by omega, by go_num, R.1, R.2⟩
          case measure => simp [intOf]; omega
      · have g1 : ¬ (k : Int) < (s.size : Int) := by omega
        have HU : Hid (wr.ownsRow w1.heap.size 5 1 u6 (unh s.data.toList).length (cs (unh s.data.toList))) := by
          have e : s.data.toList.take k = s.data.toList := List.take_of_length_le (by simp; omega)
          have e2 : k / 2 = (unh s.data.toList).length := (unh_length (k / 2) _ (by simp; omega)).symm
          rw [e, e2] at hown
          exact hown
        have hcv := text_of_row (P := Tryd.prog) Tryd.underlying22 Tryd.underlying5 Tryd.underlying9 HU.out
        clear hown
        go_wp2
        go_ret2
        exact ⟨Or.inl ⟨HF.out, rfl⟩, hb1.trans (hb.mono hb1.size)⟩
  · have HF := (show Hid _ from hF)
    clear hF
    go_wp2
    go_ret2
    exact ⟨Or.inr ⟨HF.out, rfl⟩, hb1⟩

theorem implUnhex_no (s : ByteArray) (hs : 40000 < s.size ∨ s.size % 2 ≠ 0) (w : World) :
    Calls Tryd.prog 15 #[.string s] w fun e w' => e = .returned (.tuple #[.string ByteArray.empty, .bool false]) ∧ Below w.heap.size w w' := by
  by_cases h : s.size % 2 = 0
  · have he' : ((s.size : Int) % 2 != 0) = false := by simp; omega
    have h' : (40000 : Int) < (s.size : Int) := by omega
    clear hs
    go_enter Tryd.func15, Tryd.ntmps15
    go_wp2
    go_ret2
    exact ⟨rfl, Below.refl _ _⟩
  · have he' : ((s.size : Int) % 2 != 0) = true := by simp; omega
    clear hs
    go_enter Tryd.func15, Tryd.ntmps15
    go_wp2
    go_ret2
    exact ⟨rfl, Below.refl _ _⟩
end Go.Proofs.YtcbmchbnfhjdgaaDoor
