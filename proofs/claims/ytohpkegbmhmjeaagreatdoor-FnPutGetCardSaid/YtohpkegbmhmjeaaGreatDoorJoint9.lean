/-
  The walk of spec.ItemOf: the first item of a Key.
-/
import Derived.Test.YtohpkegbmhmjeaaGreatDoorJoint1
import Derived.Test.YtohpkegbmhmjeaaGreatDoorRows
import Derived.Deep.LoopGhost
import Derived.WalkSmall
import Derived.WalkKit
namespace Go.Proofs.YtohpkegbmhmjeaaGreatDoor
open Go.RowKit

set_option maxRecDepth 1000000 in
set_option maxHeartbeats 1000000 in
theorem specItemOf_any (ao bo : Option Addr) (sl ac bc : Nat) (li : List ItemD) (key : ByteArray) (hl : li.length ≤ 1048576) (w : World) (ha : ItemsAt w bo li) :
    Calls Tryz.prog 65 #[.agg #[.slice ao sl ac, .slice bo li.length bc], .string key] w fun e w' => e = .returned (.tuple #[.agg #[.string (itemOf li key).1.key, .string (itemOf li key).1.val, .int .i64 (itemOf li key).1.ver], .bool (itemOf li key).2]) ∧ Below w.heap.size w w' := by
  have hx0 : BlockIs (w.alloc (.cells #[.slice ao sl ac, .slice bo li.length bc] 27)) w.heap.size 27 [.slice ao sl ac, .slice bo li.length bc] := heap_alloc_new w _
  have hs : (w.alloc (.cells #[.slice ao sl ac, .slice bo li.length bc] 27)).heap.size = w.heap.size + 1 := by simp [World.alloc, -World.alloc_eq]
  obtain ⟨W1, hW1⟩ : ∃ W, (w.alloc (.cells #[.slice ao sl ac, .slice bo li.length bc] 27)).alloc (.cells #[.string ⟨#[]⟩, .string ⟨#[]⟩, .int .i64 0] 41) = W := ⟨_, rfl⟩
  have h1 : BlockIs W1 w.heap.size 27 [.slice ao sl ac, .slice bo li.length bc] := by rw [← hW1]; exact hx0.on (below_more (Below.refl _ _) _) hx0.lt
  have h2 : BlockIs W1 (w.heap.size + 1) 41 [.string ⟨#[]⟩, .string ⟨#[]⟩, .int .i64 0] := by
    rw [← hW1]
    have := heap_alloc_new (w.alloc (.cells #[.slice ao sl ac, .slice bo li.length bc] 27)) (.cells #[.string ⟨#[]⟩, .string ⟨#[]⟩, .int .i64 0] 41)
    rw [hs] at this
    exact this
  have hb : Below w.heap.size w W1 := by rw [← hW1]; exact below_more (below_more (Below.refl _ w) _) _
  have HA := hid (ha.on hb)
  have c1 := h1.cell (j := 1) rfl
  have HB := hid hb
  have d0 := h2.cell (j := 0) rfl
  have d1 := h2.cell (j := 1) rfl
  have d2 := h2.cell (j := 2) rfl
  have f0 := h2.thaw 0
  have f1 := h2.thaw 1
  have f2 := h2.thaw 2
  clear hx0 hs h1 h2 hb ha
  go_enter Tryz.func65, Tryz.ntmps65
  go_wp2
  go_loopg [6] li.length (fun q i wr => ∃ (k : Nat), k + q = li.length ∧ i = .int .i64 k ∧ Hid (∀ j, (hj : j < k) → (hl : j < li.length) → (li[j].key.toList == key.toList) = false) ∧ wr = W1)
  case atStart => exact ⟨0, by omega, rfl, (show ∀ j, (hj : j < 0) → (hl : j < li.length) → (li[j].key.toList == key.toList) = false from fun j hj => absurd hj (by omega)), rfl⟩
  case round =>
    obtain ⟨k, hkq, rfl, HN, rfl⟩ := hrel
    cases gk with
    | zero =>
      have hlt : ¬ (k : Int) < (li.length : Int) := by omega
      have HS := hid (itemOf_none li key (fun j hj => HN.out j (by omega) hj))
      have BL := hid (((HB.out.setCell (p := ⟨w.heap.size + 1, 0, none⟩) (by show _ ≤ _ + 1; omega) (.string ⟨#[]⟩)).setCell (p := ⟨w.heap.size + 1, 1, none⟩) (by show _ ≤ _ + 1; omega) (.string ⟨#[]⟩)).setCell (p := ⟨w.heap.size + 1, 2, none⟩) (by show _ ≤ _ + 1; omega) (.int .i64 0))
      go_wp2
      refine bodyPost_ret (v := .tuple #[.agg #[.string ⟨#[]⟩, .string ⟨#[]⟩, .int .i64 0], .bool false]) (by simp [results, Tryz.results65, go_sem, d0, d1, d2]) rfl ⟨by rw [HS.out], BL.out⟩
    | succ q =>
      have hlt : k < li.length := by omega
      have hlt' : (k : Int) < (li.length : Int) := by omega
      obtain ⟨b, off, rfl, hc⟩ := HA.out (by intro e; rw [e] at hlt; simp at hlt)
      obtain ⟨y0, y1, y2⟩ := hc k hlt
      clear hc
      cases hq : (li[k].key.toList == key.toList) with
      | true =>
        have HS := hid (itemOf_here li key k hlt (fun j hj => HN.out j hj (by omega)) hq)
        have BL := hid (((HB.out.setCell (p := ⟨w.heap.size + 1, 0, none⟩) (by show _ ≤ _ + 1; omega) (.string li[k].key)).setCell (p := ⟨w.heap.size + 1, 1, none⟩) (by show _ ≤ _ + 1; omega) (.string li[k].val)).setCell (p := ⟨w.heap.size + 1, 2, none⟩) (by show _ ≤ _ + 1; omega) (.int .i64 li[k].ver))
        go_wp2
        refine bodyPost_ret (v := .tuple #[.agg #[.string li[k].key, .string li[k].val, .int .i64 li[k].ver], .bool true]) (by simp [results, Tryz.results65, go_sem, d0, d1, d2]) rfl ⟨by rw [HS.out], BL.out⟩
      | false =>
        go_wp2
        go_roundg q
        case measure => omega
        case rel => exact ⟨k + 1, by omega, by go_num, (fun j hj hl => by
          rcases Nat.lt_or_ge j k with h | h
          · exact HN.out j h hl
          · obtain rfl : j = k := by omega
            exact hq), rfl⟩
end Go.Proofs.YtohpkegbmhmjeaaGreatDoor
