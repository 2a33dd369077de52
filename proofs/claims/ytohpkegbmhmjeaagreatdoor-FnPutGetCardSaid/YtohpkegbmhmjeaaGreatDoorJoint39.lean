/-
  The walk of impl.copiedItem: an item's texts are copied.
-/
import Derived.Test.YtohpkegbmhmjeaaGreatDoorJoint1
import Derived.Test.YtohpkegbmhmjeaaGreatDoorJoint33
import Derived.Deep.RegionWith
import Derived.Test.YtohpkegbmhmjeaaGreatDoorRows
namespace Go.Proofs.YtohpkegbmhmjeaaGreatDoor
open Go.RowKit

/-- what stands while an item is copied -/
def CopyItemIn (w : World) (f : ItemD) (W : World) : Prop := Below w.heap.size w W ∧ BlockIs W w.heap.size 41 (itemEnc f) ∧ BlockIs W (w.heap.size + 1) 41 [.string ByteArray.empty, .string ByteArray.empty, .int .i64 0]

theorem copyItem_in (w : World) (f : ItemD) : CopyItemIn w f ((w.alloc (.cells #[.string f.key, .string f.val, .int .i64 f.ver] 41)).alloc (.cells #[.string ByteArray.empty, .string ByteArray.empty, .int .i64 0] 41)).drew := by
  have h0 : BlockIs (w.alloc (.cells #[.string f.key, .string f.val, .int .i64 f.ver] 41)) w.heap.size 41 (itemEnc f) := heap_alloc_new w _
  have hb := below_more (Below.refl _ (w.alloc (.cells #[.string f.key, .string f.val, .int .i64 f.ver] 41))) (.cells #[.string ByteArray.empty, .string ByteArray.empty, .int .i64 0] 41)
  have h1 : BlockIs ((w.alloc (.cells #[.string f.key, .string f.val, .int .i64 f.ver] 41)).alloc (.cells #[.string ByteArray.empty, .string ByteArray.empty, .int .i64 0] 41)) (w.heap.size + 1) 41 [.string ByteArray.empty, .string ByteArray.empty, .int .i64 0] := by
    have := heap_alloc_new (w.alloc (.cells #[.string f.key, .string f.val, .int .i64 f.ver] 41)) (.cells #[.string ByteArray.empty, .string ByteArray.empty, .int .i64 0] 41)
    rw [show (w.alloc (.cells #[.string f.key, .string f.val, .int .i64 f.ver] 41)).heap.size = w.heap.size + 1 by simp [World.alloc, -World.alloc_eq]] at this
    exact this
  exact ⟨below_drewN (below_more (below_more (Below.refl _ w) _) _) 1, (h0.on hb h0.lt).on (below_drewN (Below.refl _ _) 1) (h0.on hb h0.lt).lt, h1.on (below_drewN (Below.refl _ _) 1) h1.lt⟩

/-- a text is copied meanwhile -/
theorem copyItem_call (w : World) (f : ItemD) (s : ByteArray) (hs : s.size ≤ 1048576) (W : World) (h : Hid (CopyItemIn w f W)) :
    Calls Tryz.prog 50 #[.string s] W fun e W' => e = .returned (.string s) ∧ (W'.cell? ⟨w.heap.size, 0, none⟩ = some (.string f.key) ∧ W'.cell? ⟨w.heap.size, 1, none⟩ = some (.string f.val) ∧ W'.cell? ⟨w.heap.size, 2, none⟩ = some (.int .i64 f.ver)) ∧ (W'.cell? ⟨w.heap.size + 1, 0, none⟩ = some (.string ByteArray.empty) ∧ W'.cell? ⟨w.heap.size + 1, 1, none⟩ = some (.string ByteArray.empty) ∧ W'.cell? ⟨w.heap.size + 1, 2, none⟩ = some (.int .i64 0)) ∧ (W'.frozen? ⟨w.heap.size + 1, 0, none⟩ = false ∧ W'.frozen? ⟨w.heap.size + 1, 1, none⟩ = false ∧ W'.frozen? ⟨w.heap.size + 1, 2, none⟩ = false) ∧ Hid (CopyItemIn w f W') := by
  refine (clone_any s (by omega) W).mono ?_
  rintro e W' ⟨rfl, hb⟩
  obtain ⟨h0, h1, h2⟩ := h.out
  have k1 := h1.on hb h1.lt
  have k2 := h2.on hb h2.lt
  exact ⟨rfl, ⟨k1.cell (j := 0) rfl, k1.cell (j := 1) rfl, k1.cell (j := 2) rfl⟩, ⟨k2.cell (j := 0) rfl, k2.cell (j := 1) rfl, k2.cell (j := 2) rfl⟩, ⟨k2.thaw 0, k2.thaw 1, k2.thaw 2⟩, below_via h0 hb, k1, k2⟩

set_option maxRecDepth 1000000 in
set_option maxHeartbeats 1000000 in
theorem copiedItem_any (f : ItemD) (hs : f.key.size ≤ 1048576) (ht : f.val.size ≤ 1048576) (w : World) :
    Calls Tryz.prog 29 #[.agg #[.string f.key, .string f.val, .int .i64 f.ver]] w fun e w' => e = .returned (.agg #[.string f.key, .string f.val, .int .i64 f.ver]) ∧ Below w.heap.size w w' := by
  have HG := hid (copyItem_in w f)
  have CC := hid (fun s hs W h => copyItem_call w f s hs W h)
  go_enter Tryz.func29, Tryz.ntmps29
  go_wp2
  go_region_with (go_at_call 50; refine (CC.out _ (by first | exact hs | exact ht) _ HG).mono ?_; rintro e w2 ⟨rfl, ⟨x0, x1, x2⟩, ⟨y0, y1, y2⟩, ⟨z0, z1, z2⟩, HG⟩)
  all_goals
    have HB := hid (((HG.out.1.setCell (p := ⟨w.heap.size + 1, 0, none⟩) (by show _ ≤ _ + 1; omega) (.string f.key)).setCell (p := ⟨w.heap.size + 1, 1, none⟩) (by show _ ≤ _ + 1; omega) (.string f.val)).setCell (p := ⟨w.heap.size + 1, 2, none⟩) (by show _ ≤ _ + 1; omega) (.int .i64 f.ver))
    go_wp2
    refine bodyPost_ret (v := .agg #[.string f.key, .string f.val, .int .i64 f.ver]) (by simp [results, Tryz.results29, go_sem, y0, y1, y2]) rfl ⟨rfl, HB.out⟩

end Go.Proofs.YtohpkegbmhmjeaaGreatDoor
