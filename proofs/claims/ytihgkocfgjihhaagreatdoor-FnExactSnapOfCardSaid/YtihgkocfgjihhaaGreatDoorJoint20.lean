/-
  The walk of laws.toKeep: a keep is laid anew, in memory of its own.
-/
import Derived.Test.YtihgkocfgjihhaaGreatDoorJoint19
import Derived.Test.YtihgkocfgjihhaaGreatDoorJoint1
namespace Go.Proofs.YtihgkocfgjihhaaGreatDoor
open Go.RowKit

/-- three blocks laid one behind the other -/
theorem three_keep (w : World) (o p q : Obj) : Below w.heap.size w (((w.alloc o).alloc p).alloc q) ∧ (((w.alloc o).alloc p).alloc q).heap.size = w.heap.size + 3 ∧ (((w.alloc o).alloc p).alloc q).heap[w.heap.size]? = some o ∧ (((w.alloc o).alloc p).alloc q).heap[w.heap.size + 1]? = some p ∧ (((w.alloc o).alloc p).alloc q).heap[w.heap.size + 1 + 1]? = some q := by
  refine ⟨below_more (below_more (below_more (Below.refl _ w) o) p) q, by simp [World.alloc, -World.alloc_eq], ?_, ?_, ?_⟩
  · show (((w.heap.push o).push p).push q)[w.heap.size]? = some o
    rw [Array.getElem?_push, if_neg (by simp; omega), Array.getElem?_push, if_neg (by simp), Array.getElem?_push, if_pos rfl]
  · show (((w.heap.push o).push p).push q)[w.heap.size + 1]? = some p
    rw [Array.getElem?_push, if_neg (by simp), Array.getElem?_push, if_pos (by simp)]
  · show (((w.heap.push o).push p).push q)[w.heap.size + 1 + 1]? = some q
    rw [Array.getElem?_push, if_pos (by simp)]

set_option maxRecDepth 1000000 in
set_option maxHeartbeats 1000000 in
theorem toKeep_any (ao bo : Option Addr) (ls : List SessionD) (li : List ItemD) (ac bc : Nat) (hl : ls.length ≤ 1048576) (hl' : li.length ≤ 1048576) (w : World) (ha : SessionsAt w ao ls) (hb : ItemsAt w bo li) :
    Calls Tryz.prog 45 #[.agg #[.slice ao ls.length ac, .slice bo li.length bc]] w fun e w' => ∃ g h, w.heap.size ≤ g ∧ g < h ∧ e = .returned (.agg #[.slice (some ⟨g, 0, none⟩) ls.length ls.length, .slice (some ⟨h, 0, none⟩) li.length li.length]) ∧ BlockIs w' g 121 (sessionCells ls) ∧ BlockIs w' h 124 (itemCells li) ∧ Below w.heap.size w w' := by
  have C := hid (fun w ha => toSessionS_any ao ls ac hl w ha)
  have D := hid (fun w hb => toItemS_any bo li bc hl' w hb)
  have HA := hid ha
  have HI := hid hb
  clear ha hb
  have H3 := hid (three_keep w (.cells #[.slice ao ls.length ac, .slice bo li.length bc] 48) (.cells #[.slice none 0 0, .slice none 0 0] 67) (.cells #[.slice none 0 0, .slice none 0 0] 67))
  go_enter Tryz.func45, Tryz.ntmps45
  go_wp2_with fail
  refine (C.out _ (HA.out.on H3.out.1)).mono ?_
  rintro e w1 ⟨rfl, hbl, b1⟩
  obtain ⟨hb0, hs0, hx0, hx1, hx2⟩ := H3.out
  rw [hs0] at hbl b1 ⊢
  have k0 : BlockIs w1 w.heap.size 48 [.slice ao ls.length ac, .slice bo li.length bc] := BlockIs.on (show BlockIs _ _ _ _ from hx0) b1 (by omega)
  have k1 : BlockIs w1 (w.heap.size + 1) 67 [.slice none 0 0, .slice none 0 0] := BlockIs.on (show BlockIs _ _ _ _ from hx1) b1 (by omega)
  have k2 : BlockIs w1 (w.heap.size + 1 + 1) 67 [.slice none 0 0, .slice none 0 0] := BlockIs.on (show BlockIs _ _ _ _ from hx2) b1 (by omega)
  have B1 := hid (hb0.trans (b1.mono (by omega)))
  have HG := hid hbl
  have hs1 : w.heap.size + 4 ≤ w1.heap.size := by have := hbl.lt; omega
  obtain ⟨V, hV⟩ : ∃ V, w1.setCell ⟨w.heap.size + 1 + 1, 0, none⟩ (.slice (some ⟨w.heap.size + 3, 0, none⟩) ls.length ls.length) = V := ⟨_, rfl⟩
  have v0 : BlockIs V w.heap.size 48 [.slice ao ls.length ac, .slice bo li.length bc] := by rw [← hV]; exact k0.far (by omega) _
  have v1 : BlockIs V (w.heap.size + 1) 67 [.slice none 0 0, .slice none 0 0] := by rw [← hV]; exact k1.far (by omega) _
  have v2 : BlockIs V (w.heap.size + 1 + 1) 67 [.slice (some ⟨w.heap.size + 3, 0, none⟩) ls.length ls.length, .slice none 0 0] := by rw [← hV]; exact k2.set 0 _
  have v3 : BlockIs V (w.heap.size + 3) 121 (sessionCells ls) := by rw [← hV]; exact hbl.far (by omega) _
  have BV := hid (show Below w.heap.size w V by rw [← hV]; exact B1.out.setCell (by show _ ≤ _ + 1 + 1; omega) _)
  have KV := hid (And.intro v0 (And.intro v1 (And.intro v2 v3)))
  have f0 := k2.thaw 0
  have c00 := k0.cell (j := 0) rfl
  have c20 := k2.cell (j := 0) rfl
  have e01 := v0.cell (j := 1) rfl
  clear hbl b1 C H3 hb0 hs0 hx0 hx1 hx2 k0 k1 k2 v0 v1 v2 v3 HG B1
  go_wp2_with fail
  refine (D.out _ (HI.out.on BV.out)).mono ?_
  rintro e w2 ⟨rfl, hbl, b2⟩
  obtain ⟨v0, v1, v2, v3⟩ := KV.out
  have hs2 : w.heap.size + 4 ≤ V.heap.size := v3.lt
  have u1 := v1.on b2 v1.lt
  have u2 := v2.on b2 v2.lt
  have u3 := v3.on b2 v3.lt
  have B2 := hid (below_via BV.out b2)
  have d10 := u1.cell (j := 0) rfl
  have d11 := u1.cell (j := 1) rfl
  have d20 := u2.cell (j := 0) rfl
  have d21 := u2.cell (j := 1) rfl
  have f10 := u1.thaw 0
  have f11 := u1.thaw 1
  have f21 := u2.thaw 1
  have HU := hid (And.intro u3 hbl)
  clear hV hbl b2 D v0 v1 v2 v3 u1 u2 u3 KV BV f0 c00 c20 e01
  go_wp2
  refine bodyPost_ret (v := .agg #[.slice (some ⟨w.heap.size + 3, 0, none⟩) ls.length ls.length, .slice (some ⟨V.heap.size, 0, none⟩) li.length li.length]) (by simp [results, Tryz.results45, go_sem, d10, d11]) rfl ⟨_, _, Nat.le_add_right _ _, (by omega), rfl, ?_, ?_, ?_⟩
  · exact (((HU.out.1.far (by omega) _).far (by omega) _).far (by omega) _)
  · exact (((HU.out.2.far (by omega) _).far (by omega) _).far (by omega) _)
  · exact ((B2.out.setCell (by show _ ≤ _ + 1 + 1; omega) _).setCell (by show _ ≤ _ + 1; omega) _).setCell (by show _ ≤ _ + 1; omega) _
end Go.Proofs.YtihgkocfgjihhaaGreatDoor
