/-
  The walk of impl.snapIn.
-/
import Derived.Test.YtcneaidfhmbdmabDoorJoint1
import Derived.Test.YtcneaidfhmbdmabDoorJoint35
import Derived.Test.YtcneaidfhmbdmabDoorJoint48
namespace Go.Proofs.YtcneaidfhmbdmabDoor
open Go.RowKit

set_option maxRecDepth 1000000 in
set_option maxHeartbeats 4000000 in
theorem snapIn_any (f : FileD) (hs : f.text.size ≤ 1048576) (w : World) (ht : Steps w) :
    Calls Tryd.prog 25 #[.agg #[.string f.name, .string f.text, .int .i64 f.kept]] w fun e w' => SnapSome (fileSnap f) w e w' := by
  have HT := hid ht
  have h2 := two_blocks w (.cells #[.string f.name, .string f.text, .int .i64 f.kept] 48) (.cells #[.int .i64 0, .int .i64 0, .slice none 0 0, .string ⟨#[]⟩] 28)
  have F0 : Hid (BlockIs _ w.heap.size 48 [.string f.name, .string f.text, .int .i64 f.kept]) := h2.2.2.1
  have P0 : Hid (BlockIs _ (w.heap.size + 1) 28 [.int .i64 0, .int .i64 0, .slice none 0 0, .string ⟨#[]⟩]) := h2.2.2.2
  have B0 := hid h2.1
  clear h2 ht
  obtain ⟨W, hW⟩ : ∃ W, (w.alloc (.cells #[.string f.name, .string f.text, .int .i64 f.kept] 48)).alloc (.cells #[.int .i64 0, .int .i64 0, .slice none 0 0, .string ⟨#[]⟩] 28) = W := ⟨_, rfl⟩
  rw [hW] at F0 P0 B0
  have c0 := F0.out.cell (j := 0) rfl
  go_enter Tryd.func25, Tryd.ntmps25
  go_wp2_with fail
  refine (indexIn_any f.name _).mono ?_
  rintro e w1 ⟨⟨x, rfl, hx⟩, b1⟩
  have F1 := hid (F0.out.on b1 F0.out.lt)
  have P1 := hid (P0.out.on b1 P0.out.lt)
  have B1 := hid (below_via B0.out b1)
  clear b1 F0 P0 B0 hW c0
  have p0 := P1.out.cell (j := 0) rfl
  have p1 := P1.out.cell (j := 1) rfl
  have p2 := P1.out.cell (j := 2) rfl
  have p3 := P1.out.cell (j := 3) rfl
  have e0 := P1.out.thaw 0
  have e1 := P1.out.thaw 1
  have e2 := P1.out.thaw 2
  have e3 := P1.out.thaw 3
  cases hn : nameNum 115 1000000 f.name with
  | none =>
    have HF := hid (fileSnap_name hn)
    have BL := hid ((((B1.out.setCell (p := ⟨w.heap.size + 1, 0, none⟩) (Nat.le_succ _) (.int .i64 0)).setCell (p := ⟨w.heap.size + 1, 1, none⟩) (Nat.le_succ _) (.int .i64 0)).setCell (p := ⟨w.heap.size + 1, 2, none⟩) (Nat.le_succ _) (.slice none 0 0)).setCell (p := ⟨w.heap.size + 1, 3, none⟩) (Nat.le_succ _) (.string ⟨#[]⟩))
    rw [show (none : Option Nat).isSome = false from rfl]
    clear hn hx
    go_wp2
    refine bodyPost_ret (v := .tuple #[.agg #[.int .i64 0, .int .i64 0, .slice none 0 0, .string ⟨#[]⟩], .bool false]) (by simp [results, Tryd.results25, go_sem, p0, p1, p2, p3]) rfl ?_
    rw [HF.out]
    exact ⟨0, 0, none, [], 0, ⟨#[]⟩, rfl, own_nil _ _, BL.out, fun d q => by cases q⟩
  | some n =>
    have hxn := hx n hn
    subst hxn
    rw [show (some n : Option Nat).isSome = true from rfl]
    have g1 := F1.out.cell (j := 1) rfl
    clear hx p0 p1 p2 p3 e0 e1 e2 e3
    go_wp2_with fail
    refine ((implReadSnap_any f.text hs _ (steps_on HT.out B1.out)).mono (fun e w' h => snapDid_parts h)).mono ?_
    rintro e w2 ⟨a2, c2, rfl, o2, b2⟩
    have P2 := hid (P1.out.on b2 P1.out.lt)
    have O2 := hid (row_down o2 B1.out.size)
    have B2 := hid (below_via B1.out b2)
    have hPl := P2.out.lt
    clear o2 b2 P1 B1 F1 g1
    have HF := hid (fileSnap_pick hn)
    obtain ⟨o, ho⟩ : ∃ o, readSnap f.text = o := ⟨_, rfl⟩
    rw [ho] at HF
    rw [ho] at O2 ⊢
    clear ho hn
    have hx3 : BlockIs (w2.alloc (.cells #[.int .i64 (snapIx o), .int .i64 (snapTm o), .slice a2 (snapZs o).length c2, .string (snapBd o)] 28)) w2.heap.size 28 [.int .i64 (snapIx o), .int .i64 (snapTm o), .slice a2 (snapZs o).length c2, .string (snapBd o)] := heap_alloc_new w2 _
    have bx := below_more (Below.refl w2.heap.size w2) (.cells #[.int .i64 (snapIx o), .int .i64 (snapTm o), .slice a2 (snapZs o).length c2, .string (snapBd o)] 28)
    have X3 := hid hx3
    have P3 := hid (P2.out.on bx P2.out.lt)
    have O3 := hid (kept_conf O2.out bx)
    have B3 := hid (below_via B2.out bx)
    clear hx3 bx P2 O2 B2
    obtain ⟨ix, hix⟩ : ∃ x, snapIx o = x := ⟨_, rfl⟩
    obtain ⟨tm, htm⟩ : ∃ x, snapTm o = x := ⟨_, rfl⟩
    obtain ⟨zs, hzs⟩ : ∃ x, snapZs o = x := ⟨_, rfl⟩
    obtain ⟨bd, hbd⟩ : ∃ x, snapBd o = x := ⟨_, rfl⟩
    rw [hix, htm, hzs, hbd] at X3 P3 O3 B3 ⊢
    have HP : Hid (∀ d, o = some d → ix = d.ix ∧ tm = d.tm ∧ zs = d.conf ∧ bd = d.body) := fun d q => by subst q; exact ⟨hix.symm, htm.symm, hzs.symm, hbd.symm⟩
    clear hix htm hzs hbd
    obtain ⟨g, hg⟩ : ∃ g, w2.heap.size = g := ⟨_, rfl⟩
    rw [hg] at X3 hPl
    have hgl : w.heap.size + 1 ≠ g := by omega
    obtain ⟨W3, hW3⟩ : ∃ W, w2.alloc (.cells #[.int .i64 ix, .int .i64 tm, .slice a2 zs.length c2, .string bd] 28) = W := ⟨_, rfl⟩
    rw [hW3] at X3 P3 O3 B3
    have x0 := X3.out.cell (j := 0) rfl
    have x1 := X3.out.cell (j := 1) rfl
    have x2 := X3.out.cell (j := 2) rfl
    have x3 := X3.out.cell (j := 3) rfl
    have p0 := P3.out.cell (j := 0) rfl
    have p1 := P3.out.cell (j := 1) rfl
    have p2 := P3.out.cell (j := 2) rfl
    have p3 := P3.out.cell (j := 3) rfl
    have e0 := P3.out.thaw 0
    have e1 := P3.out.thaw 1
    have e2 := P3.out.thaw 2
    have e3 := P3.out.thaw 3
    have DN := hid (below_drewN B3.out 1)
    have OD : Hid (W3.drew.ownsRow w.heap.size 3 1 (.slice a2 zs.length c2) zs.length (intCells zs)) := O3.out
    have PD : Hid (BlockIs W3.drew (w.heap.size + 1) 28 [.int .i64 0, .int .i64 0, .slice none 0 0, .string ⟨#[]⟩]) := P3.out
    have BL := hid ((((DN.out.setCell (p := ⟨w.heap.size + 1, 0, none⟩) (Nat.le_succ _) (.int .i64 ix)).setCell (p := ⟨w.heap.size + 1, 1, none⟩) (Nat.le_succ _) (.int .i64 tm)).setCell (p := ⟨w.heap.size + 1, 2, none⟩) (Nat.le_succ _) (.slice a2 zs.length c2)).setCell (p := ⟨w.heap.size + 1, 3, none⟩) (Nat.le_succ _) (.string bd))
    have OL := hid (own_put (own_put (own_put (own_put OD.out PD.out (by decide) (j := 0) (u := .int .i64 ix)) (PD.out.set 0 (.int .i64 ix)) (by decide) (j := 1) (u := .int .i64 tm)) ((PD.out.set 0 (.int .i64 ix)).set 1 (.int .i64 tm)) (by decide) (j := 2) (u := .slice a2 zs.length c2)) (((PD.out.set 0 (.int .i64 ix)).set 1 (.int .i64 tm)).set 2 (.slice a2 zs.length c2)) (by decide) (j := 3) (u := .string bd))
    clear X3 P3 O3 B3 DN OD PD HT
    cases o with
    | none =>
      have HF2 : Hid (fileSnap f = none) := HF.out
      rw [show (none : Option SnapD).isSome = false from rfl]
      clear HF HP
      go_wp2
      go_region
      all_goals
        go_wp2
        refine bodyPost_ret (v := .tuple #[.agg #[.int .i64 ix, .int .i64 tm, .slice a2 zs.length c2, .string bd], .bool false]) (by simp [results, Tryd.results25, go_sem, p0, p1, p2, p3]) rfl ?_
        rw [HF2.out]
        exact ⟨ix, tm, a2, zs, c2, bd, rfl, OL.out, BL.out, fun d q => by cases q⟩
    | some s =>
      rw [show (some s : Option SnapD).isSome = true from rfl]
      have hixs := (HP.out s rfl).1
      by_cases heq : ix = (n : Int)
      · have HF2 : Hid (fileSnap f = some s) := HF.out.trans (pick_yes (by omega))
        have heqd : (ix == (n : Int)) = true := by simpa using heq
        clear HF hixs heq
        go_wp2
        go_region
        all_goals
          go_wp2
          refine bodyPost_ret (v := .tuple #[.agg #[.int .i64 ix, .int .i64 tm, .slice a2 zs.length c2, .string bd], .bool true]) (by simp [results, Tryd.results25, go_sem, p0, p1, p2, p3]) rfl ?_
          rw [HF2.out]
          exact ⟨ix, tm, a2, zs, c2, bd, rfl, OL.out, BL.out, HP.out⟩
      · have HF2 : Hid (fileSnap f = none) := HF.out.trans (pick_no (by omega))
        have heqd : (ix == (n : Int)) = false := by simpa using heq
        clear HF hixs
        go_wp2
        go_region
        all_goals
          go_wp2
          refine bodyPost_ret (v := .tuple #[.agg #[.int .i64 ix, .int .i64 tm, .slice a2 zs.length c2, .string bd], .bool false]) (by simp [results, Tryd.results25, go_sem, p0, p1, p2, p3]) rfl ?_
          rw [HF2.out]
          exact ⟨ix, tm, a2, zs, c2, bd, rfl, OL.out, BL.out, fun d q => by cases q⟩
end Go.Proofs.YtcneaidfhmbdmabDoor
