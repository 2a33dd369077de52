/-
  What a drawer keeps: the cursor, the boxes of its own.
  A keep's rows while a cursor goes on.
  Rows of numbers that grow while a cursor goes on.
  The walk of spec.ItemOf: the first item of a Key.
-/
import Derived.Test.YtoanhjjigbjecaaGreatDoorJoint2
import Derived.Test.YtoanhjjigbjecaaGreatDoorJoint1
import Derived.Test.YtoanhjjigbjecaaGreatDoorRows
import Derived.Deep.LoopGhost
import Derived.WalkSmall
import Derived.WalkKit
namespace Go.Proofs.YtoanhjjigbjecaaGreatDoor
open Go.RowKit

theorem BlockIs.cur {w w' : World} {b C : Nat} {t : TypeId} {cs : List Value} (h : BlockIs w b t cs) (hg : w.grownBy w' (some C)) (hb : C < b) : BlockIs w' b t cs := by
  unfold BlockIs
  rw [hg.block b h.lt (by simp; omega)]
  exact h
theorem CurAt.below {w w' : World} {C : Nat} (h : CurAt w C) (hb : Below w.heap.size w w') : CurAt w' C := h.kept (grown_of_below hb none) (fun _ e => by cases e)
theorem grown_below {w W W' : World} {C : Nat} (h : w.grownBy W (some C)) (hb : Below W.heap.size W W') : w.grownBy W' (some C) := h.trans (grown_of_below hb (some C))
theorem CurAt.set {w : World} {C b j : Nat} {v : Value} (h : CurAt w C) (hb : C < b) : CurAt (w.setCell ⟨b, j, none⟩ v) C := h.kept (grownBy_set w b j v) (fun k e => by cases e; exact hb)
theorem grown_far {w wr : World} {C b j : Nat} {v : Value} (h : w.grownBy wr (some C)) (hb : w.heap.size ≤ b) : w.grownBy (wr.setCell ⟨b, j, none⟩ v) (some C) :=
  ⟨h.os, h.tape, h.output, by have := h.size; simp [World.setCell]; omega, fun k hk hne => (Below.heap_setCell _ _ _ _ (by show k ≠ b; omega)).trans (h.block k hk hne)⟩
end Go.Proofs.YtoanhjjigbjecaaGreatDoor

namespace Go.Proofs.YtoanhjjigbjecaaGreatDoor
open Go.RowKit

theorem row_cur {w w' : World} {base size n C : Nat} {t : TypeId} {v : Value} {xs : List Value} (h : w.ownsRow base t size v n xs) (hg : w.grownBy w' (some C)) (hC : C < base) : w'.ownsRow base t size v n xs := by
  refine h.kept hg ?_
  cases hv : v.ownBlock with
  | none => exact Or.inl rfl
  | some g =>
    refine Or.inr fun e => ?_
    cases e
    have := (h.lt _ hv).1
    omega
theorem KRows.cur {w w' : World} {lo C : Nat} {v u : Value} {ls : List SessionD} {li : List ItemD} (h : KRows w lo v u ls li) (hg : w.grownBy w' (some C)) (hC : C < lo) : KRows w' lo v u ls li := ⟨row_cur h.1 hg hC, row_cur h.2 hg hC⟩
/-- a block behind them is written -/
theorem row_behind {w : World} {base size n b j H : Nat} {t : TypeId} {v : Value} {xs : List Value} (h : w.ownsRow base t size v n xs) (hb : ∀ g, v.ownBlock = some g → g < H) (hH : H ≤ b) (u : Value) : (w.setCell ⟨b, j, none⟩ u).ownsRow base t size v n xs := by
  refine h.kept (grownBy_set w b j u) ?_
  cases hv : v.ownBlock with
  | none => exact Or.inl rfl
  | some g =>
    refine Or.inr fun e => ?_
    cases e
    have := hb _ hv
    omega
/-- the rows lie ahead of a place -/
def Ahead (v u : Value) (H : Nat) : Prop := ∀ g, v.ownBlock = some g ∨ u.ownBlock = some g → g < H
theorem KRows.behind {w : World} {lo b j H : Nat} {v u : Value} {ls : List SessionD} {li : List ItemD} (h : KRows w lo v u ls li) (hb : Ahead v u H) (hH : H ≤ b) (x : Value) : KRows (w.setCell ⟨b, j, none⟩ x) lo v u ls li :=
  ⟨row_behind h.1 (fun g hg => hb g (Or.inl hg)) hH x, row_behind h.2 (fun g hg => hb g (Or.inr hg)) hH x⟩
theorem KRows.ahead {w : World} {lo : Nat} {v u : Value} {ls : List SessionD} {li : List ItemD} (h : KRows w lo v u ls li) : Ahead v u w.heap.size := fun g hg => hg.elim (fun q => (h.1.lt g q).2) (fun q => (h.2.lt g q).2)
end Go.Proofs.YtoanhjjigbjecaaGreatDoor

namespace Go.Proofs.YtoanhjjigbjecaaGreatDoor
open Go.RowKit

theorem places_info3 : (Tryz.prog.info? 3).map (fun i => (i.zero, i.size, i.bytes)) = some (some (.int .i64 0), 1, 8) := by kernel_rfl

/-- numbers in their cells -/
def is (l : List Int) : List Value := l.map (Value.int .i64)
theorem is_append (l r : List Int) : is (l ++ r) = is l ++ is r := by simp [is]

theorem kept_cur3 {w w2 : World} {base C : Nat} {v : Value} {n : Nat} {xs : List Value} (h : w.ownsRow base 3 1 v n xs) (hg : w.grownBy w2 (some C)) (hC : C < base) : w2.ownsRow base 3 1 v n xs := by
  refine h.kept hg ?_
  cases hv : v.ownBlock with
  | none => exact Or.inl rfl
  | some g =>
    refine Or.inr fun e => ?_
    have := (h.lt g hv).1
    simp at e
    omega

/-- the row and the cursor behind a round -/
theorem places_step {C B k : Nat} {l : List Int} {w wr w2 w1 : World} {v v' : Value} {O : Obj} {x : Int} (hC : C < B) (hCw : B ≤ w.heap.size)
    (hgr : w.grownBy wr (some C)) (k2 : CurAt w2 C) (q2 : wr.grownBy w2 (some C))
    (hown' : w1.ownsRow B 3 1 v' (k + 1) (is l ++ [.int .i64 x])) (hgrow : (w2.alloc O).grownBy w1 v.ownBlock) (hr : ∀ j, v.ownBlock = some j → w.heap.size ≤ j) :
    w1.ownsRow B 3 1 v' (k + 1) (is (l ++ [x])) ∧ CurAt w1 C ∧ w.grownBy w1 (some C) := by
  refine ⟨by rw [is_append]; exact hown', ?_, ?_⟩
  · exact (k2.kept (World.grownBy_alloc w2 O none) (fun j h => by cases h)).kept hgrow (fun j hj => by have := hr j hj; omega)
  · have q3 : w.grownBy w2 (some C) := hgr.trans q2
    have q4 : w.grownBy (w2.alloc O) (some C) := q3.trans (World.grownBy_alloc w2 O (some C))
    refine ⟨hgrow.os.trans q4.os, hgrow.tape.trans q4.tape, hgrow.output.trans q4.output, Nat.le_trans q4.size hgrow.size, fun j hj hne => ?_⟩
    rw [hgrow.block j (by have := q4.size; omega) (fun e => by have := hr j e.symm; omega)]
    exact q4.block j hj hne
end Go.Proofs.YtoanhjjigbjecaaGreatDoor

namespace Go.Proofs.YtoanhjjigbjecaaGreatDoor
open Go.RowKit

set_option maxRecDepth 1000000 in
set_option maxHeartbeats 1000000 in
theorem specItemOf_any (ao bo : Option Addr) (sl ac bc : Nat) (li : List ItemD) (key : ByteArray) (hl : li.length ≤ 1048576) (w : World) (ha : ItemsAt w bo li) :
    Calls Tryz.prog 103 #[.agg #[.slice ao sl ac, .slice bo li.length bc], .string key] w fun e w' => e = .returned (.tuple #[.agg #[.string (itemOf li key).1.key, .string (itemOf li key).1.val, .int .i64 (itemOf li key).1.ver], .bool (itemOf li key).2]) ∧ Below w.heap.size w w' := by
  have hx0 : BlockIs (w.alloc (.cells #[.slice ao sl ac, .slice bo li.length bc] 56)) w.heap.size 56 [.slice ao sl ac, .slice bo li.length bc] := heap_alloc_new w _
  have hs : (w.alloc (.cells #[.slice ao sl ac, .slice bo li.length bc] 56)).heap.size = w.heap.size + 1 := by simp [World.alloc, -World.alloc_eq]
  obtain ⟨W1, hW1⟩ : ∃ W, (w.alloc (.cells #[.slice ao sl ac, .slice bo li.length bc] 56)).alloc (.cells #[.string ⟨#[]⟩, .string ⟨#[]⟩, .int .i64 0] 89) = W := ⟨_, rfl⟩
  have h1 : BlockIs W1 w.heap.size 56 [.slice ao sl ac, .slice bo li.length bc] := by rw [← hW1]; exact hx0.on (below_more (Below.refl _ _) _) hx0.lt
  have h2 : BlockIs W1 (w.heap.size + 1) 89 [.string ⟨#[]⟩, .string ⟨#[]⟩, .int .i64 0] := by
    rw [← hW1]
    have := heap_alloc_new (w.alloc (.cells #[.slice ao sl ac, .slice bo li.length bc] 56)) (.cells #[.string ⟨#[]⟩, .string ⟨#[]⟩, .int .i64 0] 89)
    rw [hs] at this
    exact this
  have hb : Below w.heap.size w W1 := by rw [← hW1]; exact below_more (below_more (Below.refl _ w) _) _
  have HA := hid (ha.on hb)
  have c1 := h1.cell (j := 1) rfl
  have HB := hid hb
  have d0 := h2.cell (j := 0) rfl
  have d1 := h2.cell (j := 1) rfl
  have d2 := h2.cell (j := 2) rfl
  have f0 := h2.thaw 0
  have f1 := h2.thaw 1
  have f2 := h2.thaw 2
  clear hx0 hs h1 h2 hb ha
  go_enter Tryz.func103, Tryz.ntmps103
  go_wp2
  go_loopg [6] li.length (fun q i wr => ∃ (k : Nat), k + q = li.length ∧ i = .int .i64 k ∧ Hid (∀ j, (hj : j < k) → (hl : j < li.length) → (li[j].key.toList == key.toList) = false) ∧ wr = W1)
  case atStart => exact ⟨0, by omega, rfl, (show ∀ j, (hj : j < 0) → (hl : j < li.length) → (li[j].key.toList == key.toList) = false from fun j hj => absurd hj (by omega)), rfl⟩
  case round =>
    obtain ⟨k, hkq, rfl, HN, rfl⟩ := hrel
    cases gk with
    | zero =>
      have hlt : ¬ (k : Int) < (li.length : Int) := by omega
      have HS := hid (itemOf_none li key (fun j hj => HN.out j (by omega) hj))
      have BL := hid (((HB.out.setCell (p := ⟨w.heap.size + 1, 0, none⟩) (by show _ ≤ _ + 1; omega) (.string ⟨#[]⟩)).setCell (p := ⟨w.heap.size + 1, 1, none⟩) (by show _ ≤ _ + 1; omega) (.string ⟨#[]⟩)).setCell (p := ⟨w.heap.size + 1, 2, none⟩) (by show _ ≤ _ + 1; omega) (.int .i64 0))
      go_wp2
      refine bodyPost_ret (v := .tuple #[.agg #[.string ⟨#[]⟩, .string ⟨#[]⟩, .int .i64 0], .bool false]) (by simp [results, Tryz.results103, go_sem, d0, d1, d2]) rfl ⟨by rw [HS.out], BL.out⟩
    | succ q =>
      have hlt : k < li.length := by omega
      have hlt' : (k : Int) < (li.length : Int) := by omega
      obtain ⟨b, off, rfl, hc⟩ := HA.out (by intro e; rw [e] at hlt; simp at hlt)
      obtain ⟨y0, y1, y2⟩ := hc k hlt
      clear hc
      cases hq : (li[k].key.toList == key.toList) with
      | true =>
        have HS := hid (itemOf_here li key k hlt (fun j hj => HN.out j hj (by omega)) hq)
        have BL := hid (((HB.out.setCell (p := ⟨w.heap.size + 1, 0, none⟩) (by show _ ≤ _ + 1; omega) (.string li[k].key)).setCell (p := ⟨w.heap.size + 1, 1, none⟩) (by show _ ≤ _ + 1; omega) (.string li[k].val)).setCell (p := ⟨w.heap.size + 1, 2, none⟩) (by show _ ≤ _ + 1; omega) (.int .i64 li[k].ver))
        go_wp2
        refine bodyPost_ret (v := .tuple #[.agg #[.string li[k].key, .string li[k].val, .int .i64 li[k].ver], .bool true]) (by simp [results, Tryz.results103, go_sem, d0, d1, d2]) rfl ⟨by rw [HS.out], BL.out⟩
      | false =>
        go_wp2
        go_roundg q
        case measure => omega
        case rel => exact ⟨k + 1, by omega, by go_num, (fun j hj hl => by
          rcases Nat.lt_or_ge j k with h | h
          · exact HN.out j h hl
          · obtain rfl : j = k := by omega
            exact hq), rfl⟩
end Go.Proofs.YtoanhjjigbjecaaGreatDoor
