/-
  The walk of spec.StreamNew: a new stream.
-/
import Derived.Test.YthkkhmmcgjcedaaStrMem
import Derived.Test.YthkkhmmcgjcedaaInS
import Derived.Test.YthkkhmmcgjcedaaOwnAt
namespace Go.Proofs.Ythkkhmmcgjcedaa
open Go.RowKit

set_option maxRecDepth 1000000 in
set_option maxHeartbeats 2000000 in
theorem specStreamNew_any (iss : Int) (ask : Bool) (w : World) :
    Calls Try.prog 14 #[.int .i64 iss, .bool ask] w fun e w' => e = .returned (.tuple #[.agg (strCells (newD iss ask) none 0).toArray, .bool (within iss 0 65535)]) ∧ Below w.heap.size w w' := by
  have m0 := fun w => l01In_any iss 0 65535 w
  cases h0 : within iss 0 65535 with
  | false =>
    rw [h0] at m0
    have n0 := hid m0
    clear m0
    have HR : Hid (strCells (newD iss ask) none 0 = [.int .i64 0, .int .i64 0, .int .i64 0, .int .i64 0, .string ⟨#[]⟩, .int .i64 0, .int .i64 0, .bool false, .string ⟨#[]⟩, .slice none 0 0, .bool false, .int .i64 0, .int .i64 0]) := by show _ = _; simp only [newD, h0]; rfl
    clear h0
    have HB := hid (below_more (Below.refl w.heap.size w) (.cells #[.int .i64 0, .int .i64 0, .int .i64 0, .int .i64 0, .string ⟨#[]⟩, .int .i64 0, .int .i64 0, .bool false, .string ⟨#[]⟩, .slice none 0 0, .bool false, .int .i64 0, .int .i64 0] 42))
    have hx : BlockIs (w.alloc (.cells #[.int .i64 0, .int .i64 0, .int .i64 0, .int .i64 0, .string ⟨#[]⟩, .int .i64 0, .int .i64 0, .bool false, .string ⟨#[]⟩, .slice none 0 0, .bool false, .int .i64 0, .int .i64 0] 42)) w.heap.size 42 [.int .i64 0, .int .i64 0, .int .i64 0, .int .i64 0, .string ⟨#[]⟩, .int .i64 0, .int .i64 0, .bool false, .string ⟨#[]⟩, .slice none 0 0, .bool false, .int .i64 0, .int .i64 0] := heap_alloc_new w _
    obtain ⟨W, hW⟩ : ∃ W, w.alloc (.cells #[.int .i64 0, .int .i64 0, .int .i64 0, .int .i64 0, .string ⟨#[]⟩, .int .i64 0, .int .i64 0, .bool false, .string ⟨#[]⟩, .slice none 0 0, .bool false, .int .i64 0, .int .i64 0] 42) = W := ⟨_, rfl⟩
    rw [hW] at HB hx
    have K := hid hx
    have hlt := hx.lt
    clear hx
    obtain ⟨V, hV⟩ : ∃ V, W.setRow w.heap.size #[.int .i64 0, .int .i64 0, .int .i64 0, .int .i64 0, .string ⟨#[]⟩, .int .i64 0, .int .i64 0, .bool false, .string ⟨#[]⟩, .slice none 0 0, .bool false, .int .i64 0, .int .i64 0] = V := ⟨_, rfl⟩
    have KL : BlockIs V w.heap.size 42 [.int .i64 0, .int .i64 0, .int .i64 0, .int .i64 0, .string ⟨#[]⟩, .int .i64 0, .int .i64 0, .bool false, .string ⟨#[]⟩, .slice none 0 0, .bool false, .int .i64 0, .int .i64 0] := by rw [← hV]; exact store_block K.out _
    have BL : Hid (Below w.heap.size w V) := by rw [← hV]; exact below_setRow HB.out (Nat.le_refl _) _
    have r0 := KL.cell (j := 0) rfl
    have r1 := KL.cell (j := 1) rfl
    have r2 := KL.cell (j := 2) rfl
    have r3 := KL.cell (j := 3) rfl
    have r4 := KL.cell (j := 4) rfl
    have r5 := KL.cell (j := 5) rfl
    have r6 := KL.cell (j := 6) rfl
    have r7 := KL.cell (j := 7) rfl
    have r8 := KL.cell (j := 8) rfl
    have r9 := KL.cell (j := 9) rfl
    have r10 := KL.cell (j := 10) rfl
    have r11 := KL.cell (j := 11) rfl
    have r12 := KL.cell (j := 12) rfl
    clear KL
    go_enter Try.func14, Try.ntmps14
    go_wp2_with (first | (go_at_call 13; with_reducible refine Calls.mono (n0.out _) ?_; rintro e w1 ⟨rfl, hw⟩; rw [hw]; clear hw w1) | (refine wpList_store_str K.out rfl rfl _ _ rfl _ rfl rfl rfl (strCells_all ⟨0, 0, 0, 0, ⟨#[]⟩, 0, 0, false, ⟨#[]⟩, [], false, 0, 0⟩ none 0) ?_; rw [hV]) | fail)
    rw [HR.out]
    refine bodyPost_ret (v := .tuple #[.agg #[.int .i64 0, .int .i64 0, .int .i64 0, .int .i64 0, .string ⟨#[]⟩, .int .i64 0, .int .i64 0, .bool false, .string ⟨#[]⟩, .slice none 0 0, .bool false, .int .i64 0, .int .i64 0], .bool false]) (by simp [results, Try.results14, go_sem, r0, r1, r2, r3, r4, r5, r6, r7, r8, r9, r10, r11, r12]) rfl ⟨rfl, BL.out⟩
  | true =>
    rw [h0] at m0
    have n0 := hid m0
    clear m0
    cases ask with
    | false =>
      have HR : Hid (strCells (newD iss false) none 0 = [.int .i64 1, .int .i64 iss, .int .i64 iss, .int .i64 0, .string ⟨#[]⟩, .int .i64 0, .int .i64 0, .bool false, .string ⟨#[]⟩, .slice none 0 0, .bool false, .int .i64 0, .int .i64 0]) := by show _ = _; simp only [newD, h0]; rfl
      clear h0
      have HB := hid (below_more (Below.refl w.heap.size w) (.cells #[.int .i64 0, .int .i64 0, .int .i64 0, .int .i64 0, .string ⟨#[]⟩, .int .i64 0, .int .i64 0, .bool false, .string ⟨#[]⟩, .slice none 0 0, .bool false, .int .i64 0, .int .i64 0] 42))
      have hx : BlockIs (w.alloc (.cells #[.int .i64 0, .int .i64 0, .int .i64 0, .int .i64 0, .string ⟨#[]⟩, .int .i64 0, .int .i64 0, .bool false, .string ⟨#[]⟩, .slice none 0 0, .bool false, .int .i64 0, .int .i64 0] 42)) w.heap.size 42 [.int .i64 0, .int .i64 0, .int .i64 0, .int .i64 0, .string ⟨#[]⟩, .int .i64 0, .int .i64 0, .bool false, .string ⟨#[]⟩, .slice none 0 0, .bool false, .int .i64 0, .int .i64 0] := heap_alloc_new w _
      obtain ⟨W, hW⟩ : ∃ W, w.alloc (.cells #[.int .i64 0, .int .i64 0, .int .i64 0, .int .i64 0, .string ⟨#[]⟩, .int .i64 0, .int .i64 0, .bool false, .string ⟨#[]⟩, .slice none 0 0, .bool false, .int .i64 0, .int .i64 0] 42) = W := ⟨_, rfl⟩
      rw [hW] at HB hx
      have K := hid hx
      have hlt := hx.lt
      clear hx
      have K6 := hid (show BlockIs (W.alloc (.cells #[.int .i64 0, .int .i64 0, .int .i64 0, .int .i64 0, .string ⟨#[]⟩, .int .i64 0, .int .i64 0, .bool false, .string ⟨#[]⟩, .slice none 0 0, .bool false, .int .i64 0, .int .i64 0] 42)) W.heap.size 42 [.int .i64 0, .int .i64 0, .int .i64 0, .int .i64 0, .string ⟨#[]⟩, .int .i64 0, .int .i64 0, .bool false, .string ⟨#[]⟩, .slice none 0 0, .bool false, .int .i64 0, .int .i64 0] from heap_alloc_new W _)
      have K2 := hid (K.out.on (below_more (Below.refl W.heap.size W) (.cells #[.int .i64 1, .int .i64 iss, .int .i64 iss, .int .i64 0, .string ⟨#[]⟩, .int .i64 0, .int .i64 0, .bool false, .string ⟨#[]⟩, .slice none 0 0, .bool false, .int .i64 0, .int .i64 0] 42)) K.out.lt)
      have B2 := hid (below_more HB.out (.cells #[.int .i64 1, .int .i64 iss, .int .i64 iss, .int .i64 0, .string ⟨#[]⟩, .int .i64 0, .int .i64 0, .bool false, .string ⟨#[]⟩, .slice none 0 0, .bool false, .int .i64 0, .int .i64 0] 42))
      have X2 := hid (show BlockIs (W.alloc (.cells #[.int .i64 1, .int .i64 iss, .int .i64 iss, .int .i64 0, .string ⟨#[]⟩, .int .i64 0, .int .i64 0, .bool false, .string ⟨#[]⟩, .slice none 0 0, .bool false, .int .i64 0, .int .i64 0] 42)) W.heap.size 42 [.int .i64 1, .int .i64 iss, .int .i64 iss, .int .i64 0, .string ⟨#[]⟩, .int .i64 0, .int .i64 0, .bool false, .string ⟨#[]⟩, .slice none 0 0, .bool false, .int .i64 0, .int .i64 0] from heap_alloc_new W _)
      obtain ⟨W2, hW2⟩ : ∃ W2, W.alloc (.cells #[.int .i64 1, .int .i64 iss, .int .i64 iss, .int .i64 0, .string ⟨#[]⟩, .int .i64 0, .int .i64 0, .bool false, .string ⟨#[]⟩, .slice none 0 0, .bool false, .int .i64 0, .int .i64 0] 42) = W2 := ⟨_, rfl⟩
      have OV := hid (str_over W #[.int .i64 0, .int .i64 0, .int .i64 0, .int .i64 0, .string ⟨#[]⟩, .int .i64 0, .int .i64 0, .bool false, .string ⟨#[]⟩, .slice none 0 0, .bool false, .int .i64 0, .int .i64 0] #[.int .i64 1, .int .i64 iss, .int .i64 iss, .int .i64 0, .string ⟨#[]⟩, .int .i64 0, .int .i64 0, .bool false, .string ⟨#[]⟩, .slice none 0 0, .bool false, .int .i64 0, .int .i64 0] 42)
      rw [hW2] at K2 B2 X2 OV
      obtain ⟨V, hV⟩ : ∃ V, W2.setRow w.heap.size #[.int .i64 1, .int .i64 iss, .int .i64 iss, .int .i64 0, .string ⟨#[]⟩, .int .i64 0, .int .i64 0, .bool false, .string ⟨#[]⟩, .slice none 0 0, .bool false, .int .i64 0, .int .i64 0] = V := ⟨_, rfl⟩
      have KL : BlockIs V w.heap.size 42 [.int .i64 1, .int .i64 iss, .int .i64 iss, .int .i64 0, .string ⟨#[]⟩, .int .i64 0, .int .i64 0, .bool false, .string ⟨#[]⟩, .slice none 0 0, .bool false, .int .i64 0, .int .i64 0] := by rw [← hV]; exact store_block K2.out _
      have BL : Hid (Below w.heap.size w V) := by rw [← hV]; exact below_setRow B2.out (Nat.le_refl _) _
      have r0 := KL.cell (j := 0) rfl
      have r1 := KL.cell (j := 1) rfl
      have r2 := KL.cell (j := 2) rfl
      have r3 := KL.cell (j := 3) rfl
      have r4 := KL.cell (j := 4) rfl
      have r5 := KL.cell (j := 5) rfl
      have r6 := KL.cell (j := 6) rfl
      have r7 := KL.cell (j := 7) rfl
      have r8 := KL.cell (j := 8) rfl
      have r9 := KL.cell (j := 9) rfl
      have r10 := KL.cell (j := 10) rfl
      have r11 := KL.cell (j := 11) rfl
      have r12 := KL.cell (j := 12) rfl
      clear KL
      go_enter Try.func14, Try.ntmps14
      go_wp2_with (first | (go_at_call 13; with_reducible refine Calls.mono (n0.out _) ?_; rintro e w1 ⟨rfl, hw⟩; rw [hw]; clear hw w1) | (refine wpList_store_str K6.out rfl rfl _ _ rfl _ rfl rfl rfl (strCells_all ⟨1, iss, iss, 0, ⟨#[]⟩, 0, 0, false, ⟨#[]⟩, [], false, 0, 0⟩ none 0) ?_; rw [OV.out]) | (refine wpList_load_str X2.out rfl rfl _ rfl rfl ?_) | (refine wpList_store_str K2.out rfl rfl _ _ rfl _ rfl rfl rfl (strCells_all ⟨1, iss, iss, 0, ⟨#[]⟩, 0, 0, false, ⟨#[]⟩, [], false, 0, 0⟩ none 0) ?_; rw [hV]) | fail)
      rw [HR.out]
      refine bodyPost_ret (v := .tuple #[.agg #[.int .i64 1, .int .i64 iss, .int .i64 iss, .int .i64 0, .string ⟨#[]⟩, .int .i64 0, .int .i64 0, .bool false, .string ⟨#[]⟩, .slice none 0 0, .bool false, .int .i64 0, .int .i64 0], .bool true]) (by simp [results, Try.results14, go_sem, r0, r1, r2, r3, r4, r5, r6, r7, r8, r9, r10, r11, r12]) rfl ⟨rfl, BL.out⟩
    | true =>
      have HR : Hid (strCells (newD iss true) none 0 = [.int .i64 2, .int .i64 iss, .int .i64 iss, .int .i64 0, .string ⟨#[]⟩, .int .i64 0, .int .i64 0, .bool false, .string ⟨#[]⟩, .slice none 0 0, .bool false, .int .i64 0, .int .i64 0]) := by show _ = _; simp only [newD, h0]; rfl
      clear h0
      have HB := hid (below_more (Below.refl w.heap.size w) (.cells #[.int .i64 0, .int .i64 0, .int .i64 0, .int .i64 0, .string ⟨#[]⟩, .int .i64 0, .int .i64 0, .bool false, .string ⟨#[]⟩, .slice none 0 0, .bool false, .int .i64 0, .int .i64 0] 42))
      have hx : BlockIs (w.alloc (.cells #[.int .i64 0, .int .i64 0, .int .i64 0, .int .i64 0, .string ⟨#[]⟩, .int .i64 0, .int .i64 0, .bool false, .string ⟨#[]⟩, .slice none 0 0, .bool false, .int .i64 0, .int .i64 0] 42)) w.heap.size 42 [.int .i64 0, .int .i64 0, .int .i64 0, .int .i64 0, .string ⟨#[]⟩, .int .i64 0, .int .i64 0, .bool false, .string ⟨#[]⟩, .slice none 0 0, .bool false, .int .i64 0, .int .i64 0] := heap_alloc_new w _
      obtain ⟨W, hW⟩ : ∃ W, w.alloc (.cells #[.int .i64 0, .int .i64 0, .int .i64 0, .int .i64 0, .string ⟨#[]⟩, .int .i64 0, .int .i64 0, .bool false, .string ⟨#[]⟩, .slice none 0 0, .bool false, .int .i64 0, .int .i64 0] 42) = W := ⟨_, rfl⟩
      rw [hW] at HB hx
      have K := hid hx
      have hlt := hx.lt
      clear hx
      have K6 := hid (show BlockIs (W.alloc (.cells #[.int .i64 0, .int .i64 0, .int .i64 0, .int .i64 0, .string ⟨#[]⟩, .int .i64 0, .int .i64 0, .bool false, .string ⟨#[]⟩, .slice none 0 0, .bool false, .int .i64 0, .int .i64 0] 42)) W.heap.size 42 [.int .i64 0, .int .i64 0, .int .i64 0, .int .i64 0, .string ⟨#[]⟩, .int .i64 0, .int .i64 0, .bool false, .string ⟨#[]⟩, .slice none 0 0, .bool false, .int .i64 0, .int .i64 0] from heap_alloc_new W _)
      have K2 := hid (K.out.on (below_more (Below.refl W.heap.size W) (.cells #[.int .i64 1, .int .i64 iss, .int .i64 iss, .int .i64 0, .string ⟨#[]⟩, .int .i64 0, .int .i64 0, .bool false, .string ⟨#[]⟩, .slice none 0 0, .bool false, .int .i64 0, .int .i64 0] 42)) K.out.lt)
      have B2 := hid (below_more HB.out (.cells #[.int .i64 1, .int .i64 iss, .int .i64 iss, .int .i64 0, .string ⟨#[]⟩, .int .i64 0, .int .i64 0, .bool false, .string ⟨#[]⟩, .slice none 0 0, .bool false, .int .i64 0, .int .i64 0] 42))
      have X2 := hid (show BlockIs (W.alloc (.cells #[.int .i64 1, .int .i64 iss, .int .i64 iss, .int .i64 0, .string ⟨#[]⟩, .int .i64 0, .int .i64 0, .bool false, .string ⟨#[]⟩, .slice none 0 0, .bool false, .int .i64 0, .int .i64 0] 42)) W.heap.size 42 [.int .i64 1, .int .i64 iss, .int .i64 iss, .int .i64 0, .string ⟨#[]⟩, .int .i64 0, .int .i64 0, .bool false, .string ⟨#[]⟩, .slice none 0 0, .bool false, .int .i64 0, .int .i64 0] from heap_alloc_new W _)
      obtain ⟨W2, hW2⟩ : ∃ W2, W.alloc (.cells #[.int .i64 1, .int .i64 iss, .int .i64 iss, .int .i64 0, .string ⟨#[]⟩, .int .i64 0, .int .i64 0, .bool false, .string ⟨#[]⟩, .slice none 0 0, .bool false, .int .i64 0, .int .i64 0] 42) = W2 := ⟨_, rfl⟩
      have OV := hid (str_over W #[.int .i64 0, .int .i64 0, .int .i64 0, .int .i64 0, .string ⟨#[]⟩, .int .i64 0, .int .i64 0, .bool false, .string ⟨#[]⟩, .slice none 0 0, .bool false, .int .i64 0, .int .i64 0] #[.int .i64 1, .int .i64 iss, .int .i64 iss, .int .i64 0, .string ⟨#[]⟩, .int .i64 0, .int .i64 0, .bool false, .string ⟨#[]⟩, .slice none 0 0, .bool false, .int .i64 0, .int .i64 0] 42)
      rw [hW2] at K2 B2 X2 OV
      have f0 := X2.out.thaw 0
      have c0 := X2.out.cell (j := 0) rfl
      obtain ⟨W3, hW3⟩ : ∃ W3, W2.setCell ⟨W.heap.size, 0, none⟩ (.int .i64 2) = W3 := ⟨_, rfl⟩
      have K3 : Hid (BlockIs W3 w.heap.size 42 [.int .i64 0, .int .i64 0, .int .i64 0, .int .i64 0, .string ⟨#[]⟩, .int .i64 0, .int .i64 0, .bool false, .string ⟨#[]⟩, .slice none 0 0, .bool false, .int .i64 0, .int .i64 0]) := by rw [← hW3]; exact K2.out.far (by omega) _
      have X3 : Hid (BlockIs W3 W.heap.size 42 [.int .i64 2, .int .i64 iss, .int .i64 iss, .int .i64 0, .string ⟨#[]⟩, .int .i64 0, .int .i64 0, .bool false, .string ⟨#[]⟩, .slice none 0 0, .bool false, .int .i64 0, .int .i64 0]) := by rw [← hW3]; exact X2.out.set 0 _
      have B3 : Hid (Below w.heap.size w W3) := by rw [← hW3]; exact B2.out.setCell (by show _ ≤ W.heap.size; omega) _
      obtain ⟨V, hV⟩ : ∃ V, W3.setRow w.heap.size #[.int .i64 2, .int .i64 iss, .int .i64 iss, .int .i64 0, .string ⟨#[]⟩, .int .i64 0, .int .i64 0, .bool false, .string ⟨#[]⟩, .slice none 0 0, .bool false, .int .i64 0, .int .i64 0] = V := ⟨_, rfl⟩
      have KL : BlockIs V w.heap.size 42 [.int .i64 2, .int .i64 iss, .int .i64 iss, .int .i64 0, .string ⟨#[]⟩, .int .i64 0, .int .i64 0, .bool false, .string ⟨#[]⟩, .slice none 0 0, .bool false, .int .i64 0, .int .i64 0] := by rw [← hV]; exact store_block K3.out _
      have BL : Hid (Below w.heap.size w V) := by rw [← hV]; exact below_setRow B3.out (Nat.le_refl _) _
      have r0 := KL.cell (j := 0) rfl
      have r1 := KL.cell (j := 1) rfl
      have r2 := KL.cell (j := 2) rfl
      have r3 := KL.cell (j := 3) rfl
      have r4 := KL.cell (j := 4) rfl
      have r5 := KL.cell (j := 5) rfl
      have r6 := KL.cell (j := 6) rfl
      have r7 := KL.cell (j := 7) rfl
      have r8 := KL.cell (j := 8) rfl
      have r9 := KL.cell (j := 9) rfl
      have r10 := KL.cell (j := 10) rfl
      have r11 := KL.cell (j := 11) rfl
      have r12 := KL.cell (j := 12) rfl
      clear KL
      go_enter Try.func14, Try.ntmps14
      go_wp2_with (first | (go_at_call 13; with_reducible refine Calls.mono (n0.out _) ?_; rintro e w1 ⟨rfl, hw⟩; rw [hw]; clear hw w1) | (refine wpList_store_str K6.out rfl rfl _ _ rfl _ rfl rfl rfl (strCells_all ⟨1, iss, iss, 0, ⟨#[]⟩, 0, 0, false, ⟨#[]⟩, [], false, 0, 0⟩ none 0) ?_; rw [OV.out]) | (refine wpList_load_str X3.out rfl rfl _ rfl rfl ?_) | (refine wpList_store_str K3.out rfl rfl _ _ rfl _ rfl rfl rfl (strCells_all ⟨2, iss, iss, 0, ⟨#[]⟩, 0, 0, false, ⟨#[]⟩, [], false, 0, 0⟩ none 0) ?_; rw [hV]) | fail)
      rw [HR.out]
      refine bodyPost_ret (v := .tuple #[.agg #[.int .i64 2, .int .i64 iss, .int .i64 iss, .int .i64 0, .string ⟨#[]⟩, .int .i64 0, .int .i64 0, .bool false, .string ⟨#[]⟩, .slice none 0 0, .bool false, .int .i64 0, .int .i64 0], .bool true]) (by simp [results, Try.results14, go_sem, r0, r1, r2, r3, r4, r5, r6, r7, r8, r9, r10, r11, r12]) rfl ⟨rfl, BL.out⟩
end Go.Proofs.Ythkkhmmcgjcedaa
