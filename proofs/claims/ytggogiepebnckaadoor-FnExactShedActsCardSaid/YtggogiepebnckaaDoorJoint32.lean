/-
  The walk of spec.ShedActs: what it answers, in memory of its own.
  The walks of impl.nameOk, impl.fileOk, impl.DiskOk: what they answer.
-/
import Derived.Test.YtggogiepebnckaaDoorJoint27
import Derived.Test.YtggogiepebnckaaDoorJoint30
import Derived.Test.YtggogiepebnckaaDoorJoint1
import Derived.Test.YtggogiepebnckaaDoorJoint31
import Derived.Lib.QuietBelow
import Derived.Laws.Cover1
namespace Go.Proofs.YtggogiepebnckaaDoor
open Go.RowKit

theorem actR_ext {x y : World} {base n : Nat} {v : Value} {xs : List Value} (h : x.ownsRow base 82 4 v n xs) (hb : ∀ g cs, BlockIs x g 82 cs → BlockIs y g 82 cs) : y.ownsRow base 82 4 v n xs := by
  refine ⟨h.1, h.2.imp id ?_⟩
  rintro ⟨g, cap, cur, a, c, d, r⟩
  refine ⟨g, cap, cur, a, c, ?_, r⟩
  have := hb g cur.toList (by unfold BlockIs; rw [d])
  unfold BlockIs at this
  simpa using this

set_option maxRecDepth 1000000 in
set_option maxHeartbeats 4000000 in
theorem specShed_any (ao : Option Addr) (l : List FileD) (cap : Nat) (hl : l.length ≤ 1048576) (hsm : ∀ f ∈ l, f.text.size ≤ 1048576) (hsn : ∀ f ∈ l, f.name.size ≤ 1048576) (w : World) (ha : FilesAt w ao l) :
    Calls Tryd.prog 18 #[.agg #[.slice ao l.length cap]] w fun e w' => actsDid (shedActs l) w e w' := by
  have HA := hid ha
  have HSN := hid hsn
  have hx0 : BlockIs (w.alloc (.cells #[.slice ao l.length cap] 37)) w.heap.size 37 [.slice ao l.length cap] := heap_alloc_new w _
  have D0 := hid hx0
  have B0 := hid (below_more (Below.refl w.heap.size w) (.cells #[.slice ao l.length cap] 37))
  have d0 := D0.out.cell (j := 0) rfl
  clear ha hx0
  go_enter Tryd.func18, Tryd.ntmps18
  go_wp2_with fail
  refine (specNewest_any ao l cap hl hsm hsn _ (HA.out.on B0.out)).mono ?_
  rintro e w1 ⟨va, vc, rfl, _, b1⟩
  have bx := below_more (Below.refl w1.heap.size w1) (.cells #[.int .i64 (snapIx (newestSnap l)), .int .i64 (snapTm (newestSnap l)), .slice va (snapZs (newestSnap l)).length vc, .string (snapBd (newestSnap l))] 24)
  have hx1 : BlockIs (w1.alloc (.cells #[.int .i64 (snapIx (newestSnap l)), .int .i64 (snapTm (newestSnap l)), .slice va (snapZs (newestSnap l)).length vc, .string (snapBd (newestSnap l))] 24)) w1.heap.size 24 [.int .i64 (snapIx (newestSnap l)), .int .i64 (snapTm (newestSnap l)), .slice va (snapZs (newestSnap l)).length vc, .string (snapBd (newestSnap l))] := heap_alloc_new w1 _
  have b01 := below_via b1 bx
  have D1 := hid (D0.out.on b01 D0.out.lt)
  have B1 := hid (below_via B0.out b01)
  have X1 := hid hx1
  clear b1 bx b01 hx1 D0 B0 d0 hsn
  cases hn : newestSnap l with
  | none =>
    rw [hn] at D1 B1 X1
    have HR : Hid (shedActs l = []) := (show _ = _ by rw [shedActs, hn])
    rw [show (none : Option SnapD).isSome = false from rfl]
    have BL := hid (below_more B1.out (.cells #[] 82))
    have RL := hid (actR_nil (w1.alloc (.cells #[.int .i64 (snapIx (none)), .int .i64 (snapTm (none)), .slice va (snapZs (none)).length vc, .string (snapBd (none))] 24)) w.heap.size B1.out.size)
    have hsz : (w1.alloc (.cells #[.int .i64 (snapIx (none)), .int .i64 (snapTm (none)), .slice va (snapZs (none)).length vc, .string (snapBd (none))] 24)).heap.size = w1.heap.size + 1 := by simp [World.alloc, -World.alloc_eq]
    rw [hsz] at RL
    clear hn hsz
    go_wp2
    go_ret
    rw [HR.out]
    exact ⟨_, _, rfl, RL.out, BL.out⟩
  | some s =>
    rw [hn] at D1 B1 X1
    have HR : Hid (shedActs l = newA l ++ dropsOf (isOther (s.ix : Int)) l) := (show _ = _ by rw [shedActs, hn])
    rw [show (some s : Option SnapD).isSome = true from rfl]
    clear hn
    have CN := hid (fun w ha => l08New_any ao l cap hl w ha)
    have CD := hid (fun w ha => l08Drops_any (s.ix : Int) ao l cap hl HSN.out w ha)
    have hNl := newA_length l
    have hDl := dropsOf_length (isOther (s.ix : Int)) l
    obtain ⟨NA, hNA⟩ : ∃ x, newA l = x := ⟨_, rfl⟩
    obtain ⟨DA, hDA⟩ : ∃ x, dropsOf (isOther (s.ix : Int)) l = x := ⟨_, rfl⟩
    rw [hNA] at HR CN hNl
    rw [hDA] at HR CD hDl
    obtain ⟨ix, hix⟩ : ∃ x : Int, (s.ix : Int) = x := ⟨_, rfl⟩
    rw [hix] at CD
    have X3 : Hid (BlockIs (w1.alloc (.cells #[.int .i64 (snapIx (some s)), .int .i64 (snapTm (some s)), .slice va (snapZs (some s)).length vc, .string (snapBd (some s))] 24)) w1.heap.size 24 [.int .i64 ix, .int .i64 (snapTm (some s)), .slice va (snapZs (some s)).length vc, .string (snapBd (some s))]) := by rw [← hix]; exact X1
    have D3 := hid D1.out
    have B3 := hid B1.out
    clear X1 D1 B1 hNA hDA hix
    obtain ⟨w3, hw3⟩ : ∃ W, w1.alloc (.cells #[.int .i64 (snapIx (some s)), .int .i64 (snapTm (some s)), .slice va (snapZs (some s)).length vc, .string (snapBd (some s))] 24) = W := ⟨_, rfl⟩
    rw [hw3] at X3 D3 B3
    go_wp2
    refine wp_region_each (N := 20) (by kernel_rfl) (by kernel_rfl) rfl (by kernel_rfl) (fun W => Below w3.heap.size w3 W) (fun j v _ W => match j with | 0 => v = .agg #[.slice ao l.length cap] | 1 => ∃ va vc, v = .slice va (NA).length vc ∧ W.ownsRow w3.heap.size 82 4 (.slice va (NA).length vc) (NA).length (actCells (NA)) | 2 => v = .agg #[.slice ao l.length cap] | 3 => v = .pointer (some ⟨w1.heap.size, 0, none⟩) | 4 => v = .int .i64 ix | 5 => ∃ va vc, v = .slice va (DA).length vc ∧ W.ownsRow w3.heap.size 82 4 (.slice va (DA).length vc) (DA).length (actCells (DA)) | 6 => ∃ va vc, v = .slice va (NA ++ DA).length vc ∧ W.ownsRow w3.heap.size 82 4 (.slice va (NA ++ DA).length vc) (NA ++ DA).length (actCells (NA ++ DA)) | 7 => ∃ va vc, v = .slice va (NA ++ DA).length vc ∧ W.ownsRow w3.heap.size 82 4 (.slice va (NA ++ DA).length vc) (NA ++ DA).length (actCells (NA ++ DA)) | _ => True) (fun i => i) (fun j i => decide ((j, i) ∈ ([(1, 6), (5, 6)] : List (Nat × Nat)))) (fun i x y => x.heap.size ≤ y.heap.size ∧ ∀ g ty cs, BlockIs x g ty cs → (i = 6 → ty ≠ 82) → BlockIs y g ty cs) (fun _ => 0) (by kernel_rfl) (fun _ _ => rfl) ?_ (below_drewN (Below.refl _ _) 1) ?_ ?_
    · intro i j v u x y hij hdd hwt hxy hg
      match j, hg with
      | 0, hg => exact hg
      | 1, hg =>
        obtain ⟨va, vc, e1, e2⟩ := hg
        simp at hdd
        exact ⟨va, vc, e1, actR_ext e2 fun g cs h => hxy.2 _ _ _ h (fun e => absurd e hdd)⟩
      | 2, hg => exact hg
      | 3, hg => exact hg
      | 4, hg => exact hg
      | 5, hg =>
        obtain ⟨va, vc, e1, e2⟩ := hg
        simp at hdd
        exact ⟨va, vc, e1, actR_ext e2 fun g cs h => hxy.2 _ _ _ h (fun e => absurd e hdd)⟩
      | 6, hg =>
        obtain ⟨va, vc, e1, e2⟩ := hg
        exact ⟨va, vc, e1, actR_ext e2 fun g cs h => hxy.2 _ _ _ h (fun e => absurd e hij)⟩
      | 7, hg =>
        obtain ⟨va, vc, e1, e2⟩ := hg
        have h6 : i ≠ 6 := by rintro rfl; exact Bool.noConfusion (hwt.symm.trans (by kernel_rfl : waitsB _ 7 6 = true))
        exact ⟨va, vc, e1, actR_ext e2 fun g cs h => hxy.2 _ _ _ h (fun e => absurd e h6)⟩
      | n + 8, _ => exact trivial
    · refine ⟨?_, ?_, ?_, ?_, ?_, ?_, ?_, ?_, trivial⟩
      · intro A W hC hg hb
        have h1 : A.eval (.tmp 1) = .pointer (some ⟨w.heap.size, 0, none⟩) := hb 1 (base_of (by kernel_rfl))
        have hc := (D3.out.on hC D3.out.lt).cell (j := 0) rfl
        exact does_value (v := .agg #[.slice ao l.length cap]) (w' := W) (by simp only [execOp, h1]; simp [go_sem, hc]) ⟨rfl, hC, Nat.le_refl _, fun _ _ _ h _ => h⟩
      · intro A W hC hg hb
        have h13 : A.eval (.tmp 13) = .agg #[.slice ao l.length cap] := hg 0 13 (by decide) rfl (by simp [Op.operands, Call.operands]) (by kernel_rfl) rfl
        simp [go_sem] at h13
        refine does_enter (f := 45) (args := #[.agg #[.slice ao l.length cap]]) (w' := W) (by simp [go_sem, h13]) ?_
        refine (CN.out W (HA.out.on (below_via B3.out hC))).mono ?_
        rintro e W' ⟨va, vc, rfl, ho, b'⟩
        exact ⟨_, rfl, ⟨va, vc, rfl, row_down ho hC.size⟩, below_via hC b', b'.size, fun g ty cs h _ => h.on b' h.lt⟩
      · intro A W hC hg hb
        have h1 : A.eval (.tmp 1) = .pointer (some ⟨w.heap.size, 0, none⟩) := hb 1 (base_of (by kernel_rfl))
        have hc := (D3.out.on hC D3.out.lt).cell (j := 0) rfl
        exact does_value (v := .agg #[.slice ao l.length cap]) (w' := W) (by simp only [execOp, h1]; simp [go_sem, hc]) ⟨rfl, hC, Nat.le_refl _, fun _ _ _ h _ => h⟩
      · intro A W hC hg hb
        have h3 : A.eval (.tmp 3) = .pointer (some ⟨w1.heap.size, 0, none⟩) := hb 3 (base_of (by kernel_rfl))
        exact does_value (v := .pointer (some ⟨w1.heap.size, 0, none⟩)) (w' := W) (by simp only [execOp, h3]; simp [go_sem]) ⟨rfl, hC, Nat.le_refl _, fun _ _ _ h _ => h⟩
      · intro A W hC hg hb
        have h16 : A.eval (.tmp 16) = .pointer (some ⟨w1.heap.size, 0, none⟩) := hg 3 16 (by decide) rfl (by simp [Op.operands]) (by kernel_rfl) rfl
        have hc := (X3.out.on hC X3.out.lt).cell (j := 0) rfl
        exact does_value (v := .int .i64 ix) (w' := W) (by simp only [execOp, h16]; simp [go_sem, hc]) ⟨rfl, hC, Nat.le_refl _, fun _ _ _ h _ => h⟩
      · intro A W hC hg hb
        have h15 : A.eval (.tmp 15) = .agg #[.slice ao l.length cap] := hg 2 15 (by decide) rfl (by simp [Op.operands, Call.operands]) (by kernel_rfl) rfl
        have h17 : A.eval (.tmp 17) = .int .i64 ix := hg 4 17 (by decide) rfl (by simp [Op.operands, Call.operands]) (by kernel_rfl) rfl
        simp [go_sem] at h15 h17
        refine does_enter (f := 46) (args := #[.agg #[.slice ao l.length cap], .int .i64 ix]) (w' := W) (by simp [go_sem, h15, h17]) ?_
        refine (CD.out W (HA.out.on (below_via B3.out hC))).mono ?_
        rintro e W' ⟨va, vc, rfl, ho, b'⟩
        exact ⟨_, rfl, ⟨va, vc, rfl, row_down ho hC.size⟩, below_via hC b', b'.size, fun g ty cs h _ => h.on b' h.lt⟩
      · intro A W hC hg hb
        have g1 := hg 1 14 (by decide) rfl (by simp [Op.operands, Call.operands]) (by kernel_rfl) rfl
        have g5 := hg 5 18 (by decide) rfl (by simp [Op.operands, Call.operands]) (by kernel_rfl) rfl
        obtain ⟨va, vc, h14, ho1⟩ := g1
        obtain ⟨vb, vd, h18, ho2⟩ := g5
        obtain ⟨v', W', hr, h2, h3⟩ := append_acts (c := vd) (by omega) hC.size ho1 ho2
        obtain ⟨ve, vf, rfl⟩ := row_shape h2
        refine does_value (v := .slice ve (NA ++ DA).length vf) (w' := W') (by simp only [execOp, resolve, invoke, builtin, Sem.run_bind, Sem.run_pure, Result.andThen_ok, List.map_toArray, List.map_cons, List.map_nil, h14, h18, hr]) ⟨⟨ve, vf, rfl, h2⟩, below_row hC ho1 h3 (Nat.le_refl _) hC.size, h3.size, fun q ty cs hq hne => blk_row hq ho1 h3 (hne rfl)⟩
      · intro A W hC hg hb
        have g6 := hg 6 19 (by decide) rfl (by simp [Op.operands]) (by kernel_rfl) rfl
        obtain ⟨va, vc, h19, ho⟩ := g6
        simp [go_sem] at h19
        refine does_value (v := .slice va (NA ++ DA).length vc) (w' := W) (by simp [execOp, go_sem, h19]) ⟨⟨va, vc, by simp, ho⟩, hC, Nat.le_refl _, fun _ _ _ h _ => h⟩
    · intro vs w4 b4 hg
      obtain ⟨ve, vf, h7, ho⟩ := hg 7 (by decide) (fun k => by simp)
      clear hg
      change Exit.then _ _ _ (laidBy _ vs _ 8 _) w4
      simp only [laidBy, if_true, dstAt, List.getElem?_toArray, List.getElem?_cons_succ, List.getElem?_cons_zero, Option.bind_some]
      simp only [Act.put, List.setIfInBounds_toArray, List.set_cons_succ, List.set_cons_zero]
      rw [h7]
      clear h7
      rw [← HR.out] at ho ⊢
      have RL := hid (row_down ho B3.out.size)
      have BL := hid (below_via B3.out b4)
      clear ho b4 X3 D3 B3 CN CD
      go_wp2
      go_ret
      exact ⟨_, _, rfl, RL.out, BL.out⟩
end Go.Proofs.YtggogiepebnckaaDoor

namespace Go.Proofs.YtggogiepebnckaaDoor
open Go.RowKit Go.Sort

set_option maxRecDepth 1000000 in
theorem implNameOk_any (s : ByteArray) (w : World) :
    Calls Tryd.prog 97 #[.string s] w fun e w' => e = .returned (.bool (nameOk s)) ∧ w' = w := by
  unfold nameOk within
  by_cases h1 : (1 : Int) ≤ (s.size : Int)
  · by_cases h2 : (s.size : Int) ≤ 8
    · go_enter Tryd.func97, Tryd.ntmps97
      go_wp2
      go_ret
      exact ⟨by simp [h1, h2], rfl⟩
    · go_enter Tryd.func97, Tryd.ntmps97
      go_wp2
      go_ret
      exact ⟨by simp; omega, rfl⟩
  · go_enter Tryd.func97, Tryd.ntmps97
    go_wp2
    go_ret
    exact ⟨by simp; omega, rfl⟩

set_option maxRecDepth 1000000 in
theorem implFileOk_any (f : FileD) (w : World) :
    Calls Tryd.prog 79 #[f.value] w fun e w' => e = .returned (.bool (fileOk f)) ∧ Below w.heap.size w w' := by
  unfold FileD.value
  have HB := hid (below_more (Below.refl w.heap.size w) (.cells #[.string f.name, .string f.text, .int .i64 f.kept] 72))
  have cN' := fun w => implNameOk_any f.name w
  cases hA : nameOk f.name with
  | false =>
    rw [hA] at cN'
    have cN := hid cN'
    have hr : Hid (fileOk f = false) := by show _ = _; simp [fileOk, hA]
    clear cN' hA
    go_enter Tryd.func79, Tryd.ntmps79
    go_wp2_with fail
    refine (cN.out _).mono ?_
    rintro e w' ⟨rfl, hw⟩
    rw [hw]
    clear hw w'
    go_wp2
    go_ret
    exact ⟨by rw [hr.out]; rfl, HB.out⟩
  | true =>
    rw [hA] at cN'
    have cN := hid cN'
    clear cN'
    by_cases h1 : (f.text.size : Int) ≤ 20000
    · by_cases h2 : (0 : Int) ≤ f.kept
      · by_cases h3 : f.kept ≤ (f.text.size : Int)
        · have hr : Hid (fileOk f = true) := by
            show _ = _
            have h1' : f.text.size ≤ 20000 := by omega
            simp [fileOk, within, hA, h1', h2, h3]
          clear hA
          go_enter Tryd.func79, Tryd.ntmps79
          go_wp2_with fail
          refine (cN.out _).mono ?_
          rintro e w' ⟨rfl, hw⟩
          rw [hw]
          clear hw w'
          go_wp2
          go_ret
          exact ⟨by rw [hr.out]; rfl, HB.out⟩
        · have hr : Hid (fileOk f = decide (f.kept ≤ (f.text.size : Int))) := by show _ = _; simp [fileOk, within, h3]
          clear hA
          go_enter Tryd.func79, Tryd.ntmps79
          go_wp2_with fail
          refine (cN.out _).mono ?_
          rintro e w' ⟨rfl, hw⟩
          rw [hw]
          clear hw w'
          go_wp2
          go_ret
          exact ⟨by rw [hr.out]; rfl, HB.out⟩
      · have hr : Hid (fileOk f = false) := by show _ = _; simp [fileOk, within, h2]
        clear hA
        go_enter Tryd.func79, Tryd.ntmps79
        go_wp2_with fail
        refine (cN.out _).mono ?_
        rintro e w' ⟨rfl, hw⟩
        rw [hw]
        clear hw w'
        go_wp2
        go_ret
        exact ⟨by rw [hr.out]; rfl, HB.out⟩
    · have hr : Hid (fileOk f = false) := by
        show _ = _
        have h1' : ¬ f.text.size ≤ 20000 := by omega
        simp [fileOk, h1']
      clear hA
      go_enter Tryd.func79, Tryd.ntmps79
      go_wp2_with fail
      refine (cN.out _).mono ?_
      rintro e w' ⟨rfl, hw⟩
      rw [hw]
      clear hw w'
      go_wp2
      go_ret
      exact ⟨by rw [hr.out]; rfl, HB.out⟩

set_option maxRecDepth 1000000 in
set_option maxHeartbeats 1000000 in
theorem implDiskOk_any (ao : Option Addr) (l : List FileD) (cap : Nat) (hl : l.length ≤ 16777216) (w : World) (ha : FilesAt w ao l) :
    Calls Tryd.prog 41 #[.agg #[.slice ao l.length cap]] w fun e w' => e = .returned (.bool (diskOk l)) ∧ Below w.heap.size w w' := by
  have HA := (show Hid (FilesAt w ao l) from ha)
  clear ha
  by_cases h30 : (30 : Int) < (l.length : Int)
  · have hr : Hid (diskOk l = false) := by show _ = _; unfold diskOk; simp; omega
    go_enter Tryd.func41, Tryd.ntmps41
    go_wp2
    go_ret
    exact ⟨by rw [hr.out]; rfl, below_more (Below.refl _ w) _⟩
  · have HB := (show Hid _ from below_more (Below.refl w.heap.size w) (.cells #[.slice ao l.length cap] 37))
    have HX := (show Hid (BlockIs (w.alloc (.cells #[.slice ao l.length cap] 37)) w.heap.size 37 [.slice ao l.length cap]) from heap_alloc_new w _)
    go_enter Tryd.func41, Tryd.ntmps41
    go_wp2
    go_loopg [3, 4, 12] l.length (fun g _ _ i wr => ∃ (k : Nat), k + g = l.length ∧ i = .int .i64 k ∧ Hid (Below w.heap.size w wr) ∧ Hid (BlockIs wr w.heap.size 37 [.slice ao l.length cap]) ∧ Hid (rightTo l k = true))
    case atStart => exact ⟨0, by omega, rfl, HB, HX, rfl⟩
    case round =>
      obtain ⟨k, hkg, rfl, BR, XR, RT⟩ := hrel
      clear HB HX
      have c0 := XR.out.cell (j := 0) rfl
      cases gk with
      | zero =>
        have hlt : ¬ (k : Int) < (l.length : Int) := by omega
        have hr : Hid (diskOk l = true) := by show _ = _; exact diskOk_of (by omega) (by rw [← RT.out, show k = l.length by omega])
        go_wp2
        go_ret
        exact ⟨by rw [hr.out]; rfl, BR.out⟩
      | succ g =>
        have hlt : k < l.length := by omega
        have hlt' : (k : Int) < (l.length : Int) := by omega
        have hne : l ≠ [] := by intro e; rw [e] at hlt; simp at hlt
        obtain ⟨b, off, rfl, hc⟩ := HA.out.on BR.out hne
        obtain ⟨x0, x1, x2⟩ := hc k hlt
        have HC := hid hc
        clear hc
        go_wp2
        generalize hW2 : wr.alloc (.cells #[.string l[k].name, .string l[k].text, .int .i64 l[k].kept] 72) = W2
        have hb2 : Below wr.heap.size wr W2 := by rw [← hW2]; exact below_more (Below.refl _ wr) _
        have hx2 : BlockIs W2 wr.heap.size 72 [.string l[k].name, .string l[k].text, .int .i64 l[k].kept] := by rw [← hW2]; exact heap_alloc_new wr _
        have n0 := cell_regrown (hx2.cell (j := 0) rfl)
        have n1 := cell_regrown (hx2.cell (j := 1) rfl)
        have n2 := cell_regrown (hx2.cell (j := 2) rfl)
        have XW := XR.out.on hb2 XR.out.lt
        have d0 := cell_regrown (XW.cell (j := 0) rfl)
        have B2 := (show Hid (Below w.heap.size w W2) from below_via BR.out hb2)
        have X2 := (show Hid (BlockIs _ _ _ _) from XW)
        have C' := fun d os => Calls.regrown_of (w := W2) (d := d) (os := os) (implFileOk_any l[k] _)
        unfold FileD.value at C'
        clear hW2 hx2 c0 x0 x1 x2 XW
        cases hA : fileOk l[k] with
        | false =>
          have hr : Hid (diskOk l = false) := not_diskOk hlt (by simp [hA])
          rw [hA] at C'
          have C := hid C'
          clear C' hA
          refine wp_region_quiet_below (by kernel_rfl) (by kernel_rfl) ?_
          repeat (first | go_big_quiet_step (first | (go_at_call 79; exact C.out _ _) | fail) | quiet_step (first | (go_at_call 79; exact C.out _ _) | fail))
          refine wpQuiet_nil ?_
          intro _ hw'
          obtain ⟨⟨dq, osq⟩, hw''⟩ := hw'
          subst hw''
          have BQ : Hid (Below w.heap.size w (grow (redrawn W2 dq) osq)) := B2.out.trans ((below_regrown W2 dq osq).mono B2.out.size)
          generalize grow (redrawn W2 dq) osq = wq at BQ ⊢
          clear n0 n1 n2 d0 C
          go_wp2
          go_ret
          exact ⟨by rw [hr.out]; rfl, BQ.out⟩
        | true =>
          rw [hA] at C'
          have C := hid C'
          clear C'
          cases k with
          | zero =>
            have HR : Hid (rightTo l 1 = true) := by show _ = _; rw [rightTo_step hlt]; simp [rightTo, behind, hA]
            clear hA
            refine wp_region_quiet_below (by kernel_rfl) (by kernel_rfl) ?_
            repeat (first | go_big_quiet_step (first | (go_at_call 79; exact C.out _ _) | fail) | quiet_step (first | (go_at_call 79; exact C.out _ _) | fail))
            refine wpQuiet_nil ?_
            intro _ hw'
            obtain ⟨⟨dq, osq⟩, hw''⟩ := hw'
            subst hw''
            have BQ : Hid (Below w.heap.size w (grow (redrawn W2 dq) osq)) := B2.out.trans ((below_regrown W2 dq osq).mono B2.out.size)
            have XQ : Hid (BlockIs (grow (redrawn W2 dq) osq) w.heap.size 37 [.slice (some ⟨b, off, none⟩) l.length cap]) := X2.out.on (below_regrown W2 dq osq) X2.out.lt
            generalize grow (redrawn W2 dq) osq = wq at BQ XQ ⊢
            clear n0 n1 n2 d0 C
            go_wp2
            go_roundg g
            case measure => omega
            case rel => exact ⟨1, by omega, by go_num, BQ, XQ, HR⟩
          | succ j =>
            have hj : j < l.length := by omega
            have p0 := cell_regrown (show W2.cell? ⟨b, off + j * 3, none⟩ = some (.string l[j].name) from (hb2.cell (p := ⟨b, off + j * 3, none⟩) (World.block_lt_of_cell? wr _ (HC.out j hj).1)).trans (HC.out j hj).1)
            have hpos : (0 : Int) < (((j + 1 : Nat)) : Int) := by omega
            have hsub : (((j + 1 : Nat)) : Int) - 1 = (j : Int) := by omega
            have hjl : (j : Int) < (l.length : Int) := by omega
            have hwj : IntKind.i64.wrap (j : Int) = (j : Int) := by rw [IntKind.wrap_i64]; omega
            cases hL : textLt l[j].name l[j + 1].name with
            | false =>
              have hr : Hid (diskOk l = false) := not_diskOk hlt (by rw [behind_step hlt, hL]; simp)
              have hL' : Op.bytesLess l[j].name.toList l[j + 1].name.toList = false := hL
              clear hA hL
              refine wp_region_quiet_below (by kernel_rfl) (by kernel_rfl) ?_
              repeat (first | go_big_quiet_step (first | (go_at_call 79; exact C.out _ _) | fail) | quiet_step (first | (go_at_call 79; exact C.out _ _) | fail))
              refine wpQuiet_nil ?_
              intro _ hw'
              obtain ⟨⟨dq, osq⟩, hw''⟩ := hw'
              subst hw''
              have BQ : Hid (Below w.heap.size w (grow (redrawn W2 dq) osq)) := B2.out.trans ((below_regrown W2 dq osq).mono B2.out.size)
              generalize grow (redrawn W2 dq) osq = wq at BQ ⊢
              clear n0 n1 n2 d0 C p0
              go_wp2
              go_ret
              exact ⟨by rw [hr.out]; rfl, BQ.out⟩
            | true =>
              have HR : Hid (rightTo l (j + 1 + 1) = true) := by show _ = _; rw [rightTo_step hlt, RT.out, behind_step hlt, hL]; simp [hA]
              have hL' : Op.bytesLess l[j].name.toList l[j + 1].name.toList = true := hL
              clear hA hL
              refine wp_region_quiet_below (by kernel_rfl) (by kernel_rfl) ?_
              repeat (first | go_big_quiet_step (first | (go_at_call 79; exact C.out _ _) | fail) | quiet_step (first | (go_at_call 79; exact C.out _ _) | fail))
              refine wpQuiet_nil ?_
              intro _ hw'
              obtain ⟨⟨dq, osq⟩, hw''⟩ := hw'
              subst hw''
              have BQ : Hid (Below w.heap.size w (grow (redrawn W2 dq) osq)) := B2.out.trans ((below_regrown W2 dq osq).mono B2.out.size)
              have XQ : Hid (BlockIs (grow (redrawn W2 dq) osq) w.heap.size 37 [.slice (some ⟨b, off, none⟩) l.length cap]) := X2.out.on (below_regrown W2 dq osq) X2.out.lt
              generalize grow (redrawn W2 dq) osq = wq at BQ XQ ⊢
              clear n0 n1 n2 d0 C p0
              go_wp2
              go_roundg g
              case measure => omega
              case rel => exact ⟨j + 1 + 1, by omega, by go_num, BQ, XQ, HR⟩
end Go.Proofs.YtggogiepebnckaaDoor
