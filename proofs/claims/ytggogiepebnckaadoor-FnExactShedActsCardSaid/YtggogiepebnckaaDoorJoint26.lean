/-
  The walk of spec.ReadSnap: what it answers, in memory of its own.
  The walks of spec.l03Name, spec.DiskOk: what they answer.
-/
import Derived.Test.YtggogiepebnckaaDoorJoint18
import Derived.Test.YtggogiepebnckaaDoorJoint1
import Derived.Test.YtggogiepebnckaaDoorJoint21
import Derived.Test.YtggogiepebnckaaDoorJoint23
import Derived.Test.YtggogiepebnckaaDoorJoint25
import Derived.Test.YtggogiepebnckaaDoorJoint12
import Derived.Deep.QuietTactic
import Derived.Laws.Cover1
namespace Go.Proofs.YtggogiepebnckaaDoor
open Go.RowKit Go.Sort

theorem cur_put {x : World} {b r j : Nat} {s : ByteArray} {o : Option Nat} {u : Value} (h : CurSt x r s o) (hb : b ≠ r) : CurSt (x.setCell ⟨b, j, none⟩ u) r s o := by
  obtain ⟨k, h1, h2, h3⟩ := h
  exact ⟨k, h1, h2.far hb u, h3⟩
theorem cur_on {x y : World} {r : Nat} {s : ByteArray} {o : Option Nat} (h : CurSt x r s o) (hb : Below x.heap.size x y) : CurSt y r s o := by
  obtain ⟨k, h1, h2, h3⟩ := h
  exact ⟨k, h1, h2.on hb h2.lt, h3⟩
theorem cur_lt {x : World} {r : Nat} {s : ByteArray} {o : Option Nat} (h : CurSt x r s o) : r < x.heap.size := by
  obtain ⟨k, h1, h2, h3⟩ := h
  exact h2.lt

set_option maxRecDepth 1000000 in
set_option maxHeartbeats 8000000 in
theorem specReadSnap_any (s : ByteArray) (hs : s.size ≤ 1048576) (w : World) : Calls Tryd.prog 7 #[.string s] w fun e w' => snapDid (readSnap s) w e w' := by
  have hx0 : BlockIs (w.alloc (.cells #[.int .i64 0, .int .i64 0, .slice none 0 0, .string ⟨#[]⟩] 24)) w.heap.size 24 [.int .i64 0, .int .i64 0, .slice none 0 0, .string ⟨#[]⟩] := heap_alloc_new w _
  have B0 := hid (below_more (Below.refl w.heap.size w) (.cells #[.int .i64 0, .int .i64 0, .slice none 0 0, .string ⟨#[]⟩] 24))
  have P0 := hid hx0
  clear hx0
  go_enter Tryd.func7, Tryd.ntmps7
  go_wp2_with fail
  refine (specUnsealed_any s (by omega) _).mono ?_
  rintro e w1 ⟨hcase, b1⟩
  have P1 := hid (P0.out.on b1 P0.out.lt)
  have B1 := hid (below_via B0.out b1)
  clear b1 P0 B0
  obtain ⟨t, o, he, hts, hot, hask⟩ : ∃ (t : ByteArray) (o : Option Nat), e = .returned (.tuple #[.string t, .bool o.isSome]) ∧ t.size ≤ 1048576 ∧ (∀ j, o = some j → 0 = j) ∧ askSnapIn s t o = readSnap s := by
    rcases hcase with ⟨h1, h2⟩ | ⟨h1, h2⟩
    · exact ⟨_, some 0, h2, by rw [ByteArray.size_extract]; omega, (fun j q => by cases q; rfl), ask_sealed h1⟩
    · exact ⟨_, none, h2, Nat.zero_le _, (fun j q => by cases q), ask_not h1⟩
  subst he
  clear hcase
  have HASK := hid hask
  clear hask
  obtain ⟨q, hq⟩ : ∃ q, o.isSome = q := ⟨_, rfl⟩
  rw [hq]
  have hqn : o.isNone = !q := by rw [← hq]; cases o <;> rfl
  have h2 := two_blocks w1 (.cells #[.string t, .int .i64 0, .bool (!q)] 56) (.cells #[.int .i64 0, .int .i64 0, .slice none 0 0, .string ⟨#[]⟩] 24)
  have R2 : Hid (CurSt _ w1.heap.size t o) := ⟨0, Nat.zero_le _, by rw [hqn]; exact h2.2.2.1, hot⟩
  have S2 : Hid (BlockIs _ (w1.heap.size + 1) 24 [.int .i64 0, .int .i64 0, .slice none 0 0, .string ⟨#[]⟩]) := h2.2.2.2
  have P2 := hid (P1.out.on h2.1 P1.out.lt)
  have B2 := hid (below_via B1.out h2.1)
  have hlt := P1.out.lt
  clear h2 hqn hq hot P1 B1
  -- the first number
  have cV := hid (fun (w : World) hc => l05Var_any w1.heap.size t hts o w hc)
  rw [varNum_same, varSt_same] at cV
  obtain ⟨ix, hix⟩ : ∃ n, varNum' t o = n := ⟨_, rfl⟩
  obtain ⟨o1, ho1⟩ : ∃ n, varSt' t o = n := ⟨_, rfl⟩
  have HK : Hid (askSnapIn s t o = if (shortSt t (shortSt t (varSt' t o1))).isSome = true ∧ snapOk ix (varNum' t o1) (readConf (shortTxt t (varSt' t o1))).1 (shortTxt t (shortSt t (varSt' t o1))) = true ∧ sealOf (snapIn ix (varNum' t o1) (readConf (shortTxt t (varSt' t o1))).1 (shortTxt t (shortSt t (varSt' t o1)))) = s then some ⟨ix, varNum' t o1, (readConf (shortTxt t (varSt' t o1))).1, shortTxt t (shortSt t (varSt' t o1))⟩ else none) := by show _ = _; rw [← hix, ← ho1]; rfl
  rw [hix, ho1] at cV
  clear hix ho1
  rw [HASK.out] at HK
  clear HASK
  go_wp2_with fail
  refine (cV.out _ R2.out).mono ?_
  rintro e w3 ⟨rfl, hc, hgr3⟩
  obtain ⟨r, hr⟩ : ∃ r, w1.heap.size = r := ⟨_, rfl⟩
  obtain ⟨g, hg⟩ : ∃ g, r + 1 = g := ⟨_, rfl⟩
  have hgr : r < g := by omega
  rw [hr] at hc hgr3 S2 hlt ⊢
  rw [hg] at S2 ⊢
  clear hr hg
  have P3 := hid (blk_grown P2.out hgr3 (by omega))
  have S3 := hid (blk_grown S2.out hgr3 (by omega))
  have B3 := hid (below_grown B2.out hgr3 (by omega) B2.out.size)
  have c := S3.out.cell (j := 0) rfl
  have f := S3.out.thaw 0
  have P4 := hid (P3.out.far (b := g) (j := 0) (by omega) (.int .i64 (ix : Int)))
  have S4 := hid (S3.out.set 0 (.int .i64 (ix : Int)))
  have R4 := hid (cur_put (b := g) (j := 0) (u := .int .i64 (ix : Int)) hc (by omega))
  have B4 := hid (B3.out.setCell (p := ⟨g, 0, none⟩) (by show _ ≤ g; omega) (.int .i64 (ix : Int)))
  clear hc hgr3 P2 S2 R2 B2 P3 S3 B3 cV
  -- the second
  have cV := hid (fun (w : World) hc => l05Var_any r t hts o1 w hc)
  rw [varNum_same, varSt_same] at cV
  obtain ⟨tm, htm⟩ : ∃ n, varNum' t o1 = n := ⟨_, rfl⟩
  obtain ⟨o2, ho2⟩ : ∃ n, varSt' t o1 = n := ⟨_, rfl⟩
  rw [htm, ho2] at cV HK
  clear htm ho2
  go_wp2_with fail
  refine (cV.out _ R4.out).mono ?_
  rintro e w5 ⟨rfl, hc, hgr5⟩
  have P5 := hid (blk_grown P4.out hgr5 (by omega))
  have S5 := hid (blk_grown S4.out hgr5 (by omega))
  have B5 := hid (below_grown B4.out hgr5 (by omega) B4.out.size)
  clear c f
  have c := S5.out.cell (j := 1) rfl
  have f := S5.out.thaw 1
  have P6 := hid (P5.out.far (b := g) (j := 1) (by omega) (.int .i64 (tm : Int)))
  have S6 := hid (S5.out.set 1 (.int .i64 (tm : Int)))
  have R6 := hid (cur_put (b := g) (j := 1) (u := .int .i64 (tm : Int)) hc (by omega))
  have B6 := hid (B5.out.setCell (p := ⟨g, 1, none⟩) (by show _ ≤ g; omega) (.int .i64 (tm : Int)))
  clear hc hgr5 P4 S4 R4 B4 P5 S5 B5 cV
  -- the conf
  have cR := hid (fun (w : World) hc => l05ReadShort_any r t hts o2 w hc)
  have hct := shortTxt_size t o2
  obtain ⟨ct, hctt⟩ : ∃ n, shortTxt t o2 = n := ⟨_, rfl⟩
  obtain ⟨o3, ho3⟩ : ∃ n, shortSt t o2 = n := ⟨_, rfl⟩
  rw [hctt] at hct
  rw [hctt, ho3] at cR HK
  clear hctt ho3
  go_wp2_with fail
  refine (cR.out _ R6.out).mono ?_
  rintro e w7 ⟨rfl, hc, hgr7⟩
  have P7 := hid (blk_grown P6.out hgr7 (by omega))
  have S7 := hid (blk_grown S6.out hgr7 (by omega))
  have B7 := hid (below_grown B6.out hgr7 (by omega) B6.out.size)
  have R7 := hid hc
  clear c f hc hgr7 P6 S6 R6 B6 cR
  go_wp2_with fail
  refine (specReadConf_any ct (by omega) _).mono ?_
  rintro e w8 ⟨v, rfl, ho, b8⟩
  have P8 := hid (P7.out.on b8 P7.out.lt)
  have S8 := hid (S7.out.on b8 S7.out.lt)
  have R8 := hid (cur_on R7.out b8)
  have O8 := hid (row_down ho B7.out.size)
  have B8 := hid (below_via B7.out b8)
  have hzl := readConf_small ct
  clear b8 ho P7 S7 R7 B7 hct
  obtain ⟨⟨zs, ok⟩, hrc⟩ : ∃ n, readConf ct = n := ⟨_, rfl⟩
  rw [hrc] at O8 HK hzl ⊢
  dsimp only at O8 HK hzl ⊢
  clear hrc
  obtain ⟨va, vc, rfl⟩ := row_shape O8.out
  have c := S8.out.cell (j := 2) rfl
  have f := S8.out.thaw 2
  have P9 := hid (P8.out.far (b := g) (j := 2) (by omega) (.slice va zs.length vc))
  have O9 := hid (own_put O8.out S8.out (by decide) (j := 2) (u := .slice va zs.length vc))
  have S9 := hid (S8.out.set 2 (.slice va zs.length vc))
  have R9 := hid (cur_put (b := g) (j := 2) (u := .slice va zs.length vc) R8.out (by omega))
  have B9 := hid (B8.out.setCell (p := ⟨g, 2, none⟩) (by show _ ≤ g; omega) (.slice va zs.length vc))
  clear P8 S8 R8 B8 O8
  -- the body
  have cR := hid (fun (w : World) hc => l05ReadShort_any r t hts o3 w hc)
  have hbd := shortTxt_size t o3
  obtain ⟨bd, hctt⟩ : ∃ n, shortTxt t o3 = n := ⟨_, rfl⟩
  obtain ⟨o4, ho4⟩ : ∃ n, shortSt t o3 = n := ⟨_, rfl⟩
  rw [hctt] at hbd
  rw [hctt, ho4] at cR HK
  clear hctt ho4
  go_wp2_with fail
  refine (cR.out _ R9.out).mono ?_
  rintro e w10 ⟨rfl, hc, hgr10⟩
  have P10 := hid (blk_grown P9.out hgr10 (by omega))
  have S10 := hid (blk_grown S9.out hgr10 (by omega))
  have O10 : Hid (w10.ownsRow w.heap.size 3 1 (.slice va zs.length vc) zs.length (intCells zs)) := by
    obtain ⟨k, _, hk, _⟩ := R9.out
    exact own_grown O9.out hgr10 hk (by decide)
  have B10 := hid (below_grown B9.out hgr10 (by omega) B9.out.size)
  clear c f
  have c := S10.out.cell (j := 3) rfl
  have f := S10.out.thaw 3
  have P11 := hid (P10.out.far (b := g) (j := 3) (by omega) (.string bd))
  have O11 := hid (own_put O10.out S10.out (by decide) (j := 3) (u := .string bd))
  have S11 := hid (S10.out.set 3 (.string bd))
  have R11 := hid (cur_put (b := g) (j := 3) (u := .string bd) hc (by omega))
  have B11 := hid (B10.out.setCell (p := ⟨g, 3, none⟩) (by show _ ≤ g; omega) (.string bd))
  clear hc hgr10 P9 S9 R9 B9 O9 P10 S10 B10 O10 cR
  obtain ⟨W, hW⟩ : ∃ W, w10.setCell ⟨g, 3, none⟩ (.string bd) = W := ⟨_, rfl⟩
  rw [hW] at P11 O11 S11 R11 B11
  have d0 := S11.out.cell (j := 0) rfl
  have d1 := S11.out.cell (j := 1) rfl
  have d2 := S11.out.cell (j := 2) rfl
  have d3 := S11.out.cell (j := 3) rfl
  go_wp2_with fail
  refine (specSnapText_any ix tm va zs vc bd (by omega) (by omega) _ (ints_row rfl O11.out)).mono ?_
  rintro e w12 ⟨rfl, b12⟩
  have P12 := hid (P11.out.on b12 P11.out.lt)
  have S12 := hid (S11.out.on b12 S11.out.lt)
  have O12 := hid (kept_conf O11.out b12)
  have B12 := hid (below_via B11.out b12)
  obtain ⟨k, _, hk0, _⟩ := cur_on R11.out b12
  have cb := hk0.cell (j := 2) rfl
  clear b12 P11 S11 O11 B11 R11 c f hW d0 d1 d2 d3 hk0
  have p0 := P12.out.cell (j := 0) rfl
  have p1 := P12.out.cell (j := 1) rfl
  have p2 := P12.out.cell (j := 2) rfl
  have p3 := P12.out.cell (j := 3) rfl
  have e0 := P12.out.thaw 0
  have e1 := P12.out.thaw 1
  have e2 := P12.out.thaw 2
  have e3 := P12.out.thaw 3
  have BLN := hid ((((B12.out.setCell (p := ⟨w.heap.size, 0, none⟩) (Nat.le_refl _) (.int .i64 0)).setCell (p := ⟨w.heap.size, 1, none⟩) (Nat.le_refl _) (.int .i64 0)).setCell (p := ⟨w.heap.size, 2, none⟩) (Nat.le_refl _) (.slice none 0 0)).setCell (p := ⟨w.heap.size, 3, none⟩) (Nat.le_refl _) (.string ⟨#[]⟩))
  cases o4 with
  | none =>
    have HR : Hid (readSnap s = none) := (show _ = _ by rw [HK.out]; exact if_neg (by simp))
    clear HK
    generalize (snapText ix tm zs bd).1 = Z
    generalize (snapText ix tm zs bd).2 = zk
    rw [show Option.isNone (none : Option Nat) = true from rfl] at cb
    cases zk
    all_goals
      go_wp2
      refine bodyPost_ret (v := .tuple #[.agg #[.int .i64 0, .int .i64 0, .slice none 0 0, .string ⟨#[]⟩], .bool false]) (by simp [results, Tryd.results7, go_sem, p0, p1, p2, p3]) rfl ?_
      rw [HR.out]
      exact ⟨rfl, BLN.out⟩
  | some ke =>
    rw [show Option.isNone (some ke) = false from rfl] at cb
    by_cases hok : snapOk ix tm zs bd = true
    · rw [snapText_yes hok]
      simp only [Int.toNat_natCast]
      by_cases hse : sealOf (snapIn ix tm zs bd) = s
      · have HR : Hid (readSnap s = some ⟨ix, tm, zs, bd⟩) := (show _ = _ by rw [HK.out]; exact if_pos ⟨rfl, hok, hse⟩)
        rw [hse]
        have hss : (s.toList == s.toList) = true := by simp
        clear HK hse
        have d0 := S12.out.cell (j := 0) rfl
        have d1 := S12.out.cell (j := 1) rfl
        have d2 := S12.out.cell (j := 2) rfl
        have d3 := S12.out.cell (j := 3) rfl
        have BLY := hid ((((B12.out.setCell (p := ⟨w.heap.size, 0, none⟩) (Nat.le_refl _) (.int .i64 (ix : Int))).setCell (p := ⟨w.heap.size, 1, none⟩) (Nat.le_refl _) (.int .i64 (tm : Int))).setCell (p := ⟨w.heap.size, 2, none⟩) (Nat.le_refl _) (.slice va zs.length vc)).setCell (p := ⟨w.heap.size, 3, none⟩) (Nat.le_refl _) (.string bd))
        have OLY := hid (own_put (own_put (own_put (own_put O12.out P12.out (by decide) (j := 0) (u := .int .i64 (ix : Int))) (P12.out.set 0 (.int .i64 (ix : Int))) (by decide) (j := 1) (u := .int .i64 (tm : Int))) ((P12.out.set 0 (.int .i64 (ix : Int))).set 1 (.int .i64 (tm : Int))) (by decide) (j := 2) (u := .slice va zs.length vc)) (((P12.out.set 0 (.int .i64 (ix : Int))).set 1 (.int .i64 (tm : Int))).set 2 (.slice va zs.length vc)) (by decide) (j := 3) (u := .string bd))
        go_wp2
        refine bodyPost_ret (v := .tuple #[.agg #[.int .i64 (ix : Int), .int .i64 (tm : Int), .slice va zs.length vc, .string bd], .bool true]) (by simp [results, Tryd.results7, go_sem, p0, p1, p2, p3]) rfl ?_
        rw [HR.out]
        exact ⟨_, rfl, OLY.out, BLY.out⟩
      · have HR : Hid (readSnap s = none) := (show _ = _ by rw [HK.out]; exact if_neg (fun h => hse h.2.2))
        obtain ⟨Z, hZ⟩ : ∃ Z, sealOf (snapIn ix tm zs bd) = Z := ⟨_, rfl⟩
        rw [hZ] at hse ⊢
        have hss : (Z.toList == s.toList) = false := by
          simp only [beq_eq_false_iff_ne, ne_eq]
          intro h
          exact hse (text_same h)
        clear HK hZ hse
        go_wp2
        refine bodyPost_ret (v := .tuple #[.agg #[.int .i64 0, .int .i64 0, .slice none 0 0, .string ⟨#[]⟩], .bool false]) (by simp [results, Tryd.results7, go_sem, p0, p1, p2, p3]) rfl ?_
        rw [HR.out]
        exact ⟨rfl, BLN.out⟩
    · have HR : Hid (readSnap s = none) := (show _ = _ by rw [HK.out]; exact if_neg (fun h => hok h.2.1))
      rw [snapText_no hok]
      clear HK
      go_wp2
      refine bodyPost_ret (v := .tuple #[.agg #[.int .i64 0, .int .i64 0, .slice none 0 0, .string ⟨#[]⟩], .bool false]) (by simp [results, Tryd.results7, go_sem, p0, p1, p2, p3]) rfl ?_
      rw [HR.out]
      exact ⟨rfl, BLN.out⟩
end Go.Proofs.YtggogiepebnckaaDoor

namespace Go.Proofs.YtggogiepebnckaaDoor
open Go.RowKit

theorem l03Name_any (s : ByteArray) (w : World) :
    Calls Tryd.prog 76 #[.string s] w fun e w' => e = .returned (.bool (nameOk s)) ∧ w' = w := by
  have C := (show Hid _ from l01In_any s.size 1 8 w)
  go_enter Tryd.func76, Tryd.ntmps76
  go_wp2_with fail
  refine Calls.mono C.out ?_
  rintro e w1 ⟨rfl, hw⟩
  rw [hw]
  go_wp2
  go_ret
  exact ⟨rfl, rfl⟩

set_option maxRecDepth 1000000 in
set_option maxHeartbeats 1000000 in
theorem specDiskOk_any (ao : Option Addr) (l : List FileD) (cap : Nat) (hl : l.length ≤ 16777216) (w : World) (ha : FilesAt w ao l) :
    Calls Tryd.prog 38 #[.agg #[.slice ao l.length cap]] w fun e w' => e = .returned (.bool (diskOk l)) ∧ Below w.heap.size w w' := by
  have HA := (show Hid (FilesAt w ao l) from ha)
  clear ha
  by_cases h30 : (30 : Int) < (l.length : Int)
  · have hr : Hid (diskOk l = false) := by show _ = _; unfold diskOk; simp; omega
    go_enter Tryd.func38, Tryd.ntmps38
    go_wp2
    go_ret
    exact ⟨by rw [hr.out]; rfl, below_more (Below.refl _ w) _⟩
  · have HB := (show Hid _ from below_more (Below.refl w.heap.size w) (.cells #[.slice ao l.length cap] 37))
    have HX := (show Hid (BlockIs (w.alloc (.cells #[.slice ao l.length cap] 37)) w.heap.size 37 [.slice ao l.length cap]) from heap_alloc_new w _)
    go_enter Tryd.func38, Tryd.ntmps38
    go_wp2
    go_loopg [3, 4] l.length (fun g i _ wr => ∃ (k : Nat), k + g = l.length ∧ i = .int .i64 k ∧ Hid (Below w.heap.size w wr) ∧ Hid (BlockIs wr w.heap.size 37 [.slice ao l.length cap]) ∧ Hid (rightTo l k = true))
    case atStart => exact ⟨0, by omega, rfl, HB, HX, rfl⟩
    case round =>
      obtain ⟨k, hkg, rfl, BR, XR, RT⟩ := hrel
      clear HB HX
      have c0 := XR.out.cell (j := 0) rfl
      cases gk with
      | zero =>
        have hlt : ¬ (k : Int) < (l.length : Int) := by omega
        have hr : Hid (diskOk l = true) := by show _ = _; exact diskOk_of (by omega) (by rw [← RT.out, show k = l.length by omega])
        go_wp2
        go_ret
        exact ⟨by rw [hr.out]; rfl, BR.out⟩
      | succ g =>
        have hlt : k < l.length := by omega
        have hlt' : (k : Int) < (l.length : Int) := by omega
        have hne : l ≠ [] := by intro e; rw [e] at hlt; simp at hlt
        obtain ⟨b, off, rfl, hc⟩ := HA.out.on BR.out hne
        obtain ⟨x0, x1, x2⟩ := hc k hlt
        have hcc := hc
        clear hc
        have HC := (show Hid _ from hcc)
        clear hcc
        go_wp2
        generalize hW2 : wr.alloc (.cells #[.string l[k].name, .string l[k].text, .int .i64 l[k].kept] 72) = W2
        have hb2 : Below wr.heap.size wr W2 := by rw [← hW2]; exact below_more (Below.refl _ wr) _
        have hx2 : BlockIs W2 wr.heap.size 72 [.string l[k].name, .string l[k].text, .int .i64 l[k].kept] := by rw [← hW2]; exact heap_alloc_new wr _
        have n0 := hx2.cell (j := 0) rfl
        have n1 := hx2.cell (j := 1) rfl
        have n2 := hx2.cell (j := 2) rfl
        have XW := XR.out.on hb2 XR.out.lt
        have d0 := XW.cell (j := 0) rfl
        have B2 := (show Hid (Below w.heap.size w W2) from below_via BR.out hb2)
        have X2 := (show Hid _ from XW)
        have cN' := fun w => l03Name_any l[k].name w
        have cK' := fun w => l01In_any l[k].kept 0 l[k].text.size w
        clear hW2 hx2 c0 x0 x1 x2 XW
        cases hA : nameOk l[k].name with
        | false =>
          have hr : Hid (diskOk l = false) := not_diskOk hlt (by simp [fileOk, hA])
          rw [hA] at cN'
          have cN := (show Hid _ from cN')
          clear cN' cK' hA
          go_quiet (first | (go_at_call 76; refine Calls.quiet_of_same (cN.out _)) | fail)
          go_wp2
          go_ret
          exact ⟨by rw [hr.out]; rfl, below_drewN B2.out _⟩
        | true =>
          rw [hA] at cN'
          have cN := (show Hid _ from cN')
          clear cN'
          by_cases hB : (20000 : Int) < (l[k].text.size : Int)
          · have hF : ¬ l[k].text.size ≤ 20000 := by omega
            have hr : Hid (diskOk l = false) := not_diskOk hlt (by simp [fileOk, hF])
            clear hA cK'
            go_quiet (first | (go_at_call 76; refine Calls.quiet_of_same (cN.out _)) | fail)
            go_wp2
            go_ret
            exact ⟨by rw [hr.out]; rfl, below_drewN B2.out _⟩
          · have hB' : decide ((20000 : Int) < (l[k].text.size : Int)) = false := by simpa using hB
            cases hK : within l[k].kept 0 l[k].text.size with
            | false =>
              have hr : Hid (diskOk l = false) := not_diskOk hlt (by simp [fileOk, hK])
              rw [hK] at cK'
              have cK := (show Hid _ from cK')
              clear cK' hK hA
              go_quiet (first | (go_at_call 76; refine Calls.quiet_of_same (cN.out _)) | (go_at_call 65; refine Calls.quiet_of_same (cK.out _)) | fail)
              go_wp2
              go_ret
              exact ⟨by rw [hr.out]; rfl, below_drewN B2.out _⟩
            | true =>
              rw [hK] at cK'
              have cK := (show Hid _ from cK')
              clear cK'
              cases k with
              | zero =>
                have hF : l[0].text.size ≤ 20000 := by omega
                have HR : Hid (rightTo l 1 = true) := by show _ = _; rw [rightTo_step hlt]; simp [rightTo, fileOk, behind, hA, hK, hF]
                clear hK hA
                go_quiet (first | (go_at_call 76; refine Calls.quiet_of_same (cN.out _)) | (go_at_call 65; refine Calls.quiet_of_same (cK.out _)) | fail)
                go_wp2
                go_roundg g
                case measure => omega
                case rel => exact ⟨1, by omega, by go_num, below_drewN B2.out _, X2, HR⟩
              | succ j =>
                have hj : j < l.length := by omega
                have p0 : W2.cell? ⟨b, off + j * 3, none⟩ = some (.string l[j].name) := (hb2.cell (p := ⟨b, off + j * 3, none⟩) (World.block_lt_of_cell? wr _ (HC.out j hj).1)).trans (HC.out j hj).1
                have hpos : (0 : Int) < (((j + 1 : Nat)) : Int) := by omega
                have hsub : (((j + 1 : Nat)) : Int) - 1 = (j : Int) := by omega
                have hjl : (j : Int) < (l.length : Int) := by omega
                have hwj : IntKind.i64.wrap (j : Int) = (j : Int) := by rw [IntKind.wrap_i64]; omega
                cases hL : textLt l[j].name l[j + 1].name with
                | false =>
                  have hr : Hid (diskOk l = false) := not_diskOk hlt (by rw [behind_step hlt, hL]; simp)
                  have hL' : Op.bytesLess l[j].name.toList l[j + 1].name.toList = false := hL
                  clear hK hA hL
                  go_quiet (first | (go_at_call 76; refine Calls.quiet_of_same (cN.out _)) | (go_at_call 65; refine Calls.quiet_of_same (cK.out _)) | fail)
                  go_wp2
                  go_ret
                  exact ⟨by rw [hr.out]; rfl, below_drewN B2.out _⟩
                | true =>
                  have hF : l[j + 1].text.size ≤ 20000 := by omega
                  have HR : Hid (rightTo l (j + 1 + 1) = true) := by show _ = _; rw [rightTo_step hlt, RT.out, behind_step hlt, hL]; simp [fileOk, hA, hK, hF]
                  have hL' : Op.bytesLess l[j].name.toList l[j + 1].name.toList = true := hL
                  clear hK hA hL
                  go_quiet (first | (go_at_call 76; refine Calls.quiet_of_same (cN.out _)) | (go_at_call 65; refine Calls.quiet_of_same (cK.out _)) | fail)
                  go_wp2
                  go_roundg g
                  case measure => omega
                  case rel => exact ⟨j + 1 + 1, by omega, by go_num, below_drewN B2.out _, X2, HR⟩
end Go.Proofs.YtggogiepebnckaaDoor
