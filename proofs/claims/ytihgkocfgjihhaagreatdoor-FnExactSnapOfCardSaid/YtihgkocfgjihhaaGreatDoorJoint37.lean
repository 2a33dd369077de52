/-
  The walk of spec.ReadSnap: what it answers, in memory of its own.
  The walks of spec.l03Name, spec.DiskOk: what they answer.
  The walk of spec.NewestSnap: what it answers, in memory of its own.
  The walks of impl.nameOk, impl.fileOk, impl.DiskOk: what they answer.
  The walk of impl.figureValues: what it answers.
  The walk of impl.ReadDecimal: what it answers.
  The walks of strings.CutPrefix with one byte, and of impl.numberInName.
  The walks of impl.indexIn, otherSnap.
  The walk of impl.ReadVar: what it answers.
-/
import Derived.Test.YtihgkocfgjihhaaGreatDoorJoint32
import Derived.Test.YtihgkocfgjihhaaGreatDoorJoint1
import Derived.Test.YtihgkocfgjihhaaGreatDoorJoint29
import Derived.Test.YtihgkocfgjihhaaGreatDoorJoint34
import Derived.Test.YtihgkocfgjihhaaGreatDoorJoint36
import Derived.Deep.QuietTactic
import Derived.Laws.Cover1
import Derived.Test.YtihgkocfgjihhaaGreatDoorJoint30
import Derived.Lib.QuietBelow
import Derived.Test.YtihgkocfgjihhaaGreatDoorRows
import Derived.BigQuiet
import Derived.Deep.LoopGhost
import Derived.WalkSmall
import Derived.WalkKit
namespace Go.Proofs.YtihgkocfgjihhaaGreatDoor
open Go.RowKit Go.Sort

theorem cur_put {x : World} {b r j : Nat} {s : ByteArray} {o : Option Nat} {u : Value} (h : CurSt x r s o) (hb : b ≠ r) : CurSt (x.setCell ⟨b, j, none⟩ u) r s o := by
  obtain ⟨k, h1, h2, h3⟩ := h
  exact ⟨k, h1, h2.far hb u, h3⟩
theorem cur_on {x y : World} {r : Nat} {s : ByteArray} {o : Option Nat} (h : CurSt x r s o) (hb : Below x.heap.size x y) : CurSt y r s o := by
  obtain ⟨k, h1, h2, h3⟩ := h
  exact ⟨k, h1, h2.on hb h2.lt, h3⟩
theorem cur_lt {x : World} {r : Nat} {s : ByteArray} {o : Option Nat} (h : CurSt x r s o) : r < x.heap.size := by
  obtain ⟨k, h1, h2, h3⟩ := h
  exact h2.lt

set_option maxRecDepth 1000000 in
set_option maxHeartbeats 8000000 in
theorem specReadSnap_any (s : ByteArray) (hs : s.size ≤ 1048576) (w : World) : Calls Tryz.prog 93 #[.string s] w fun e w' => snapDid (readSnap s) w e w' := by
  have hx0 : BlockIs (w.alloc (.cells #[.int .i64 0, .int .i64 0, .slice none 0 0, .string ⟨#[]⟩] 53)) w.heap.size 53 [.int .i64 0, .int .i64 0, .slice none 0 0, .string ⟨#[]⟩] := heap_alloc_new w _
  have B0 := hid (below_more (Below.refl w.heap.size w) (.cells #[.int .i64 0, .int .i64 0, .slice none 0 0, .string ⟨#[]⟩] 53))
  have P0 := hid hx0
  clear hx0
  go_enter Tryz.func93, Tryz.ntmps93
  go_wp2_with fail
  refine (specUnsealed_any s (by omega) _).mono ?_
  rintro e w1 ⟨hcase, b1⟩
  have P1 := hid (P0.out.on b1 P0.out.lt)
  have B1 := hid (below_via B0.out b1)
  clear b1 P0 B0
  obtain ⟨t, o, he, hts, hot, hask⟩ : ∃ (t : ByteArray) (o : Option Nat), e = .returned (.tuple #[.string t, .bool o.isSome]) ∧ t.size ≤ 1048576 ∧ (∀ j, o = some j → 0 = j) ∧ askSnapIn s t o = readSnap s := by
    rcases hcase with ⟨h1, h2⟩ | ⟨h1, h2⟩
    · exact ⟨_, some 0, h2, by rw [ByteArray.size_extract]; omega, (fun j q => by cases q; rfl), ask_sealed h1⟩
    · exact ⟨_, none, h2, Nat.zero_le _, (fun j q => by cases q), ask_not h1⟩
  subst he
  clear hcase
  have HASK := hid hask
  clear hask
  obtain ⟨q, hq⟩ : ∃ q, o.isSome = q := ⟨_, rfl⟩
  rw [hq]
  have hqn : o.isNone = !q := by rw [← hq]; cases o <;> rfl
  have h2 := two_blocks w1 (.cells #[.string t, .int .i64 0, .bool (!q)] 188) (.cells #[.int .i64 0, .int .i64 0, .slice none 0 0, .string ⟨#[]⟩] 53)
  have R2 : Hid (CurSt _ w1.heap.size t o) := ⟨0, Nat.zero_le _, by rw [hqn]; exact h2.2.2.1, hot⟩
  have S2 : Hid (BlockIs _ (w1.heap.size + 1) 53 [.int .i64 0, .int .i64 0, .slice none 0 0, .string ⟨#[]⟩]) := h2.2.2.2
  have P2 := hid (P1.out.on h2.1 P1.out.lt)
  have B2 := hid (below_via B1.out h2.1)
  have hlt := P1.out.lt
  clear h2 hqn hq hot P1 B1
  -- the first number
  have cV := hid (fun (w : World) hc => l05Var_any w1.heap.size t hts o w hc)
  rw [varNum_same, varSt_same] at cV
  obtain ⟨ix, hix⟩ : ∃ n, varNum' t o = n := ⟨_, rfl⟩
  obtain ⟨o1, ho1⟩ : ∃ n, varSt' t o = n := ⟨_, rfl⟩
  have HK : Hid (askSnapIn s t o = if (shortSt t (shortSt t (varSt' t o1))).isSome = true ∧ snapOk ix (varNum' t o1) (readConf (shortTxt t (varSt' t o1))).1 (shortTxt t (shortSt t (varSt' t o1))) = true ∧ sealOf (snapIn ix (varNum' t o1) (readConf (shortTxt t (varSt' t o1))).1 (shortTxt t (shortSt t (varSt' t o1)))) = s then some ⟨ix, varNum' t o1, (readConf (shortTxt t (varSt' t o1))).1, shortTxt t (shortSt t (varSt' t o1))⟩ else none) := by show _ = _; rw [← hix, ← ho1]; rfl
  rw [hix, ho1] at cV
  clear hix ho1
  rw [HASK.out] at HK
  clear HASK
  go_wp2_with fail
  refine (cV.out _ R2.out).mono ?_
  rintro e w3 ⟨rfl, hc, hgr3⟩
  obtain ⟨r, hr⟩ : ∃ r, w1.heap.size = r := ⟨_, rfl⟩
  obtain ⟨g, hg⟩ : ∃ g, r + 1 = g := ⟨_, rfl⟩
  have hgr : r < g := by omega
  rw [hr] at hc hgr3 S2 hlt ⊢
  rw [hg] at S2 ⊢
  clear hr hg
  have P3 := hid (blk_grown P2.out hgr3 (by omega))
  have S3 := hid (blk_grown S2.out hgr3 (by omega))
  have B3 := hid (below_grown B2.out hgr3 (by omega) B2.out.size)
  have c := S3.out.cell (j := 0) rfl
  have f := S3.out.thaw 0
  have P4 := hid (P3.out.far (b := g) (j := 0) (by omega) (.int .i64 (ix : Int)))
  have S4 := hid (S3.out.set 0 (.int .i64 (ix : Int)))
  have R4 := hid (cur_put (b := g) (j := 0) (u := .int .i64 (ix : Int)) hc (by omega))
  have B4 := hid (B3.out.setCell (p := ⟨g, 0, none⟩) (by show _ ≤ g; omega) (.int .i64 (ix : Int)))
  clear hc hgr3 P2 S2 R2 B2 P3 S3 B3 cV
  -- the second
  have cV := hid (fun (w : World) hc => l05Var_any r t hts o1 w hc)
  rw [varNum_same, varSt_same] at cV
  obtain ⟨tm, htm⟩ : ∃ n, varNum' t o1 = n := ⟨_, rfl⟩
  obtain ⟨o2, ho2⟩ : ∃ n, varSt' t o1 = n := ⟨_, rfl⟩
  rw [htm, ho2] at cV HK
  clear htm ho2
  go_wp2_with fail
  refine (cV.out _ R4.out).mono ?_
  rintro e w5 ⟨rfl, hc, hgr5⟩
  have P5 := hid (blk_grown P4.out hgr5 (by omega))
  have S5 := hid (blk_grown S4.out hgr5 (by omega))
  have B5 := hid (below_grown B4.out hgr5 (by omega) B4.out.size)
  clear c f
  have c := S5.out.cell (j := 1) rfl
  have f := S5.out.thaw 1
  have P6 := hid (P5.out.far (b := g) (j := 1) (by omega) (.int .i64 (tm : Int)))
  have S6 := hid (S5.out.set 1 (.int .i64 (tm : Int)))
  have R6 := hid (cur_put (b := g) (j := 1) (u := .int .i64 (tm : Int)) hc (by omega))
  have B6 := hid (B5.out.setCell (p := ⟨g, 1, none⟩) (by show _ ≤ g; omega) (.int .i64 (tm : Int)))
  clear hc hgr5 P4 S4 R4 B4 P5 S5 B5 cV
  -- the conf
  have cR := hid (fun (w : World) hc => l05ReadShort_any r t hts o2 w hc)
  have hct := shortTxt_size t o2
  obtain ⟨ct, hctt⟩ : ∃ n, shortTxt t o2 = n := ⟨_, rfl⟩
  obtain ⟨o3, ho3⟩ : ∃ n, shortSt t o2 = n := ⟨_, rfl⟩
  rw [hctt] at hct
  rw [hctt, ho3] at cR HK
  clear hctt ho3
  go_wp2_with fail
  refine (cR.out _ R6.out).mono ?_
  rintro e w7 ⟨rfl, hc, hgr7⟩
  have P7 := hid (blk_grown P6.out hgr7 (by omega))
  have S7 := hid (blk_grown S6.out hgr7 (by omega))
  have B7 := hid (below_grown B6.out hgr7 (by omega) B6.out.size)
  have R7 := hid hc
  clear c f hc hgr7 P6 S6 R6 B6 cR
  go_wp2_with fail
  refine (specReadConf_any ct (by omega) _).mono ?_
  rintro e w8 ⟨v, rfl, ho, b8⟩
  have P8 := hid (P7.out.on b8 P7.out.lt)
  have S8 := hid (S7.out.on b8 S7.out.lt)
  have R8 := hid (cur_on R7.out b8)
  have O8 := hid (row_down ho B7.out.size)
  have B8 := hid (below_via B7.out b8)
  have hzl := readConf_small ct
  clear b8 ho P7 S7 R7 B7 hct
  obtain ⟨⟨zs, ok⟩, hrc⟩ : ∃ n, readConf ct = n := ⟨_, rfl⟩
  rw [hrc] at O8 HK hzl ⊢
  dsimp only at O8 HK hzl ⊢
  clear hrc
  obtain ⟨va, vc, rfl⟩ := row_shape O8.out
  have c := S8.out.cell (j := 2) rfl
  have f := S8.out.thaw 2
  have P9 := hid (P8.out.far (b := g) (j := 2) (by omega) (.slice va zs.length vc))
  have O9 := hid (own_put O8.out S8.out (by decide) (j := 2) (u := .slice va zs.length vc))
  have S9 := hid (S8.out.set 2 (.slice va zs.length vc))
  have R9 := hid (cur_put (b := g) (j := 2) (u := .slice va zs.length vc) R8.out (by omega))
  have B9 := hid (B8.out.setCell (p := ⟨g, 2, none⟩) (by show _ ≤ g; omega) (.slice va zs.length vc))
  clear P8 S8 R8 B8 O8
  -- the body
  have cR := hid (fun (w : World) hc => l05ReadShort_any r t hts o3 w hc)
  have hbd := shortTxt_size t o3
  obtain ⟨bd, hctt⟩ : ∃ n, shortTxt t o3 = n := ⟨_, rfl⟩
  obtain ⟨o4, ho4⟩ : ∃ n, shortSt t o3 = n := ⟨_, rfl⟩
  rw [hctt] at hbd
  rw [hctt, ho4] at cR HK
  clear hctt ho4
  go_wp2_with fail
  refine (cR.out _ R9.out).mono ?_
  rintro e w10 ⟨rfl, hc, hgr10⟩
  have P10 := hid (blk_grown P9.out hgr10 (by omega))
  have S10 := hid (blk_grown S9.out hgr10 (by omega))
  have O10 : Hid (w10.ownsRow w.heap.size 3 1 (.slice va zs.length vc) zs.length (intCells zs)) := by
    obtain ⟨k, _, hk, _⟩ := R9.out
    exact own_grown O9.out hgr10 hk (by decide)
  have B10 := hid (below_grown B9.out hgr10 (by omega) B9.out.size)
  clear c f
  have c := S10.out.cell (j := 3) rfl
  have f := S10.out.thaw 3
  have P11 := hid (P10.out.far (b := g) (j := 3) (by omega) (.string bd))
  have O11 := hid (own_put O10.out S10.out (by decide) (j := 3) (u := .string bd))
  have S11 := hid (S10.out.set 3 (.string bd))
  have R11 := hid (cur_put (b := g) (j := 3) (u := .string bd) hc (by omega))
  have B11 := hid (B10.out.setCell (p := ⟨g, 3, none⟩) (by show _ ≤ g; omega) (.string bd))
  clear hc hgr10 P9 S9 R9 B9 O9 P10 S10 B10 O10 cR
  obtain ⟨W, hW⟩ : ∃ W, w10.setCell ⟨g, 3, none⟩ (.string bd) = W := ⟨_, rfl⟩
  rw [hW] at P11 O11 S11 R11 B11
  have d0 := S11.out.cell (j := 0) rfl
  have d1 := S11.out.cell (j := 1) rfl
  have d2 := S11.out.cell (j := 2) rfl
  have d3 := S11.out.cell (j := 3) rfl
  go_wp2_with fail
  refine (specSnapText_any ix tm va zs vc bd (by omega) (by omega) _ (ints_row rfl O11.out)).mono ?_
  rintro e w12 ⟨rfl, b12⟩
  have P12 := hid (P11.out.on b12 P11.out.lt)
  have S12 := hid (S11.out.on b12 S11.out.lt)
  have O12 := hid (kept_conf O11.out b12)
  have B12 := hid (below_via B11.out b12)
  obtain ⟨k, _, hk0, _⟩ := cur_on R11.out b12
  have cb := hk0.cell (j := 2) rfl
  clear b12 P11 S11 O11 B11 R11 c f hW d0 d1 d2 d3 hk0
  have p0 := P12.out.cell (j := 0) rfl
  have p1 := P12.out.cell (j := 1) rfl
  have p2 := P12.out.cell (j := 2) rfl
  have p3 := P12.out.cell (j := 3) rfl
  have e0 := P12.out.thaw 0
  have e1 := P12.out.thaw 1
  have e2 := P12.out.thaw 2
  have e3 := P12.out.thaw 3
  have BLN := hid ((((B12.out.setCell (p := ⟨w.heap.size, 0, none⟩) (Nat.le_refl _) (.int .i64 0)).setCell (p := ⟨w.heap.size, 1, none⟩) (Nat.le_refl _) (.int .i64 0)).setCell (p := ⟨w.heap.size, 2, none⟩) (Nat.le_refl _) (.slice none 0 0)).setCell (p := ⟨w.heap.size, 3, none⟩) (Nat.le_refl _) (.string ⟨#[]⟩))
  cases o4 with
  | none =>
    have HR : Hid (readSnap s = none) := (show _ = _ by rw [HK.out]; exact if_neg (by simp))
    clear HK
    generalize (snapText ix tm zs bd).1 = Z
    generalize (snapText ix tm zs bd).2 = zk
    rw [show Option.isNone (none : Option Nat) = true from rfl] at cb
    cases zk
    all_goals
      go_wp2
      refine bodyPost_ret (v := .tuple #[.agg #[.int .i64 0, .int .i64 0, .slice none 0 0, .string ⟨#[]⟩], .bool false]) (by simp [results, Tryz.results93, go_sem, p0, p1, p2, p3]) rfl ?_
      rw [HR.out]
      exact ⟨rfl, BLN.out⟩
  | some ke =>
    rw [show Option.isNone (some ke) = false from rfl] at cb
    by_cases hok : snapOk ix tm zs bd = true
    · rw [snapText_yes hok]
      simp only [Int.toNat_natCast]
      by_cases hse : sealOf (snapIn ix tm zs bd) = s
      · have HR : Hid (readSnap s = some ⟨ix, tm, zs, bd⟩) := (show _ = _ by rw [HK.out]; exact if_pos ⟨rfl, hok, hse⟩)
        rw [hse]
        have hss : (s.toList == s.toList) = true := by simp
        clear HK hse
        have d0 := S12.out.cell (j := 0) rfl
        have d1 := S12.out.cell (j := 1) rfl
        have d2 := S12.out.cell (j := 2) rfl
        have d3 := S12.out.cell (j := 3) rfl
        have BLY := hid ((((B12.out.setCell (p := ⟨w.heap.size, 0, none⟩) (Nat.le_refl _) (.int .i64 (ix : Int))).setCell (p := ⟨w.heap.size, 1, none⟩) (Nat.le_refl _) (.int .i64 (tm : Int))).setCell (p := ⟨w.heap.size, 2, none⟩) (Nat.le_refl _) (.slice va zs.length vc)).setCell (p := ⟨w.heap.size, 3, none⟩) (Nat.le_refl _) (.string bd))
        have OLY := hid (own_put (own_put (own_put (own_put O12.out P12.out (by decide) (j := 0) (u := .int .i64 (ix : Int))) (P12.out.set 0 (.int .i64 (ix : Int))) (by decide) (j := 1) (u := .int .i64 (tm : Int))) ((P12.out.set 0 (.int .i64 (ix : Int))).set 1 (.int .i64 (tm : Int))) (by decide) (j := 2) (u := .slice va zs.length vc)) (((P12.out.set 0 (.int .i64 (ix : Int))).set 1 (.int .i64 (tm : Int))).set 2 (.slice va zs.length vc)) (by decide) (j := 3) (u := .string bd))
        go_wp2
        refine bodyPost_ret (v := .tuple #[.agg #[.int .i64 (ix : Int), .int .i64 (tm : Int), .slice va zs.length vc, .string bd], .bool true]) (by simp [results, Tryz.results93, go_sem, p0, p1, p2, p3]) rfl ?_
        rw [HR.out]
        exact ⟨_, rfl, OLY.out, BLY.out⟩
      · have HR : Hid (readSnap s = none) := (show _ = _ by rw [HK.out]; exact if_neg (fun h => hse h.2.2))
        obtain ⟨Z, hZ⟩ : ∃ Z, sealOf (snapIn ix tm zs bd) = Z := ⟨_, rfl⟩
        rw [hZ] at hse ⊢
        have hss : (Z.toList == s.toList) = false := by
          simp only [beq_eq_false_iff_ne, ne_eq]
          intro h
          exact hse (text_same h)
        clear HK hZ hse
        go_wp2
        refine bodyPost_ret (v := .tuple #[.agg #[.int .i64 0, .int .i64 0, .slice none 0 0, .string ⟨#[]⟩], .bool false]) (by simp [results, Tryz.results93, go_sem, p0, p1, p2, p3]) rfl ?_
        rw [HR.out]
        exact ⟨rfl, BLN.out⟩
    · have HR : Hid (readSnap s = none) := (show _ = _ by rw [HK.out]; exact if_neg (fun h => hok h.2.1))
      rw [snapText_no hok]
      clear HK
      go_wp2
      refine bodyPost_ret (v := .tuple #[.agg #[.int .i64 0, .int .i64 0, .slice none 0 0, .string ⟨#[]⟩], .bool false]) (by simp [results, Tryz.results93, go_sem, p0, p1, p2, p3]) rfl ?_
      rw [HR.out]
      exact ⟨rfl, BLN.out⟩
end Go.Proofs.YtihgkocfgjihhaaGreatDoor

namespace Go.Proofs.YtihgkocfgjihhaaGreatDoor
open Go.RowKit

theorem l03Name_any (s : ByteArray) (w : World) :
    Calls Tryz.prog 137 #[.string s] w fun e w' => e = .returned (.bool (nameOk s)) ∧ w' = w := by
  have C := (show Hid _ from l01In_any s.size 1 8 w)
  go_enter Tryz.func137, Tryz.ntmps137
  go_wp2_with fail
  refine Calls.mono C.out ?_
  rintro e w1 ⟨rfl, hw⟩
  rw [hw]
  go_wp2
  go_ret
  exact ⟨rfl, rfl⟩

set_option maxRecDepth 1000000 in
set_option maxHeartbeats 1000000 in
theorem specDiskOk_any (ao : Option Addr) (l : List FileD) (cap : Nat) (hl : l.length ≤ 16777216) (w : World) (ha : FilesAt w ao l) :
    Calls Tryz.prog 91 #[.agg #[.slice ao l.length cap]] w fun e w' => e = .returned (.bool (diskOk l)) ∧ Below w.heap.size w w' := by
  have HA := (show Hid (FilesAt w ao l) from ha)
  clear ha
  by_cases h30 : (30 : Int) < (l.length : Int)
  · have hr : Hid (diskOk l = false) := by show _ = _; unfold diskOk; simp; omega
    go_enter Tryz.func91, Tryz.ntmps91
    go_wp2
    go_ret
    exact ⟨by rw [hr.out]; rfl, below_more (Below.refl _ w) _⟩
  · have HB := (show Hid _ from below_more (Below.refl w.heap.size w) (.cells #[.slice ao l.length cap] 25))
    have HX := (show Hid (BlockIs (w.alloc (.cells #[.slice ao l.length cap] 25)) w.heap.size 25 [.slice ao l.length cap]) from heap_alloc_new w _)
    go_enter Tryz.func91, Tryz.ntmps91
    go_wp2
    go_loopg [3, 4] l.length (fun g i _ wr => ∃ (k : Nat), k + g = l.length ∧ i = .int .i64 k ∧ Hid (Below w.heap.size w wr) ∧ Hid (BlockIs wr w.heap.size 25 [.slice ao l.length cap]) ∧ Hid (rightTo l k = true))
    case atStart => exact ⟨0, by omega, rfl, HB, HX, rfl⟩
    case round =>
      obtain ⟨k, hkg, rfl, BR, XR, RT⟩ := hrel
      clear HB HX
      have c0 := XR.out.cell (j := 0) rfl
      cases gk with
      | zero =>
        have hlt : ¬ (k : Int) < (l.length : Int) := by omega
        have hr : Hid (diskOk l = true) := by show _ = _; exact diskOk_of (by omega) (by rw [← RT.out, show k = l.length by omega])
        go_wp2
        go_ret
        exact ⟨by rw [hr.out]; rfl, BR.out⟩
      | succ g =>
        have hlt : k < l.length := by omega
        have hlt' : (k : Int) < (l.length : Int) := by omega
        have hne : l ≠ [] := by intro e; rw [e] at hlt; simp at hlt
        obtain ⟨b, off, rfl, hc⟩ := HA.out.on BR.out hne
        obtain ⟨x0, x1, x2⟩ := hc k hlt
        have hcc := hc
        clear hc
        have HC := (show Hid _ from hcc)
        clear hcc
        go_wp2
        generalize hW2 : wr.alloc (.cells #[.string l[k].name, .string l[k].text, .int .i64 l[k].kept] 82) = W2
        have hb2 : Below wr.heap.size wr W2 := by rw [← hW2]; exact below_more (Below.refl _ wr) _
        have hx2 : BlockIs W2 wr.heap.size 82 [.string l[k].name, .string l[k].text, .int .i64 l[k].kept] := by rw [← hW2]; exact heap_alloc_new wr _
        have n0 := hx2.cell (j := 0) rfl
        have n1 := hx2.cell (j := 1) rfl
        have n2 := hx2.cell (j := 2) rfl
        have XW := XR.out.on hb2 XR.out.lt
        have d0 := XW.cell (j := 0) rfl
        have B2 := (show Hid (Below w.heap.size w W2) from below_via BR.out hb2)
        have X2 := (show Hid _ from XW)
        have cN' := fun w => l03Name_any l[k].name w
        have cK' := fun w => l01In_any l[k].kept 0 l[k].text.size w
        clear hW2 hx2 c0 x0 x1 x2 XW
        cases hA : nameOk l[k].name with
        | false =>
          have hr : Hid (diskOk l = false) := not_diskOk hlt (by simp [fileOk, hA])
          rw [hA] at cN'
          have cN := (show Hid _ from cN')
          clear cN' cK' hA
          go_quiet (first | (go_at_call 137; refine Calls.quiet_of_same (cN.out _)) | fail)
          go_wp2
          go_ret
          exact ⟨by rw [hr.out]; rfl, below_drewN B2.out _⟩
        | true =>
          rw [hA] at cN'
          have cN := (show Hid _ from cN')
          clear cN'
          by_cases hB : (20000 : Int) < (l[k].text.size : Int)
          · have hF : ¬ l[k].text.size ≤ 20000 := by omega
            have hr : Hid (diskOk l = false) := not_diskOk hlt (by simp [fileOk, hF])
            clear hA cK'
            go_quiet (first | (go_at_call 137; refine Calls.quiet_of_same (cN.out _)) | fail)
            go_wp2
            go_ret
            exact ⟨by rw [hr.out]; rfl, below_drewN B2.out _⟩
          · have hB' : decide ((20000 : Int) < (l[k].text.size : Int)) = false := by simpa using hB
            cases hK : within l[k].kept 0 l[k].text.size with
            | false =>
              have hr : Hid (diskOk l = false) := not_diskOk hlt (by simp [fileOk, hK])
              rw [hK] at cK'
              have cK := (show Hid _ from cK')
              clear cK' hK hA
              go_quiet (first | (go_at_call 137; refine Calls.quiet_of_same (cN.out _)) | (go_at_call 60; refine Calls.quiet_of_same (cK.out _)) | fail)
              go_wp2
              go_ret
              exact ⟨by rw [hr.out]; rfl, below_drewN B2.out _⟩
            | true =>
              rw [hK] at cK'
              have cK := (show Hid _ from cK')
              clear cK'
              cases k with
              | zero =>
                have hF : l[0].text.size ≤ 20000 := by omega
                have HR : Hid (rightTo l 1 = true) := by show _ = _; rw [rightTo_step hlt]; simp [rightTo, fileOk, behind, hA, hK, hF]
                clear hK hA
                go_quiet (first | (go_at_call 137; refine Calls.quiet_of_same (cN.out _)) | (go_at_call 60; refine Calls.quiet_of_same (cK.out _)) | fail)
                go_wp2
                go_roundg g
                case measure => omega
                case rel => exact ⟨1, by omega, by go_num, below_drewN B2.out _, X2, HR⟩
              | succ j =>
                have hj : j < l.length := by omega
                have p0 : W2.cell? ⟨b, off + j * 3, none⟩ = some (.string l[j].name) := (hb2.cell (p := ⟨b, off + j * 3, none⟩) (World.block_lt_of_cell? wr _ (HC.out j hj).1)).trans (HC.out j hj).1
                have hpos : (0 : Int) < (((j + 1 : Nat)) : Int) := by omega
                have hsub : (((j + 1 : Nat)) : Int) - 1 = (j : Int) := by omega
                have hjl : (j : Int) < (l.length : Int) := by omega
                have hwj : IntKind.i64.wrap (j : Int) = (j : Int) := by rw [IntKind.wrap_i64]; omega
                cases hL : textLt l[j].name l[j + 1].name with
                | false =>
                  have hr : Hid (diskOk l = false) := not_diskOk hlt (by rw [behind_step hlt, hL]; simp)
                  have hL' : Op.bytesLess l[j].name.toList l[j + 1].name.toList = false := hL
                  clear hK hA hL
                  go_quiet (first | (go_at_call 137; refine Calls.quiet_of_same (cN.out _)) | (go_at_call 60; refine Calls.quiet_of_same (cK.out _)) | fail)
                  go_wp2
                  go_ret
                  exact ⟨by rw [hr.out]; rfl, below_drewN B2.out _⟩
                | true =>
                  have hF : l[j + 1].text.size ≤ 20000 := by omega
                  have HR : Hid (rightTo l (j + 1 + 1) = true) := by show _ = _; rw [rightTo_step hlt, RT.out, behind_step hlt, hL]; simp [fileOk, hA, hK, hF]
                  have hL' : Op.bytesLess l[j].name.toList l[j + 1].name.toList = true := hL
                  clear hK hA hL
                  go_quiet (first | (go_at_call 137; refine Calls.quiet_of_same (cN.out _)) | (go_at_call 60; refine Calls.quiet_of_same (cK.out _)) | fail)
                  go_wp2
                  go_roundg g
                  case measure => omega
                  case rel => exact ⟨j + 1 + 1, by omega, by go_num, below_drewN B2.out _, X2, HR⟩
end Go.Proofs.YtihgkocfgjihhaaGreatDoor

namespace Go.Proofs.YtihgkocfgjihhaaGreatDoor
open Go.RowKit

/-- the index that is held as the greatest -/
def bestIx (o : Option SnapD) : Int := match o with | none => -1 | some d => d.ix

set_option maxRecDepth 1000000 in
set_option maxHeartbeats 8000000 in
theorem specNewest_any (ao : Option Addr) (l : List FileD) (cap : Nat) (hl : l.length ≤ 1048576) (hsm : ∀ f ∈ l, f.text.size ≤ 1048576) (hsn : ∀ f ∈ l, f.name.size ≤ 1048576) (w : World) (ha : FilesAt w ao l) :
    Calls Tryz.prog 41 #[.agg #[.slice ao l.length cap]] w fun e w' => snapAns (newestSnap l) w e w' := by
  have HA := hid ha
  have HSM := hid hsm
  have HSN := hid hsn
  have h3 := three_blocks w (.cells #[.slice ao l.length cap] 25) (.cells #[.int .i64 0, .int .i64 0, .slice none 0 0, .string ⟨#[]⟩] 53) (.cells #[.int .i64 (-1), .int .i64 0, .slice none 0 0, .string ⟨#[]⟩] 53)
  have D0 : Hid (BlockIs _ w.heap.size 25 [.slice ao l.length cap]) := h3.2.2.1
  have P0 : Hid (BlockIs _ (w.heap.size + 1) 53 [.int .i64 0, .int .i64 0, .slice none 0 0, .string ⟨#[]⟩]) := h3.2.2.2.1
  have N0 : Hid (BlockIs _ (w.heap.size + 1 + 1) 53 [.int .i64 (-1), .int .i64 0, .slice none 0 0, .string ⟨#[]⟩]) := h3.2.2.2.2
  have B0 := hid h3.1
  clear h3 ha hsm hsn
  cases hd : diskOk l with
  | false =>
    have HR := hid (newest_no hd)
    have cD := hid (fun w ha => specDiskOk_any ao l cap (by omega) w ha)
    rw [hd] at cD
    clear hd
    go_enter Tryz.func41, Tryz.ntmps41
    go_wp2
    go_loopg [5, 6, 7, 8] 0 (fun q i _ _ _ wr => q = 0 ∧ i = .int .i64 0 ∧ Hid (Below w.heap.size w wr) ∧ Hid (BlockIs wr w.heap.size 25 [.slice ao l.length cap]) ∧ Hid (BlockIs wr (w.heap.size + 1) 53 [.int .i64 0, .int .i64 0, .slice none 0 0, .string ⟨#[]⟩]) ∧ Hid (BlockIs wr (w.heap.size + 1 + 1) 53 [.int .i64 (-1), .int .i64 0, .slice none 0 0, .string ⟨#[]⟩]))
    case atStart => exact ⟨rfl, rfl, B0, D0, P0, N0⟩
    case round =>
      obtain ⟨rfl, rfl, BR, DR, PR, NR⟩ := hrel
      clear B0 D0 P0 N0
      have d0 := DR.out.cell (j := 0) rfl
      by_cases h0 : (0 : Int) < (l.length : Int)
      · go_wp2_with fail
        refine (cD.out _ (HA.out.on BR.out)).mono ?_
        rintro e w1 ⟨rfl, b1⟩
        have P1 := hid (PR.out.on b1 PR.out.lt)
        have N1 := hid (NR.out.on b1 NR.out.lt)
        have B1 := hid (below_via BR.out b1)
        clear b1 PR NR BR d0
        have n0 := N1.out.cell (j := 0) rfl
        have p0 := P1.out.cell (j := 0) rfl
        have p1 := P1.out.cell (j := 1) rfl
        have p2 := P1.out.cell (j := 2) rfl
        have p3 := P1.out.cell (j := 3) rfl
        have e0 := P1.out.thaw 0
        have e1 := P1.out.thaw 1
        have e2 := P1.out.thaw 2
        have e3 := P1.out.thaw 3
        have BL := hid ((((B1.out.setCell (p := ⟨w.heap.size + 1, 0, none⟩) (Nat.le_succ _) (.int .i64 0)).setCell (p := ⟨w.heap.size + 1, 1, none⟩) (Nat.le_succ _) (.int .i64 0)).setCell (p := ⟨w.heap.size + 1, 2, none⟩) (Nat.le_succ _) (.slice none 0 0)).setCell (p := ⟨w.heap.size + 1, 3, none⟩) (Nat.le_succ _) (.string ⟨#[]⟩))
        go_wp2
        refine bodyPost_ret (v := .tuple #[.agg #[.int .i64 0, .int .i64 0, .slice none 0 0, .string ⟨#[]⟩], .bool false]) (by simp [results, Tryz.results41, go_sem, p0, p1, p2, p3]) rfl ?_
        rw [HR.out]
        exact ⟨none, 0, rfl, own_nil _ _, BL.out⟩
      · have n0 := NR.out.cell (j := 0) rfl
        have p0 := PR.out.cell (j := 0) rfl
        have p1 := PR.out.cell (j := 1) rfl
        have p2 := PR.out.cell (j := 2) rfl
        have p3 := PR.out.cell (j := 3) rfl
        have e0 := PR.out.thaw 0
        have e1 := PR.out.thaw 1
        have e2 := PR.out.thaw 2
        have e3 := PR.out.thaw 3
        have BL := hid ((((BR.out.setCell (p := ⟨w.heap.size + 1, 0, none⟩) (Nat.le_succ _) (.int .i64 0)).setCell (p := ⟨w.heap.size + 1, 1, none⟩) (Nat.le_succ _) (.int .i64 0)).setCell (p := ⟨w.heap.size + 1, 2, none⟩) (Nat.le_succ _) (.slice none 0 0)).setCell (p := ⟨w.heap.size + 1, 3, none⟩) (Nat.le_succ _) (.string ⟨#[]⟩))
        go_wp2
        refine bodyPost_ret (v := .tuple #[.agg #[.int .i64 0, .int .i64 0, .slice none 0 0, .string ⟨#[]⟩], .bool false]) (by simp [results, Tryz.results41, go_sem, p0, p1, p2, p3]) rfl ?_
        rw [HR.out]
        exact ⟨none, 0, rfl, own_nil _ _, BL.out⟩
  | true =>
    have HD := hid (fun k (hk : l.length ≤ k) => newestTo_all hd hk)
    have cD := hid (fun w ha => specDiskOk_any ao l cap (by omega) w ha)
    rw [hd] at cD
    clear hd
    go_enter Tryz.func41, Tryz.ntmps41
    go_wp2
    go_loopg [5, 6, 7, 8] l.length (fun q i _ _ _ wr => ∃ (k : Nat), k + q = l.length ∧ i = .int .i64 k ∧ Hid (Below w.heap.size w wr) ∧ Hid (BlockIs wr w.heap.size 25 [.slice ao l.length cap]) ∧ Hid (BlockIs wr (w.heap.size + 1) 53 [.int .i64 0, .int .i64 0, .slice none 0 0, .string ⟨#[]⟩]) ∧ ∃ va vc, Hid (BlockIs wr (w.heap.size + 1 + 1) 53 [.int .i64 (bestIx (newestTo l k)), .int .i64 (snapTm (newestTo l k)), .slice va (snapZs (newestTo l k)).length vc, .string (snapBd (newestTo l k))]) ∧ Hid (wr.ownsRow w.heap.size 3 1 (.slice va (snapZs (newestTo l k)).length vc) (snapZs (newestTo l k)).length (intCells (snapZs (newestTo l k)))))
    case atStart =>
      refine ⟨0, by omega, rfl, B0, D0, P0, none, 0, ?_, ?_⟩
      · rw [newestTo_zero]; exact N0
      · rw [newestTo_zero]; exact own_nil _ _
    case round =>
      obtain ⟨k, hkg, rfl, BR, DR, PR, va, vc, NR, OR⟩ := hrel
      clear B0 P0 N0 D0
      have d0 := DR.out.cell (j := 0) rfl
      cases gk with
      | zero =>
        have hlt : ¬ (k : Int) < (l.length : Int) := by omega
        have HR := hid (HD.out k (by omega))
        obtain ⟨o, ho⟩ : ∃ o, newestTo l k = o := ⟨_, rfl⟩
        rw [ho] at NR OR HR
        clear ho cD
        have n0 := NR.out.cell (j := 0) rfl
        have n1 := NR.out.cell (j := 1) rfl
        have n2 := NR.out.cell (j := 2) rfl
        have n3 := NR.out.cell (j := 3) rfl
        have p0 := PR.out.cell (j := 0) rfl
        have p1 := PR.out.cell (j := 1) rfl
        have p2 := PR.out.cell (j := 2) rfl
        have p3 := PR.out.cell (j := 3) rfl
        have e0 := PR.out.thaw 0
        have e1 := PR.out.thaw 1
        have e2 := PR.out.thaw 2
        have e3 := PR.out.thaw 3
        cases o with
        | none =>
          have n0' : wr.cell? ⟨w.heap.size + 1 + 1, 0, none⟩ = some (.int .i64 (-1)) := n0
          have BL := hid ((((BR.out.setCell (p := ⟨w.heap.size + 1, 0, none⟩) (Nat.le_succ _) (.int .i64 0)).setCell (p := ⟨w.heap.size + 1, 1, none⟩) (Nat.le_succ _) (.int .i64 0)).setCell (p := ⟨w.heap.size + 1, 2, none⟩) (Nat.le_succ _) (.slice none 0 0)).setCell (p := ⟨w.heap.size + 1, 3, none⟩) (Nat.le_succ _) (.string ⟨#[]⟩))
          clear n0
          go_wp2
          refine bodyPost_ret (v := .tuple #[.agg #[.int .i64 0, .int .i64 0, .slice none 0 0, .string ⟨#[]⟩], .bool false]) (by simp [results, Tryz.results41, go_sem, p0, p1, p2, p3]) rfl ?_
          rw [HR.out]
          exact ⟨none, 0, rfl, own_nil _ _, BL.out⟩
        | some s =>
          have n0' : wr.cell? ⟨w.heap.size + 1 + 1, 0, none⟩ = some (.int .i64 (s.ix : Int)) := n0
          have n1' : wr.cell? ⟨w.heap.size + 1 + 1, 1, none⟩ = some (.int .i64 (s.tm : Int)) := n1
          have n2' : wr.cell? ⟨w.heap.size + 1 + 1, 2, none⟩ = some (.slice va s.conf.length vc) := n2
          have n3' : wr.cell? ⟨w.heap.size + 1 + 1, 3, none⟩ = some (.string s.body) := n3
          have BL := hid ((((BR.out.setCell (p := ⟨w.heap.size + 1, 0, none⟩) (Nat.le_succ _) (.int .i64 (s.ix : Int))).setCell (p := ⟨w.heap.size + 1, 1, none⟩) (Nat.le_succ _) (.int .i64 (s.tm : Int))).setCell (p := ⟨w.heap.size + 1, 2, none⟩) (Nat.le_succ _) (.slice va s.conf.length vc)).setCell (p := ⟨w.heap.size + 1, 3, none⟩) (Nat.le_succ _) (.string s.body))
          have OL := hid (own_put (own_put (own_put (own_put OR.out PR.out (by decide) (j := 0) (u := .int .i64 (s.ix : Int))) (PR.out.set 0 (.int .i64 (s.ix : Int))) (by decide) (j := 1) (u := .int .i64 (s.tm : Int))) ((PR.out.set 0 (.int .i64 (s.ix : Int))).set 1 (.int .i64 (s.tm : Int))) (by decide) (j := 2) (u := .slice va s.conf.length vc)) (((PR.out.set 0 (.int .i64 (s.ix : Int))).set 1 (.int .i64 (s.tm : Int))).set 2 (.slice va s.conf.length vc)) (by decide) (j := 3) (u := .string s.body))
          clear n0 n1 n2 n3
          go_wp2
          refine bodyPost_ret (v := .tuple #[.agg #[.int .i64 (s.ix : Int), .int .i64 (s.tm : Int), .slice va s.conf.length vc, .string s.body], .bool true]) (by simp [results, Tryz.results41, go_sem, p0, p1, p2, p3]) rfl ?_
          rw [HR.out]
          exact ⟨va, vc, rfl, OL.out, BL.out⟩
      | succ q =>
        have hlt : k < l.length := by omega
        have hlt' : (k : Int) < (l.length : Int) := by omega
        have hne : l ≠ [] := by intro e; rw [e] at hlt; simp at hlt
        have HST := hid (newestTo_step hlt)
        have hts := HSM.out l[k] (List.getElem_mem hlt)
        have hns := HSN.out l[k] (List.getElem_mem hlt)
        go_wp2_with fail
        refine (cD.out _ (HA.out.on BR.out)).mono ?_
        rintro e w1 ⟨rfl, b1⟩
        have D1 := hid (DR.out.on b1 DR.out.lt)
        have P1 := hid (PR.out.on b1 PR.out.lt)
        have N1 := hid (NR.out.on b1 NR.out.lt)
        have O1 := hid (kept_conf OR.out b1)
        have B1 := hid (below_via BR.out b1)
        clear b1 DR PR NR OR BR d0 cD
        obtain ⟨b, off, rfl, hc⟩ := HA.out.on B1.out hne
        obtain ⟨x0, x1, x2⟩ := hc k hlt
        have d0 := D1.out.cell (j := 0) rfl
        clear hc
        obtain ⟨o, ho⟩ : ∃ o, newestTo l k = o := ⟨_, rfl⟩
        rw [ho] at N1 O1 HST
        clear ho
        obtain ⟨f, hf⟩ : ∃ f, l[k] = f := ⟨_, rfl⟩
        rw [hf] at HST hts hns x0 x1 x2
        have HF := hid hf
        clear hf
        go_wp2_with fail
        refine (l08Index_any f.name hns _).mono ?_
        rintro e w2 ⟨rfl, b2⟩
        have D2 := hid (D1.out.on b2 D1.out.lt)
        have P2 := hid (P1.out.on b2 P1.out.lt)
        have N2 := hid (N1.out.on b2 N1.out.lt)
        have O2 := hid (kept_conf O1.out b2)
        have B2 := hid (below_via B1.out b2)
        clear b2 D1 P1 N1 O1 B1 d0 x0 x1 x2
        obtain ⟨b', off', hbo, hc⟩ := HA.out.on B2.out hne
        cases hbo
        obtain ⟨x0, x1, x2⟩ := hc k hlt
        have d0 := D2.out.cell (j := 0) rfl
        rw [HF.out] at x0 x1 x2
        clear hc
        go_wp2_with fail
        refine ((specReadSnap_any f.text hts _).mono (fun e w' h => snapDid_parts h)).mono ?_
        rintro e w3 ⟨a2, c2, rfl, o2, b2⟩
        obtain ⟨r, hr⟩ : ∃ r, readSnap f.text = r := ⟨_, rfl⟩
        rw [hr] at o2 ⊢
        have hx3 : BlockIs (w3.alloc (.cells #[.int .i64 (snapIx r), .int .i64 (snapTm r), .slice a2 (snapZs r).length c2, .string (snapBd r)] 53)) w3.heap.size 53 [.int .i64 (snapIx r), .int .i64 (snapTm r), .slice a2 (snapZs r).length c2, .string (snapBd r)] := heap_alloc_new w3 _
        have bx := below_more (Below.refl w3.heap.size w3) (.cells #[.int .i64 (snapIx r), .int .i64 (snapTm r), .slice a2 (snapZs r).length c2, .string (snapBd r)] 53)
        have b23 := below_via b2 bx
        have X3 := hid hx3
        have R3 := hid (kept_conf (row_down o2 B2.out.size) bx)
        have D3 := hid (D2.out.on b23 D2.out.lt)
        have P3 := hid (P2.out.on b23 P2.out.lt)
        have N3 := hid (N2.out.on b23 N2.out.lt)
        have O3 := hid (kept_conf O2.out b23)
        have B3 := hid (below_via B2.out b23)
        have hNl : w.heap.size + 1 + 1 < w3.heap.size := by have := N2.out.lt; have := b2.size; omega
        clear hx3 bx b23 o2 b2 D2 P2 N2 O2 B2 x0 x1 x2 d0
        have HSTAY : Hid (newestTo l (k + 1) = o → ∃ va vc, Hid (BlockIs (w3.alloc (.cells #[.int .i64 (snapIx r), .int .i64 (snapTm r), .slice a2 (snapZs r).length c2, .string (snapBd r)] 53)) (w.heap.size + 1 + 1) 53 [.int .i64 (bestIx (newestTo l (k + 1))), .int .i64 (snapTm (newestTo l (k + 1))), .slice va (snapZs (newestTo l (k + 1))).length vc, .string (snapBd (newestTo l (k + 1)))]) ∧ Hid (World.ownsRow (w3.alloc (.cells #[.int .i64 (snapIx r), .int .i64 (snapTm r), .slice a2 (snapZs r).length c2, .string (snapBd r)] 53)) w.heap.size 3 1 (.slice va (snapZs (newestTo l (k + 1))).length vc) (snapZs (newestTo l (k + 1))).length (intCells (snapZs (newestTo l (k + 1)))))) := fun h => by
          refine ⟨va, vc, ?_, ?_⟩
          · rw [h]; exact N3
          · rw [h]; exact O3
        cases hn : nameNum 115 1000000 f.name with
        | none =>
          rw [newer_no (fileSnap_name hn)] at HST
          rw [show nameAns none = -1 from rfl]
          have HQ := hid (HSTAY.out HST.out)
          clear hn hr HSTAY X3 R3 N3 O3 HST
          go_wp2
          go_roundg q
          case measure => omega
          case rel => exact ⟨k + 1, by omega, by go_num, B3, D3, P3, HQ.out⟩
        | some n =>
          rw [show nameAns (some n) = (n : Int) from rfl]
          have HPK := hid (fileSnap_pick hn)
          rw [hr] at HPK
          clear hn hr
          have hn0 : (0 : Int) ≤ (n : Int) := by omega
          cases r with
          | none =>
            rw [newer_no HPK.out] at HST
            rw [show (none : Option SnapD).isSome = false from rfl]
            have HQ := hid (HSTAY.out HST.out)
            clear HSTAY X3 R3 N3 O3 HST HPK
            go_wp2
            go_roundg q
            case measure => omega
            case rel => exact ⟨k + 1, by omega, by go_num, B3, D3, P3, HQ.out⟩
          | some s =>
            rw [show (some s : Option SnapD).isSome = true from rfl]
            by_cases heq : s.ix = n
            · have hfs := HPK.out.trans (pick_yes heq)
              subst heq
              have hq0 : ((s.ix : Int) == (s.ix : Int)) = true := by simp
              obtain ⟨W3, hW3⟩ : ∃ W, w3.alloc (.cells #[.int .i64 (snapIx (some s)), .int .i64 (snapTm (some s)), .slice a2 (snapZs (some s)).length c2, .string (snapBd (some s))] 53) = W := ⟨_, rfl⟩
              rw [hW3] at X3 R3 D3 P3 N3 O3 B3 HSTAY
              obtain ⟨g, hg⟩ : ∃ g, w3.heap.size = g := ⟨_, rfl⟩
              rw [hg] at X3 hNl
              have x0 : W3.cell? ⟨g, 0, none⟩ = some (.int .i64 (s.ix : Int)) := X3.out.cell (j := 0) rfl
              have x1 : W3.cell? ⟨g, 1, none⟩ = some (.int .i64 (s.tm : Int)) := X3.out.cell (j := 1) rfl
              have x2 : W3.cell? ⟨g, 2, none⟩ = some (.slice a2 s.conf.length c2) := X3.out.cell (j := 2) rfl
              have x3 : W3.cell? ⟨g, 3, none⟩ = some (.string s.body) := X3.out.cell (j := 3) rfl
              have hw3 : w3.alloc (.cells #[.int .i64 (s.ix : Int), .int .i64 (s.tm : Int), .slice a2 s.conf.length c2, .string s.body] 53) = W3 := hW3
              clear hW3
              rw [show snapIx (some s) = (s.ix : Int) from rfl, show snapTm (some s) = (s.tm : Int) from rfl, show snapZs (some s) = s.conf from rfl, show snapBd (some s) = s.body from rfl]
              have n1 := N3.out.cell (j := 1) rfl
              have n2 := N3.out.cell (j := 2) rfl
              have n3 := N3.out.cell (j := 3) rfl
              have e0 := N3.out.thaw 0
              have e1 := N3.out.thaw 1
              have e2 := N3.out.thaw 2
              have e3 := N3.out.thaw 3
              have hg2 : w.heap.size ≤ w.heap.size + 1 + 1 := by omega
              have hg3 : w.heap.size + 1 + 1 ≠ w.heap.size + 1 := by omega
              have hg4 : w.heap.size + 1 + 1 ≠ w.heap.size := by omega
              have BL := hid ((((B3.out.setCell (p := ⟨w.heap.size + 1 + 1, 0, none⟩) hg2 (.int .i64 (s.ix : Int))).setCell (p := ⟨w.heap.size + 1 + 1, 1, none⟩) hg2 (.int .i64 (s.tm : Int))).setCell (p := ⟨w.heap.size + 1 + 1, 2, none⟩) hg2 (.slice a2 s.conf.length c2)).setCell (p := ⟨w.heap.size + 1 + 1, 3, none⟩) hg2 (.string s.body))
              have NL := hid ((((N3.out.set 0 (.int .i64 (s.ix : Int))).set 1 (.int .i64 (s.tm : Int))).set 2 (.slice a2 s.conf.length c2)).set 3 (.string s.body))
              have PL := hid ((((P3.out.far (b := w.heap.size + 1 + 1) (j := 0) hg3 (.int .i64 (s.ix : Int))).far (b := w.heap.size + 1 + 1) (j := 1) hg3 (.int .i64 (s.tm : Int))).far (b := w.heap.size + 1 + 1) (j := 2) hg3 (.slice a2 s.conf.length c2)).far (b := w.heap.size + 1 + 1) (j := 3) hg3 (.string s.body))
              have DL := hid ((((D3.out.far (b := w.heap.size + 1 + 1) (j := 0) hg4 (.int .i64 (s.ix : Int))).far (b := w.heap.size + 1 + 1) (j := 1) hg4 (.int .i64 (s.tm : Int))).far (b := w.heap.size + 1 + 1) (j := 2) hg4 (.slice a2 s.conf.length c2)).far (b := w.heap.size + 1 + 1) (j := 3) hg4 (.string s.body))
              have OL := hid (own_put (own_put (own_put (own_put R3.out N3.out (by decide) (j := 0) (u := .int .i64 (s.ix : Int))) (N3.out.set 0 (.int .i64 (s.ix : Int))) (by decide) (j := 1) (u := .int .i64 (s.tm : Int))) ((N3.out.set 0 (.int .i64 (s.ix : Int))).set 1 (.int .i64 (s.tm : Int))) (by decide) (j := 2) (u := .slice a2 s.conf.length c2)) (((N3.out.set 0 (.int .i64 (s.ix : Int))).set 1 (.int .i64 (s.tm : Int))).set 2 (.slice a2 s.conf.length c2)) (by decide) (j := 3) (u := .string s.body))
              clear hg2 hg3 hg4 R3 X3
              cases o with
              | none =>
                rw [newer_first hfs] at HST
                have n0 : W3.cell? ⟨w.heap.size + 1 + 1, 0, none⟩ = some (.int .i64 (-1)) := N3.out.cell (j := 0) rfl
                clear hfs HPK HSTAY
                go_wp2
                go_roundg q
                case measure => omega
                case rel =>
                  refine ⟨k + 1, by omega, by go_num, BL, DL, PL, a2, c2, ?_, ?_⟩
                  · rw [HST.out]; exact NL
                  · rw [HST.out]; exact OL
              | some d =>
                have n0 : W3.cell? ⟨w.heap.size + 1 + 1, 0, none⟩ = some (.int .i64 (d.ix : Int)) := N3.out.cell (j := 0) rfl
                by_cases hlx : (d.ix : Int) < (s.ix : Int)
                · rw [newer_more hfs (by omega)] at HST
                  clear hfs HPK HSTAY
                  go_wp2
                  go_roundg q
                  case measure => omega
                  case rel =>
                    refine ⟨k + 1, by omega, by go_num, BL, DL, PL, a2, c2, ?_, ?_⟩
                    · rw [HST.out]; exact NL
                    · rw [HST.out]; exact OL
                · rw [newer_less hfs (by omega)] at HST
                  have HQ := hid (HSTAY.out HST.out)
                  clear hfs HPK HSTAY HST
                  go_wp2
                  go_roundg q
                  case measure => omega
                  case rel => exact ⟨k + 1, by omega, by go_num, B3, D3, P3, HQ.out⟩
            · rw [newer_no (HPK.out.trans (pick_no heq))] at HST
              have hq0 : ((s.ix : Int) == (n : Int)) = false := by simp; omega
              have hq1 : ¬ (s.ix : Int) = (n : Int) := by omega
              have HQ := hid (HSTAY.out HST.out)
              have x0 : (w3.alloc (.cells #[.int .i64 (snapIx (some s)), .int .i64 (snapTm (some s)), .slice a2 (snapZs (some s)).length c2, .string (snapBd (some s))] 53)).cell? ⟨w3.heap.size, 0, none⟩ = some (.int .i64 (s.ix : Int)) := X3.out.cell (j := 0) rfl
              rw [show snapIx (some s) = (s.ix : Int) from rfl] at B3 D3 P3 HQ x0 ⊢
              clear HSTAY X3 R3 N3 O3 HST HPK
              go_wp2
              go_roundg q
              case measure => omega
              case rel => exact ⟨k + 1, by omega, by go_num, B3, D3, P3, HQ.out⟩
end Go.Proofs.YtihgkocfgjihhaaGreatDoor

namespace Go.Proofs.YtihgkocfgjihhaaGreatDoor
open Go.RowKit Go.Sort

set_option maxRecDepth 1000000 in
theorem implNameOk_any (s : ByteArray) (w : World) :
    Calls Tryz.prog 176 #[.string s] w fun e w' => e = .returned (.bool (nameOk s)) ∧ w' = w := by
  unfold nameOk within
  by_cases h1 : (1 : Int) ≤ (s.size : Int)
  · by_cases h2 : (s.size : Int) ≤ 8
    · go_enter Tryz.func176, Tryz.ntmps176
      go_wp2
      go_ret
      exact ⟨by simp [h1, h2], rfl⟩
    · go_enter Tryz.func176, Tryz.ntmps176
      go_wp2
      go_ret
      exact ⟨by simp; omega, rfl⟩
  · go_enter Tryz.func176, Tryz.ntmps176
    go_wp2
    go_ret
    exact ⟨by simp; omega, rfl⟩

set_option maxRecDepth 1000000 in
theorem implFileOk_any (f : FileD) (w : World) :
    Calls Tryz.prog 148 #[f.value] w fun e w' => e = .returned (.bool (fileOk f)) ∧ Below w.heap.size w w' := by
  unfold FileD.value
  have HB := hid (below_more (Below.refl w.heap.size w) (.cells #[.string f.name, .string f.text, .int .i64 f.kept] 82))
  have cN' := fun w => implNameOk_any f.name w
  cases hA : nameOk f.name with
  | false =>
    rw [hA] at cN'
    have cN := hid cN'
    have hr : Hid (fileOk f = false) := by show _ = _; simp [fileOk, hA]
    clear cN' hA
    go_enter Tryz.func148, Tryz.ntmps148
    go_wp2_with fail
    refine (cN.out _).mono ?_
    rintro e w' ⟨rfl, hw⟩
    rw [hw]
    clear hw w'
    go_wp2
    go_ret
    exact ⟨by rw [hr.out]; rfl, HB.out⟩
  | true =>
    rw [hA] at cN'
    have cN := hid cN'
    clear cN'
    by_cases h1 : (f.text.size : Int) ≤ 20000
    · by_cases h2 : (0 : Int) ≤ f.kept
      · by_cases h3 : f.kept ≤ (f.text.size : Int)
        · have hr : Hid (fileOk f = true) := by
            show _ = _
            have h1' : f.text.size ≤ 20000 := by omega
            simp [fileOk, within, hA, h1', h2, h3]
          clear hA
          go_enter Tryz.func148, Tryz.ntmps148
          go_wp2_with fail
          refine (cN.out _).mono ?_
          rintro e w' ⟨rfl, hw⟩
          rw [hw]
          clear hw w'
          go_wp2
          go_ret
          exact ⟨by rw [hr.out]; rfl, HB.out⟩
        · have hr : Hid (fileOk f = decide (f.kept ≤ (f.text.size : Int))) := by show _ = _; simp [fileOk, within, h3]
          clear hA
          go_enter Tryz.func148, Tryz.ntmps148
          go_wp2_with fail
          refine (cN.out _).mono ?_
          rintro e w' ⟨rfl, hw⟩
          rw [hw]
          clear hw w'
          go_wp2
          go_ret
          exact ⟨by rw [hr.out]; rfl, HB.out⟩
      · have hr : Hid (fileOk f = false) := by show _ = _; simp [fileOk, within, h2]
        clear hA
        go_enter Tryz.func148, Tryz.ntmps148
        go_wp2_with fail
        refine (cN.out _).mono ?_
        rintro e w' ⟨rfl, hw⟩
        rw [hw]
        clear hw w'
        go_wp2
        go_ret
        exact ⟨by rw [hr.out]; rfl, HB.out⟩
    · have hr : Hid (fileOk f = false) := by
        show _ = _
        have h1' : ¬ f.text.size ≤ 20000 := by omega
        simp [fileOk, h1']
      clear hA
      go_enter Tryz.func148, Tryz.ntmps148
      go_wp2_with fail
      refine (cN.out _).mono ?_
      rintro e w' ⟨rfl, hw⟩
      rw [hw]
      clear hw w'
      go_wp2
      go_ret
      exact ⟨by rw [hr.out]; rfl, HB.out⟩

set_option maxRecDepth 1000000 in
set_option maxHeartbeats 1000000 in
theorem implDiskOk_any (ao : Option Addr) (l : List FileD) (cap : Nat) (hl : l.length ≤ 16777216) (w : World) (ha : FilesAt w ao l) :
    Calls Tryz.prog 99 #[.agg #[.slice ao l.length cap]] w fun e w' => e = .returned (.bool (diskOk l)) ∧ Below w.heap.size w w' := by
  have HA := (show Hid (FilesAt w ao l) from ha)
  clear ha
  by_cases h30 : (30 : Int) < (l.length : Int)
  · have hr : Hid (diskOk l = false) := by show _ = _; unfold diskOk; simp; omega
    go_enter Tryz.func99, Tryz.ntmps99
    go_wp2
    go_ret
    exact ⟨by rw [hr.out]; rfl, below_more (Below.refl _ w) _⟩
  · have HB := (show Hid _ from below_more (Below.refl w.heap.size w) (.cells #[.slice ao l.length cap] 25))
    have HX := (show Hid (BlockIs (w.alloc (.cells #[.slice ao l.length cap] 25)) w.heap.size 25 [.slice ao l.length cap]) from heap_alloc_new w _)
    go_enter Tryz.func99, Tryz.ntmps99
    go_wp2
    go_loopg [3, 4, 12] l.length (fun g _ _ i wr => ∃ (k : Nat), k + g = l.length ∧ i = .int .i64 k ∧ Hid (Below w.heap.size w wr) ∧ Hid (BlockIs wr w.heap.size 25 [.slice ao l.length cap]) ∧ Hid (rightTo l k = true))
    case atStart => exact ⟨0, by omega, rfl, HB, HX, rfl⟩
    case round =>
      obtain ⟨k, hkg, rfl, BR, XR, RT⟩ := hrel
      clear HB HX
      have c0 := XR.out.cell (j := 0) rfl
      cases gk with
      | zero =>
        have hlt : ¬ (k : Int) < (l.length : Int) := by omega
        have hr : Hid (diskOk l = true) := by show _ = _; exact diskOk_of (by omega) (by rw [← RT.out, show k = l.length by omega])
        go_wp2
        go_ret
        exact ⟨by rw [hr.out]; rfl, BR.out⟩
      | succ g =>
        have hlt : k < l.length := by omega
        have hlt' : (k : Int) < (l.length : Int) := by omega
        have hne : l ≠ [] := by intro e; rw [e] at hlt; simp at hlt
        obtain ⟨b, off, rfl, hc⟩ := HA.out.on BR.out hne
        obtain ⟨x0, x1, x2⟩ := hc k hlt
        have HC := hid hc
        clear hc
        go_wp2
        generalize hW2 : wr.alloc (.cells #[.string l[k].name, .string l[k].text, .int .i64 l[k].kept] 82) = W2
        have hb2 : Below wr.heap.size wr W2 := by rw [← hW2]; exact below_more (Below.refl _ wr) _
        have hx2 : BlockIs W2 wr.heap.size 82 [.string l[k].name, .string l[k].text, .int .i64 l[k].kept] := by rw [← hW2]; exact heap_alloc_new wr _
        have n0 := cell_regrown (hx2.cell (j := 0) rfl)
        have n1 := cell_regrown (hx2.cell (j := 1) rfl)
        have n2 := cell_regrown (hx2.cell (j := 2) rfl)
        have XW := XR.out.on hb2 XR.out.lt
        have d0 := cell_regrown (XW.cell (j := 0) rfl)
        have B2 := (show Hid (Below w.heap.size w W2) from below_via BR.out hb2)
        have X2 := (show Hid (BlockIs _ _ _ _) from XW)
        have C' := fun d os => Calls.regrown_of (w := W2) (d := d) (os := os) (implFileOk_any l[k] _)
        unfold FileD.value at C'
        clear hW2 hx2 c0 x0 x1 x2 XW
        cases hA : fileOk l[k] with
        | false =>
          have hr : Hid (diskOk l = false) := not_diskOk hlt (by simp [hA])
          rw [hA] at C'
          have C := hid C'
          clear C' hA
          refine wp_region_quiet_below (by kernel_rfl) (by kernel_rfl) ?_
          repeat (first | go_big_quiet_step (first | (go_at_call 148; exact C.out _ _) | fail) | quiet_step (first | (go_at_call 148; exact C.out _ _) | fail))
          refine wpQuiet_nil ?_
          intro _ hw'
          obtain ⟨⟨dq, osq⟩, hw''⟩ := hw'
          subst hw''
          have BQ : Hid (Below w.heap.size w (grow (redrawn W2 dq) osq)) := B2.out.trans ((below_regrown W2 dq osq).mono B2.out.size)
          generalize grow (redrawn W2 dq) osq = wq at BQ ⊢
          clear n0 n1 n2 d0 C
          go_wp2
          go_ret
          exact ⟨by rw [hr.out]; rfl, BQ.out⟩
        | true =>
          rw [hA] at C'
          have C := hid C'
          clear C'
          cases k with
          | zero =>
            have HR : Hid (rightTo l 1 = true) := by show _ = _; rw [rightTo_step hlt]; simp [rightTo, behind, hA]
            clear hA
            refine wp_region_quiet_below (by kernel_rfl) (by kernel_rfl) ?_
            repeat (first | go_big_quiet_step (first | (go_at_call 148; exact C.out _ _) | fail) | quiet_step (first | (go_at_call 148; exact C.out _ _) | fail))
            refine wpQuiet_nil ?_
            intro _ hw'
            obtain ⟨⟨dq, osq⟩, hw''⟩ := hw'
            subst hw''
            have BQ : Hid (Below w.heap.size w (grow (redrawn W2 dq) osq)) := B2.out.trans ((below_regrown W2 dq osq).mono B2.out.size)
            have XQ : Hid (BlockIs (grow (redrawn W2 dq) osq) w.heap.size 25 [.slice (some ⟨b, off, none⟩) l.length cap]) := X2.out.on (below_regrown W2 dq osq) X2.out.lt
            generalize grow (redrawn W2 dq) osq = wq at BQ XQ ⊢
            clear n0 n1 n2 d0 C
            go_wp2
            go_roundg g
            case measure => omega
            case rel => exact ⟨1, by omega, by go_num, BQ, XQ, HR⟩
          | succ j =>
            have hj : j < l.length := by omega
            have p0 := cell_regrown (show W2.cell? ⟨b, off + j * 3, none⟩ = some (.string l[j].name) from (hb2.cell (p := ⟨b, off + j * 3, none⟩) (World.block_lt_of_cell? wr _ (HC.out j hj).1)).trans (HC.out j hj).1)
            have hpos : (0 : Int) < (((j + 1 : Nat)) : Int) := by omega
            have hsub : (((j + 1 : Nat)) : Int) - 1 = (j : Int) := by omega
            have hjl : (j : Int) < (l.length : Int) := by omega
            have hwj : IntKind.i64.wrap (j : Int) = (j : Int) := by rw [IntKind.wrap_i64]; omega
            cases hL : textLt l[j].name l[j + 1].name with
            | false =>
              have hr : Hid (diskOk l = false) := not_diskOk hlt (by rw [behind_step hlt, hL]; simp)
              have hL' : Op.bytesLess l[j].name.toList l[j + 1].name.toList = false := hL
              clear hA hL
              refine wp_region_quiet_below (by kernel_rfl) (by kernel_rfl) ?_
              repeat (first | go_big_quiet_step (first | (go_at_call 148; exact C.out _ _) | fail) | quiet_step (first | (go_at_call 148; exact C.out _ _) | fail))
              refine wpQuiet_nil ?_
              intro _ hw'
              obtain ⟨⟨dq, osq⟩, hw''⟩ := hw'
              subst hw''
              have BQ : Hid (Below w.heap.size w (grow (redrawn W2 dq) osq)) := B2.out.trans ((below_regrown W2 dq osq).mono B2.out.size)
              generalize grow (redrawn W2 dq) osq = wq at BQ ⊢
              clear n0 n1 n2 d0 C p0
              go_wp2
              go_ret
              exact ⟨by rw [hr.out]; rfl, BQ.out⟩
            | true =>
              have HR : Hid (rightTo l (j + 1 + 1) = true) := by show _ = _; rw [rightTo_step hlt, RT.out, behind_step hlt, hL]; simp [hA]
              have hL' : Op.bytesLess l[j].name.toList l[j + 1].name.toList = true := hL
              clear hA hL
              refine wp_region_quiet_below (by kernel_rfl) (by kernel_rfl) ?_
              repeat (first | go_big_quiet_step (first | (go_at_call 148; exact C.out _ _) | fail) | quiet_step (first | (go_at_call 148; exact C.out _ _) | fail))
              refine wpQuiet_nil ?_
              intro _ hw'
              obtain ⟨⟨dq, osq⟩, hw''⟩ := hw'
              subst hw''
              have BQ : Hid (Below w.heap.size w (grow (redrawn W2 dq) osq)) := B2.out.trans ((below_regrown W2 dq osq).mono B2.out.size)
              have XQ : Hid (BlockIs (grow (redrawn W2 dq) osq) w.heap.size 25 [.slice (some ⟨b, off, none⟩) l.length cap]) := X2.out.on (below_regrown W2 dq osq) X2.out.lt
              generalize grow (redrawn W2 dq) osq = wq at BQ XQ ⊢
              clear n0 n1 n2 d0 C p0
              go_wp2
              go_roundg g
              case measure => omega
              case rel => exact ⟨j + 1 + 1, by omega, by go_num, BQ, XQ, HR⟩
end Go.Proofs.YtihgkocfgjihhaaGreatDoor

namespace Go.Proofs.YtihgkocfgjihhaaGreatDoor
open Go.RowKit

theorem figv_info3 : (Tryz.prog.info? 3).map (fun i => (i.zero, i.size, i.bytes)) = some (some (.int .i64 0), 1, 8) := by kernel_rfl

theorem figs3 : ∀ n : Fin 16, (((ByteArray.mk #[48, 49, 50, 51, 52, 53, 54, 55, 56, 57, 97, 98, 99, 100, 101, 102])[n.val]'(by have := n.isLt; simp [ByteArray.size])).toNat : Int) = fig (n.val : Int) := by decide

theorem const_nat (n : Nat) (h1 : n < 16) (wx : World) :
    (Instr.index 9 (.string ⟨#[48, 49, 50, 51, 52, 53, 54, 55, 56, 57, 97, 98, 99, 100, 101, 102]⟩) (.int .i64 n)).run Tryz.prog wx = .ok (.int .u8 (fig n)) wx := by
  rw [run_index_string wx 9 _ .i64 n Tryz.underlying9, dif_pos (by simp [ByteArray.size]; omega)]
  have h := figs3 ⟨n, h1⟩
  simp only [Int.toNat_natCast] at h ⊢
  rw [h]

attribute [local go_sem ↓] const_nat

set_option maxRecDepth 1000000 in
set_option maxHeartbeats 1000000 in
theorem figureValues_any (s : ByteArray) (b : Nat) (hb16 : b ≤ 16) (hs : s.size ≤ 40000) (w : World) :
    Calls Tryz.prog 206 #[.string s, .int .i64 b] w fun e w' =>
      (Figs b s.data.toList ∧ ∃ v, e = .returned (.tuple #[v, .bool true]) ∧ w'.ownsRow w.heap.size 3 1 v s.size (ns (lvs s.data.toList)) ∧ Below w.heap.size w w') ∨
      (¬ Figs b s.data.toList ∧ e = .returned (.tuple #[.slice none 0 0, .bool false]) ∧ Below w.heap.size w w') := by
  obtain ⟨i0, hi, hz0, hz1, hz2⟩ := info_parts figv_info3
  go_enter Tryz.func206, Tryz.ntmps206
  go_wp2
  go_step3
  go_wp2_with (at_make; refine wpList_make_own _ rfl _ _ 22 rfl w.heap.size 3 i0 (.int .i64 0) 1 Tryz.underlying22 hi hz0 hz1 _ _ _ s.size rfl rfl ?b1 ?b2 ?b3 ?b4 ?_)
  case b1 => omega
  case b2 => rw [hz2]; omega
  case b3 => unfold maxLen; omega
  case b4 => exact Nat.le_refl _
  intro w0 hown0 hgrow0
  have hb0 : Below w.heap.size w w0 := (Below.refl _ _).grown hgrow0 (Nat.le_refl _) (fun k h => by cases h)
  clear hgrow0
  go_wp2
  go_step3
  go_wp2
  go_loopg [6, 7] s.size (fun g v i wr => ∃ (k : Nat), k + g = s.size ∧ i = .int .i64 k ∧ Figs b (s.data.toList.take k) ∧ wr.ownsRow w.heap.size 3 1 v k (ns (lvs (s.data.toList.take k))) ∧ Below w.heap.size w wr)
  case atStart => exact ⟨0, by omega, rfl, by simp [Figs], hown0, hb0⟩
  case round =>
    obtain ⟨k, hkg, rfl, hF, hown, hb⟩ := hrel
    clear hown0 hb0
    cases gk with
    | zero =>
      have hk : ¬ (k : Int) < (s.size : Int) := by omega
      have HF : Hid (Figs b s.data.toList ∧ wr.ownsRow w.heap.size 3 1 u6 s.size (ns (lvs s.data.toList))) := by
        have e : s.data.toList.take k = s.data.toList := List.take_of_length_le (by simp; omega)
        have e2 : k = s.size := by omega
        rw [e] at hF hown
        rw [e2] at hown
        exact ⟨hF, hown⟩
      clear hF hown
      go_wp2
      go_ret2
      exact Or.inl ⟨HF.out.1, _, rfl, HF.out.2, hb⟩
    | succ g =>
      have hlt : k < s.size := by omega
      have hk : (k : Int) < (s.size : Int) := by omega
      have c0 : (s[k].toNat : Int) ≤ 255 := by have := s[k].toNat_lt; omega
      go_wp2
      go_loopg [6, 8] b (fun g2 x v wy => ∃ (j : Nat), j + g2 = b ∧ v = .int .i64 j ∧ Hid (∀ i : Nat, i < j → (s[k].toNat : Int) ≠ fig i) ∧ wy.ownsRow w.heap.size 3 1 x k (ns (lvs (s.data.toList.take k))) ∧ Below w.heap.size w wy)
      case atStart => exact ⟨0, by omega, rfl, fun i hi => by omega, hown, hb⟩
      case round =>
        obtain ⟨j, hjg, rfl, HJ, hown2, hb2⟩ := hrel
        clear hown hb
        cases gk with
        | zero =>
          have hj : ¬ (j : Int) < (b : Int) := by omega
          have HN : Hid (¬ Figs b s.data.toList) := by
            intro hall
            have h1 := hall s[k] (mem_at s k hlt)
            have h2 := HJ.out (lv (s[k].toNat : Int)).toNat (by omega)
            have h3 := (fig_lv (c := (s[k].toNat : Int)) (j := ((lv (s[k].toNat : Int)).toNat : Int)) (by omega) (by omega)).2 (by omega)
            exact h2 h3
          go_wp2
          go_ret2
          exact Or.inr ⟨HN.out, rfl, hb2⟩
        | succ g2 =>
          have hj : (j : Int) < (b : Int) := by omega
          have hj16 : j < 16 := by omega
          by_cases he : (s[k].toNat : Int) = fig j
          · have he' : ((s[k].toNat : Int) == fig j) = true := by simpa using he
            have HL : Hid (lv (s[k].toNat : Int) = j) := (fig_lv (by omega) (by omega)).1 he
            clear he
            go_wp2
            go_quiet (fail)
            have hown3 : (wr.drewN nq).ownsRow w.heap.size 3 1 u6 k (ns (lvs (s.data.toList.take k))) := hown2
            have hb3 : Below w.heap.size w (wr.drewN nq) := below_drewN hb2 nq
            clear hown2 hb2
            generalize wr.drewN nq = wq at *
            have hsz := hb3.size
            go_wp2_with (at_builtin; refine wpList_append_own _ rfl (.tmp 29) (.tmp 31) 22 rfl w.heap.size 3 i0 (.int .i64 0) 1 8 Tryz.underlying22 hi hz0 hz1 hz2 rfl (by decide) _ _ _ rfl (hown3.alloc _) ⟨wq.heap.size, 0, none⟩ 1 1 [.int .i64 (j : Int)] rfl rfl ?c1 ?c2 ?c3 ?c4 ?c5 ?_)
            case c1 => intro j u hj; match j, hj with | 0, hj => simp at hj; subst hj; simp [Addr.add]
            case c2 => intro u hu; simp at hu; subst hu; rfl
            case c3 => unfold maxLen; omega
            case c4 => omega
            case c5 => simp; omega
            intro v' w1 hown' hgrow _
            have R := fv_step hlt HL.out hown3 hown' hgrow hb3
            have HF : Hid (Figs b (s.data.toList.take (k + 1))) := by
              rw [take_snoc s k hlt]
              exact hF.snoc (by have := HL.out; omega)
            clear hown' hgrow hown3 hb3 hF
            go_wp2
            go_roundg g
            case measure => omega
            case rel => exact ⟨k + 1, by omega, by go_num, HF.out, R.1, R.2⟩
          · have he' : ((s[k].toNat : Int) == fig j) = false := by simpa using he
            have HJ2 : Hid (∀ i : Nat, i < j + 1 → (s[k].toNat : Int) ≠ fig i) := fun i hi => by
              by_cases e : i = j
              · subst e; exact he
              · exact HJ.out i (by omega)
            clear he
            go_wp2
            go_quiet (fail)
            have hown3 : (wr.drewN nq).ownsRow w.heap.size 3 1 u6 k (ns (lvs (s.data.toList.take k))) := hown2
            have hb3 : Below w.heap.size w (wr.drewN nq) := below_drewN hb2 nq
            clear hown2 hb2
            go_wp2
            go_roundg g2
            case measure => omega
            case rel => exact ⟨j + 1, by omega, by go_num, HJ2, hown3, hb3⟩
end Go.Proofs.YtihgkocfgjihhaaGreatDoor

namespace Go.Proofs.YtihgkocfgjihhaaGreatDoor
open Go.RowKit

theorem empty_toList {s : ByteArray} (h : s.size = 0) : s.toList.isEmpty = true := by
  rw [ByteArray.toList_eq]
  obtain ⟨⟨l⟩⟩ := s
  cases l with
  | nil => rfl
  | cons a r => simp [ByteArray.size] at h
theorem not_empty_toList {s : ByteArray} (h : 0 < s.size) : s.toList.isEmpty = false := by
  rw [ByteArray.toList_eq]
  obtain ⟨⟨l⟩⟩ := s
  cases l with
  | nil => simp [ByteArray.size] at h
  | cons a r => rfl
theorem not_DecOk_empty {s : ByteArray} (h : s.size = 0) : ¬ DecOk s.data.toList := fun hd => hd.2.2.1 (List.eq_nil_of_length_eq_zero (by simpa using h))
theorem not_nil {s : ByteArray} (h : 0 < s.size) : s.data.toList ≠ [] := by
  intro e
  have h1 : s.data.toList.length = s.size := by simp
  rw [e] at h1
  simp at h1
  omega
theorem head_at {s : ByteArray} (h : 0 < s.size) : s.data.toList.head? = some s[0] := by
  have h1 : 0 < s.data.toList.length := by simpa using h
  rw [List.head?_eq_getElem?, List.getElem?_eq_getElem h1, Array.getElem_toList]
  rfl
theorem num_stepI {s : ByteArray} {k : Nat} (hk : k < s.size) (h : 48 ≤ s[k].toNat ∧ s[k].toNat ≤ 57) : ((num (s.data.toList.take (k + 1)) : Nat) : Int) = (num (s.data.toList.take k) : Int) * 10 + lv (s[k].toNat : Int) := by
  rw [take_snoc s k hk, num_snoc, lv_digit h]
  omega

set_option maxRecDepth 1000000 in
set_option maxHeartbeats 1000000 in
theorem implReadDecimal_any (s : ByteArray) (hs : s.size ≤ 10) (w : World) :
    Calls Tryz.prog 193 #[.string s] w fun e w' =>
      ((DecOk s.data.toList ∧ e = .returned (.tuple #[.int .i64 (num s.data.toList), .bool true])) ∨ (¬ DecOk s.data.toList ∧ e = .returned (.tuple #[.int .i64 0, .bool false]))) ∧ Below w.heap.size w w' := by
  have hs' : ¬ (10 : Int) < (s.size : Int) := by omega
  by_cases h0 : s.size = 0
  · have he := empty_toList h0
    go_enter Tryz.func193, Tryz.ntmps193
    go_wp2
    go_ret2
    exact ⟨Or.inr ⟨not_DecOk_empty h0, rfl⟩, Below.refl _ _⟩
  · have hp : 0 < s.size := by omega
    have he := not_empty_toList hp
    go_enter Tryz.func193, Tryz.ntmps193
    go_wp2_with fail
    refine (figureValues_any s 10 (by omega) (by omega) _).mono ?_
    rintro e w1 (⟨hF, v, rfl, hownv, hb1⟩ | ⟨hF, rfl, hb1⟩)
    · obtain ⟨ao, cap, rfl, hcells⟩ := values_lie hownv
      obtain ⟨g, rfl, hg, hcap, hc⟩ := hcells hp
      have HD : Hid (Digits s.data.toList) := (digits_figs _).2 hF
      have hdig := fun j (hj : j < s.size) => HD.out s[j] (mem_at s j hj)
      have HC := (show Hid _ from hc)
      have HG := (show Hid _ from hdig)
      clear hownv hcells hF hc hdig
      have d0 : w1.cell? ⟨g, 0, none⟩ = some (.int .i64 (lv (s[0].toNat : Int))) := HC.out 0 hp
      by_cases hz : lv (s[0].toNat : Int) = 0 ∧ 1 < s.size
      · have hno : Hid (¬ DecOk s.data.toList) := by
          intro hd
          have h1 := hd.2.2.2
          apply h1
          rw [head_at hp]
          have h2 := HG.out 0 hp
          have h3 := lv_digit h2
          refine ⟨?_, by simp; omega⟩
          congr 1
          apply UInt8.toNat_inj.1
          simp
          omega
        obtain ⟨z1, z2⟩ := hz
        have z1' : (lv (s[0].toNat : Int) == 0) = true := by simpa using z1
        clear z1
        go_wp2
        go_ret2
        exact ⟨Or.inr ⟨hno.out, rfl⟩, hb1⟩
      · have HZ : Hid (¬ (s.data.toList.head? = some 48 ∧ 1 < s.data.toList.length)) := by
          rintro ⟨q1, q2⟩
          apply hz
          rw [head_at hp] at q1
          simp only [Option.some.injEq] at q1
          refine ⟨?_, by simpa using q2⟩
          rw [lv_digit (HG.out 0 hp), q1]
          rfl
        by_cases z1 : lv (s[0].toNat : Int) = 0
        · have z1' : (lv (s[0].toNat : Int) == 0) = true := by simpa using z1
          have z2 : ¬ (1 : Int) < (s.size : Int) := by omega
          clear hz z1
          go_wp2
          go_loop [6, 8, 36] (fun x _ i => ∃ (k : Nat), k ≤ s.size ∧ i = .int .i64 k ∧ x = .int .i64 (num (s.data.toList.take k))) (fun _ _ i => s.size - (intOf i).toNat)
          case atStart => exact ⟨0, Nat.zero_le _, rfl, rfl⟩
          case round =>
            obtain ⟨k, hk, rfl, rfl⟩ := hrel
            have hn10 : num (s.data.toList.take k) < 10000000000 := Nat.lt_of_lt_of_le (num_lt k (s.data.toList.take k) (take_len s k hk) (fun x hx => HD.out x (List.mem_of_mem_take hx))) (Nat.pow_le_pow_right (by omega) (Nat.le_trans hk hs))
            by_cases hlt : k < s.size
            · have dk := HC.out k hlt
              have gd := HG.out k hlt
              have hlv : lv (s[k].toNat : Int) ≤ 9 := by rw [lv_digit gd]; omega
              have hlv0 : 0 ≤ lv (s[k].toNat : Int) := by rw [lv_digit gd]; omega
              have HN := (show Hid _ from num_stepI hlt gd)
              clear gd
              go_wp2
              go_round
              case rel => exact ⟨k + 1, by omega, by go_num, by rw [HN.out]⟩
              case measure => simp [intOf]; omega
            · have e : Hid (num (s.data.toList.take k) = num s.data.toList) := by
                show _ = _
                rw [List.take_of_length_le (by simp; omega)]
              obtain ⟨N, hN⟩ : ∃ N, num (s.data.toList.take k) = N := ⟨_, rfl⟩
              rw [hN] at hn10 ⊢
              have HN : Hid (N = num s.data.toList) := by rw [← e.out, hN]; rfl
              clear hN e
              by_cases hbig : 1000000000 < (N : Int)
              · go_wp2
                go_ret2
                exact ⟨Or.inr ⟨fun h => by have := h.2.1; have := HN.out; omega, rfl⟩, hb1⟩
              · go_wp2
                go_ret2
                exact ⟨Or.inl ⟨⟨HD.out, by have := HN.out; omega, not_nil hp, HZ.out⟩, ret_num HN.out⟩, hb1⟩
        · have z1' : (lv (s[0].toNat : Int) == 0) = false := by simpa using z1
          clear hz z1
          go_wp2
          go_loop [6, 8, 36] (fun x _ i => ∃ (k : Nat), k ≤ s.size ∧ i = .int .i64 k ∧ x = .int .i64 (num (s.data.toList.take k))) (fun _ _ i => s.size - (intOf i).toNat)
          case atStart => exact ⟨0, Nat.zero_le _, rfl, rfl⟩
          case round =>
            obtain ⟨k, hk, rfl, rfl⟩ := hrel
            have hn10 : num (s.data.toList.take k) < 10000000000 := Nat.lt_of_lt_of_le (num_lt k (s.data.toList.take k) (take_len s k hk) (fun x hx => HD.out x (List.mem_of_mem_take hx))) (Nat.pow_le_pow_right (by omega) (Nat.le_trans hk hs))
            by_cases hlt : k < s.size
            · have dk := HC.out k hlt
              have gd := HG.out k hlt
              have hlv : lv (s[k].toNat : Int) ≤ 9 := by rw [lv_digit gd]; omega
              have hlv0 : 0 ≤ lv (s[k].toNat : Int) := by rw [lv_digit gd]; omega
              have HN := (show Hid _ from num_stepI hlt gd)
              clear gd
              go_wp2
              go_round
              case rel => exact ⟨k + 1, by omega, by go_num, by rw [HN.out]⟩
              case measure => simp [intOf]; omega
            · have e : Hid (num (s.data.toList.take k) = num s.data.toList) := by
                show _ = _
                rw [List.take_of_length_le (by simp; omega)]
              obtain ⟨N, hN⟩ : ∃ N, num (s.data.toList.take k) = N := ⟨_, rfl⟩
              rw [hN] at hn10 ⊢
              have HN : Hid (N = num s.data.toList) := by rw [← e.out, hN]; rfl
              clear hN e
              by_cases hbig : 1000000000 < (N : Int)
              · go_wp2
                go_ret2
                exact ⟨Or.inr ⟨fun h => by have := h.2.1; have := HN.out; omega, rfl⟩, hb1⟩
              · go_wp2
                go_ret2
                exact ⟨Or.inl ⟨⟨HD.out, by have := HN.out; omega, not_nil hp, HZ.out⟩, ret_num HN.out⟩, hb1⟩
    · have HF : Hid (¬ DecOk s.data.toList) := fun hd => hF ((digits_figs _).1 hd.1)
      clear hF
      go_wp2
      go_ret2
      exact ⟨Or.inr ⟨HF.out, rfl⟩, hb1⟩

theorem implReadDecimal_long (s : ByteArray) (hs : 10 < s.size) (w : World) :
    Calls Tryz.prog 193 #[.string s] w fun e w' => e = .returned (.tuple #[.int .i64 0, .bool false]) ∧ Below w.heap.size w w' := by
  have he := not_empty_toList (s := s) (by omega)
  go_enter Tryz.func193, Tryz.ntmps193
  go_wp2
  go_ret2
  exact ⟨rfl, Below.refl _ _⟩
end Go.Proofs.YtihgkocfgjihhaaGreatDoor

namespace Go.Proofs.YtihgkocfgjihhaaGreatDoor
open Go.RowKit

/-- a text begins with a byte -/
def headC (c : UInt8) (s : ByteArray) : Bool := match s.data.toList with
  | [] => false
  | h :: _ => decide (h = c)
theorem headC_yes {c : UInt8} {s : ByteArray} (h : headC c s = true) : ∃ r, s.data.toList = c :: r := by
  unfold headC at h
  split at h
  · cases h
  · rename_i x r hr
    rw [hr]
    exact ⟨r, by rw [of_decide_eq_true h]⟩
theorem headC_no {c : UInt8} {s : ByteArray} (h : headC c s = false) : s.data.toList.head? ≠ some c := by
  unfold headC at h
  split at h
  · rename_i hr; rw [hr]; simp
  · rename_i x r hr
    rw [hr]
    simpa using of_decide_eq_false h
theorem headC_empty {c : UInt8} {s : ByteArray} (h : s.size = 0) : headC c s = false := by
  have : s.data.toList = [] := List.eq_nil_of_length_eq_zero (by simpa using h)
  rw [headC, this]
theorem headC_cut {c : UInt8} {s : ByteArray} (h : 0 < s.size) : ((s.extract 0 1).toList == [c]) = headC c s := by
  have hl : s.data.toList ≠ [] := fun e => by
    have hz : s.data.toList.length = s.size := Array.length_toList
    rw [e] at hz
    simp only [List.length_nil] at hz
    omega
  rw [ByteArray.toList_eq, extract_eq, headC, List.drop_zero]
  match hq : s.data.toList, hl with
  | x :: r, _ =>
    by_cases q : x = c
    · simp [q]
    · simp [q]
theorem slice_first {P : Program} {t : TypeId} (h : P.underlying t = some .string) (s : ByteArray) (ha : 1 ≤ s.size) (w : World) :
    (Instr.slice t (.string s) none (some (.int .i64 1)) none).run P w = .ok (.string (s.extract 0 1)) w := by
  rw [run_slice_string_h w t s h .i64 1 (by omega) (by omega)]
  rfl

set_option maxRecDepth 1000000 in
theorem hasByte_any (c : UInt8) (s : ByteArray) (w : World) :
    Calls Tryz.prog 215 #[.string s, .string ⟨#[c]⟩] w fun e w' => e = .returned (.bool (headC c s)) ∧ w' = w := by
  by_cases h0 : 1 ≤ s.size
  · have h1 : 1 ≤ (s.size : Int) := by omega
    have hs := slice_first (P := Tryz.prog) Tryz.underlying9 s h0
    have hh := headC_cut (c := c) (s := s) (by omega)
    obtain ⟨T, hT⟩ : ∃ T, s.extract 0 1 = T := ⟨_, rfl⟩
    rw [hT] at hs hh
    clear hT
    go_enter Tryz.func215, Tryz.ntmps215
    go_wp2
    go_ret
    refine ⟨?_, rfl⟩
    first | rw [← hh]; rfl | simp [← hh]
  · have h1 : ¬ 1 ≤ (s.size : Int) := by omega
    have hr := headC_empty (c := c) (s := s) (by omega)
    go_enter Tryz.func215, Tryz.ntmps215
    go_wp2
    go_ret
    exact ⟨by first | rfl | (rw [hr]; rfl), rfl⟩

set_option maxRecDepth 1000000 in
theorem cutLite_yes (c : UInt8) (s : ByteArray) (h : headC c s = true) (w : World) :
    Calls Tryz.prog 205 #[.string s, .string ⟨#[c]⟩] w fun e w' => e = .returned (.tuple #[.string (s.extract 1 s.size), .bool true]) ∧ w' = w := by
  have hsz : 1 ≤ s.size := by
    rcases Nat.eq_zero_or_pos s.size with q | q
    · rw [headC_empty q] at h; cases h
    · omega
  have hs := slice_from (P := Tryz.prog) Tryz.underlying9 s 1 1 rfl hsz
  have cH := hid (fun w => hasByte_any c s w)
  rw [h] at cH
  obtain ⟨T, hT⟩ : ∃ T, s.extract 1 s.size = T := ⟨_, rfl⟩
  rw [hT] at hs ⊢
  clear hT h
  go_enter Tryz.func205, Tryz.ntmps205
  go_wp2_with fail
  refine (cH.out _).mono ?_
  rintro e w1 ⟨rfl, hw⟩
  rw [hw]
  clear hw w1 cH
  go_wp2
  go_ret2
  exact ⟨rfl, rfl⟩
set_option maxRecDepth 1000000 in
theorem cutLite_no (c : UInt8) (s : ByteArray) (h : headC c s = false) (w : World) :
    Calls Tryz.prog 205 #[.string s, .string ⟨#[c]⟩] w fun e w' => e = .returned (.tuple #[.string s, .bool false]) ∧ w' = w := by
  have cH := hid (fun w => hasByte_any c s w)
  rw [h] at cH
  clear h
  go_enter Tryz.func205, Tryz.ntmps205
  go_wp2_with fail
  refine (cH.out _).mono ?_
  rintro e w1 ⟨rfl, hw⟩
  rw [hw]
  clear hw w1 cH
  go_wp2
  go_ret2
  exact ⟨rfl, rfl⟩
set_option maxRecDepth 1000000 in
theorem cut_any (c : UInt8) (s : ByteArray) (w : World) :
    Calls Tryz.prog 192 #[.string s, .string ⟨#[c]⟩] w fun e w' => e = .returned (.tuple #[.string (if headC c s = true then s.extract 1 s.size else s), .bool (headC c s)]) ∧ w' = w := by
  cases h : headC c s with
  | true =>
    have cH := hid (fun w => cutLite_yes c s h w)
    clear h
    simp only [if_true]
    obtain ⟨T, hT⟩ : ∃ T, s.extract 1 s.size = T := ⟨_, rfl⟩
    rw [hT] at cH ⊢
    clear hT
    go_enter Tryz.func192, Tryz.ntmps192
    go_wp2_with fail
    refine (cH.out _).mono ?_
    rintro e w1 ⟨rfl, hw⟩
    rw [hw]
    clear hw w1 cH
    go_wp2
    go_ret2
    exact ⟨rfl, rfl⟩
  | false =>
    have cH := hid (fun w => cutLite_no c s h w)
    clear h
    simp only [Bool.false_eq_true, if_false]
    go_enter Tryz.func192, Tryz.ntmps192
    go_wp2_with fail
    refine (cH.out _).mono ?_
    rintro e w1 ⟨rfl, hw⟩
    rw [hw]
    clear hw w1 cH
    go_wp2
    go_ret2
    exact ⟨rfl, rfl⟩

/-- what impl.ReadDecimal answers at every text -/
theorem rdecI_all (s : ByteArray) (w : World) :
    Calls Tryz.prog 193 #[.string s] w fun e w' => (∃ x ok, e = .returned (.tuple #[.int .i64 x, .bool ok]) ∧ (ok = true → DecOk s.data.toList ∧ s.data.toList.length ≤ 10 ∧ x = num s.data.toList) ∧ (ok = false → ¬ (DecOk s.data.toList ∧ s.data.toList.length ≤ 10))) ∧ Below w.heap.size w w' := by
  have hl : s.data.toList.length = s.size := Array.length_toList
  by_cases h : s.size ≤ 10
  · refine (implReadDecimal_any s h w).mono ?_
    rintro e w' ⟨(⟨hd, he⟩ | ⟨hd, he⟩), hb⟩
    · exact ⟨⟨_, true, he, fun _ => ⟨hd, by omega, rfl⟩, fun q => by cases q⟩, hb⟩
    · exact ⟨⟨_, false, he, fun q => (by cases q), fun _ q => hd q.1⟩, hb⟩
  · refine (implReadDecimal_long s (by omega) w).mono ?_
    rintro e w' ⟨he, hb⟩
    exact ⟨⟨_, false, he, fun q => (by cases q), fun _ q => by omega⟩, hb⟩

/-- what a reader of names answers -/
def NameDid (o : Option Nat) (w : World) (e : Ending) (w' : World) : Prop := (∃ x, e = .returned (.tuple #[.int .i64 x, .bool o.isSome]) ∧ ∀ n, o = some n → x = n) ∧ Below w.heap.size w w'

set_option maxRecDepth 1000000 in
set_option maxHeartbeats 1000000 in
theorem numberInName_any (c : UInt8) (s : ByteArray) (lim : Nat) (hlim : lim ≤ 1000000000) (w : World) :
    Calls Tryz.prog 177 #[.string s, .string ⟨#[c]⟩, .int .i64 (lim : Int)] w fun e w' => NameDid (nameNum c lim s) w e w' := by
  have cC := hid (fun w => cut_any c s w)
  cases h : headC c s with
  | true =>
    obtain ⟨r, hr⟩ := headC_yes h
    rw [h] at cC
    simp only [if_true] at cC
    have hT : (s.extract 1 s.size).data.toList = r := by rw [tail_list, hr]; rfl
    obtain ⟨T, hTe⟩ : ∃ T, s.extract 1 s.size = T := ⟨_, rfl⟩
    rw [hTe] at cC hT
    clear hTe h
    go_enter Tryz.func177, Tryz.ntmps177
    go_wp2_with fail
    refine (cC.out _).mono ?_
    rintro e w1 ⟨rfl, hw⟩
    rw [hw]
    clear hw w1 cC
    go_wp2_with fail
    refine (rdecI_all T _).mono ?_
    rintro e w1 ⟨⟨x, ok, rfl, h1, h2⟩, b1⟩
    rw [hT] at h1 h2
    have B1 := hid b1
    clear b1 hT
    cases ok with
    | false =>
      have HN := hid (nameNum_figs hlim hr (fun q => h2 rfl ⟨q.1, q.2.2⟩))
      clear h1 h2 hr
      go_wp2
      go_ret2
      refine ⟨⟨x, by rw [HN.out]; rfl, fun n q => ?_⟩, B1.out⟩
      rw [HN.out] at q
      cases q
    | true =>
      obtain ⟨d1, d2, d3⟩ := h1 rfl
      clear h1 h2
      by_cases hx : x ≤ (lim : Int)
      · have HN := hid (nameNum_dec hr d1 (show num r ≤ lim by omega))
        have HX := hid d3
        have hxd := decide_eq_true hx
        clear d1 d2 d3 hr
        go_wp2
        go_ret2
        refine ⟨⟨x, by rw [HN.out]; rfl, fun n q => ?_⟩, B1.out⟩
        rw [HN.out] at q
        cases q
        exact HX.out
      · have HN := hid (nameNum_figs hlim hr (fun q => hx (by have := q.2.1; omega)))
        have hxd := decide_eq_false hx
        clear d1 d2 d3 hr
        go_wp2
        go_ret2
        refine ⟨⟨x, by rw [HN.out]; rfl, fun n q => ?_⟩, B1.out⟩
        rw [HN.out] at q
        cases q
  | false =>
    have HN := hid (nameNum_head hlim (headC_no h))
    rw [h] at cC
    simp only [Bool.false_eq_true, if_false] at cC
    clear h
    go_enter Tryz.func177, Tryz.ntmps177
    go_wp2_with fail
    refine (cC.out _).mono ?_
    rintro e w1 ⟨rfl, hw⟩
    rw [hw]
    clear hw w1 cC
    go_wp2_with fail
    refine (rdecI_all s _).mono ?_
    rintro e w1 ⟨⟨x, ok, rfl, _, _⟩, b1⟩
    have B1 := hid b1
    clear b1
    go_wp2
    go_ret2
    refine ⟨⟨x, by rw [HN.out]; rfl, fun n q => ?_⟩, B1.out⟩
    rw [HN.out] at q
    cases q
end Go.Proofs.YtihgkocfgjihhaaGreatDoor

namespace Go.Proofs.YtihgkocfgjihhaaGreatDoor
open Go.RowKit

set_option maxRecDepth 1000000 in
theorem indexIn_any (s : ByteArray) (w : World) : Calls Tryz.prog 149 #[.string s] w fun e w' => NameDid (nameNum 115 1000000 s) w e w' := by
  have C := hid (fun w => numberInName_any 115 s 1000000 (by omega) w)
  go_enter Tryz.func149, Tryz.ntmps149
  go_wp2_with fail
  refine (C.out _).mono ?_
  rintro e w1 ⟨⟨x, rfl, hx⟩, b1⟩
  have HX := hid hx
  have B1 := hid b1
  clear hx b1 C
  go_wp2
  go_ret2
  exact ⟨⟨x, rfl, HX.out⟩, B1.out⟩
end Go.Proofs.YtihgkocfgjihhaaGreatDoor

namespace Go.Proofs.YtihgkocfgjihhaaGreatDoor
open Go.RowKit

set_option maxHeartbeats 1000000 in
set_option maxRecDepth 1000000 in
theorem implReadVar_in (s : ByteArray) (a : Nat) (ha : a ≤ s.size) (hs : s.size ≤ 140737488355328) (w : World) :
    Calls Tryz.prog 208 #[.string s, .int .i64 a] w fun e w' => e = .returned (rvAns a (rv (s.data.toList.drop a))) ∧ w' = w := by
  go_enter Tryz.func208, Tryz.ntmps208
  go_wp2
  go_loop [7, 8, 9] (fun n g i => ∃ (k W : Nat) (p : List UInt8), RvAt s a k p ∧ i = .int .i64 k ∧ n = .int .i64 (val p) ∧ g = .int .i64 W ∧ Hid (W = 128 ^ (k - a))) (fun _ _ i => a + 5 - (intOf i).toNat)
  case atStart => exact ⟨a, 1, [], RvAt.start s a ha, rfl, rfl, rfl, by simp [Hid]⟩
  case round =>
    obtain ⟨k, W, p, hR, rfl, rfl, rfl, HW⟩ := hrel
    have k1 := hR.lo
    have k2 := hR.hi
    have k3 := hR.five
    by_cases hk : k < s.size
    · by_cases h5 : k < a + 5
      · have hbd := hR.bounds h5 s[k].toNat
        rw [← HW.out] at hbd
        obtain ⟨b1, b2, b3, b4⟩ := hbd
        have m0 : (0 : Int) ≤ (s[k].toNat : Int) % 128 * (W : Int) := by
          have : ((s[k].toNat % 128 * W : Nat) : Int) = (s[k].toNat : Int) % 128 * (W : Int) := by simp
          omega
        have m1 : (s[k].toNat : Int) % 128 * (W : Int) ≤ 34091302912 := by
          have : ((s[k].toNat % 128 * W : Nat) : Int) = (s[k].toNat : Int) % 128 * (W : Int) := by simp
          omega
        have c0 : (s[k].toNat : Int) ≤ 255 := by have := s[k].toNat_lt; omega
        have HV : Hid (((val (p ++ [s[k]]) : Nat) : Int) = (val p : Int) + (s[k].toNat : Int) % 128 * (W : Int)) := hR.val_step HW.out s[k]
        by_cases hb : 127 < (s[k].toNat : Int)
        · go_wp2
          go_round
          case rel => exact ⟨k + 1, W * 128, p ++ [s[k]], hR.step hk h5 (by omega), by go_num, by rw [HV.out], by go_num, hR.W_step HW.out⟩
          case measure => simp [intOf]; omega
        · by_cases hz : (s[k].toNat : Int) ≤ 0
          · by_cases hak : a < k
            · go_wp2
              go_ret3
              exact ⟨rvAns_none (hR.no hk h5 (by omega) (Or.inr ⟨zero_of_toNat hz, hak⟩)), rfl⟩
            · have hv : (val p : Int) + (s[k].toNat : Int) % 128 * (W : Int) ≤ 1000000000 := by
                have : val p = 0 := by have := hR.len; have e : p = [] := List.eq_nil_of_length_eq_zero (by omega); rw [e]; rfl
                have e : s[k].toNat = 0 := by omega
                rw [this, e]; simp
              have HZ : Hid (((val (p ++ [s[k]]) : Nat) : Int) = (val p : Int)) := by
                have e : (s[k].toNat : Int) = 0 := by omega
                show _ = _
                rw [HV.out, e]; simp
              go_wp2
              go_ret3
              exact ⟨rvAns_some (hR.yes hk h5 (by omega) (by have := HV.out; omega) (by omega)) k1 HZ.out rfl, rfl⟩
          · by_cases hv : 1000000000 < (val p : Int) + (s[k].toNat : Int) % 128 * (W : Int)
            · go_wp2
              go_ret3
              exact ⟨rvAns_none (hR.no hk h5 (by omega) (Or.inl (by have := HV.out; omega))), rfl⟩
            · go_wp2
              go_ret3
              exact ⟨rvAns_some (hR.yes hk h5 (by omega) (by have := HV.out; omega) (fun h => not_zero (by omega) h.1)) k1 HV.out rfl, rfl⟩
      · go_wp2
        go_ret3
        exact ⟨rvAns_none (hR.none_end (Or.inr (by omega))), rfl⟩
    · go_wp2
      go_ret3
      exact ⟨rvAns_none (hR.none_end (Or.inl (by omega))), rfl⟩

theorem implReadVar_out (s : ByteArray) (a : Int) (ha : a < 0 ∨ (s.size : Int) < a) (w : World) :
    Calls Tryz.prog 208 #[.string s, .int .i64 a] w fun e w' => e = .returned (.tuple #[.int .i64 0, .int .i64 0, .bool false]) ∧ w' = w := by
  by_cases h0 : a < 0
  · go_enter Tryz.func208, Tryz.ntmps208
    go_wp2
    go_ret3
    exact ⟨rfl, rfl⟩
  · have h1 : (s.size : Int) < a := by omega
    go_enter Tryz.func208, Tryz.ntmps208
    go_wp2
    go_ret3
    exact ⟨rfl, rfl⟩
end Go.Proofs.YtihgkocfgjihhaaGreatDoor
