/-
  The walk of spec.l03Put: a disk with a file put in its place.
-/
import Derived.Test.YtoanhjjigbjecaaGreatDoorJoint1
import Derived.Laws.Cover1
import Derived.Deep.RegionLaw
import Derived.Deep.AppendLies
import Derived.BigQuiet
import Derived.Deep.QuietTactic
namespace Go.Proofs.YtoanhjjigbjecaaGreatDoor
open Go.RowKit

def isLess (f g : FileD) : Bool := textLt g.name f.name
def isMore (f g : FileD) : Bool := textLt f.name g.name
def filesLess (l : List FileD) (f : FileD) : List FileD := l.filter (isLess f)
def lessAnd (l : List FileD) (f : FileD) : List FileD := filesLess l f ++ [f]
def filesPut (l : List FileD) (f : FileD) : List FileD := lessAnd l f ++ l.filter (isMore f)
/-- files, and behind them those of the first k for which p holds -/
def rowsTo (P : List FileD) (p : FileD → Bool) (l : List FileD) (k : Nat) : List FileD := P ++ (l.take k).filter p
theorem rowsTo_step (P : List FileD) (p : FileD → Bool) (l : List FileD) (k : Nat) (hk : k < l.length) : rowsTo P p l (k + 1) = rowsTo P p l k ++ (if p l[k] = true then [l[k]] else []) := by
  rw [rowsTo, rowsTo, List.take_succ_eq_append_getElem hk, List.filter_append, List.append_assoc]
  cases h : p l[k] <;> simp [h]
theorem rowsTo_le (P : List FileD) (p : FileD → Bool) (l : List FileD) (k : Nat) (hP : P.length ≤ l.length + 1) : (rowsTo P p l k).length ≤ 2 * l.length + 1 := by
  have := List.length_filter_le p (l.take k)
  rw [List.length_take] at this
  rw [rowsTo, List.length_append]
  omega
theorem rowsTo_zero (P : List FileD) (p : FileD → Bool) (l : List FileD) : rowsTo P p l 0 = P := by simp [rowsTo]
theorem rowsTo_less (l : List FileD) (f : FileD) : rowsTo [] (isLess f) l l.length = filesLess l f := by simp [rowsTo, filesLess]
theorem rowsTo_all (l : List FileD) (f : FileD) : rowsTo (lessAnd l f) (isMore f) l l.length = filesPut l f := by simp [rowsTo, filesPut]
theorem filesLess_le (l : List FileD) (f : FileD) : (filesLess l f).length ≤ l.length := List.length_filter_le _ _
theorem lessAnd_length (l : List FileD) (f : FileD) : (lessAnd l f).length = (filesLess l f).length + 1 := by simp [lessAnd]

theorem less_total (a b : List UInt8) : Op.bytesLess b a = !(Op.bytesLess a b || a == b) := by
  induction a generalizing b with
  | nil => cases b <;> simp [Op.bytesLess]
  | cons x a ih =>
    cases b with
    | nil => simp [Op.bytesLess]
    | cons y b =>
      simp only [Op.bytesLess, ih b, List.cons_beq_cons]
      by_cases h1 : x < y
      · have h2 : ¬ y < x := fun h => by have := UInt8.lt_trans h1 h; exact absurd this (UInt8.lt_irrefl _)
        have h3 : (y == x) = false := beq_eq_false_iff_ne.2 fun e => by subst e; exact absurd h1 (UInt8.lt_irrefl _)
        simp [h1, h2, h3]
      · by_cases h2 : y < x
        · have h3 : (x == y) = false := beq_eq_false_iff_ne.2 fun e => by subst e; exact absurd h2 (UInt8.lt_irrefl _)
          simp [h1, h2, h3]
        · have e : x = y := UInt8.le_antisymm (UInt8.not_lt.1 h2) (UInt8.not_lt.1 h1)
          subst e
          simp [h1]

/-- four blocks laid one behind the other -/
theorem four_new (w : World) (o p q r : Obj) : Below w.heap.size w ((((w.alloc o).alloc p).alloc q).alloc r) ∧ ((((w.alloc o).alloc p).alloc q).alloc r).heap.size = w.heap.size + 4 ∧ ((((w.alloc o).alloc p).alloc q).alloc r).heap[w.heap.size]? = some o ∧ ((((w.alloc o).alloc p).alloc q).alloc r).heap[w.heap.size + 1]? = some p ∧ ((((w.alloc o).alloc p).alloc q).alloc r).heap[w.heap.size + 1 + 1]? = some q ∧ ((((w.alloc o).alloc p).alloc q).alloc r).heap[w.heap.size + 1 + 1 + 1]? = some r := by
  refine ⟨below_more (below_more (below_more (below_more (Below.refl _ w) _) _) _) _, ?_, ?_, ?_, ?_, ?_⟩
  · simp [World.alloc, -World.alloc_eq]
  · show ((((w.heap.push o).push p).push q).push r)[w.heap.size]? = some o
    rw [Array.getElem?_push, if_neg (by simp <;> omega), Array.getElem?_push, if_neg (by simp <;> omega), Array.getElem?_push, if_neg (by simp), Array.getElem?_push, if_pos (by simp)]
  · show ((((w.heap.push o).push p).push q).push r)[w.heap.size + 1]? = some p
    rw [Array.getElem?_push, if_neg (by simp <;> omega), Array.getElem?_push, if_neg (by simp), Array.getElem?_push, if_pos (by simp)]
  · show ((((w.heap.push o).push p).push q).push r)[w.heap.size + 1 + 1]? = some q
    rw [Array.getElem?_push, if_neg (by simp), Array.getElem?_push, if_pos (by simp)]
  · show ((((w.heap.push o).push p).push q).push r)[w.heap.size + 1 + 1 + 1]? = some r
    rw [Array.getElem?_push, if_pos (by simp)]

/-- what stands in memory while a file is put: the disk, the file, the answer, and what is made -/
def PutAt (w wr : World) (ao : Option Addr) (n cap : Nat) (f : FileD) (v : Value) : Prop :=
  BlockIs wr w.heap.size 26 [.slice ao n cap] ∧ BlockIs wr (w.heap.size + 1) 61 (fileEnc f) ∧ BlockIs wr (w.heap.size + 1 + 1) 26 [.slice none 0 0] ∧ BlockIs wr (w.heap.size + 1 + 1 + 1) 26 [v]

theorem PutAt.on {w wr w1 : World} {ao : Option Addr} {n cap : Nat} {f : FileD} {v : Value} (h : PutAt w wr ao n cap f v) (hk : ∀ j tj cs, j < w.heap.size + 4 → BlockIs wr j tj cs → BlockIs w1 j tj cs) (u : Value) :
    PutAt w (w1.setCell ⟨w.heap.size + 1 + 1 + 1, 0, none⟩ u) ao n cap f u :=
  ⟨(hk _ _ _ (by omega) h.1).far (by omega) _, (hk _ _ _ (by omega) h.2.1).far (by omega) _, (hk _ _ _ (by omega) h.2.2.1).far (by omega) _, (hk _ _ _ (by omega) h.2.2.2).set 0 u⟩

set_option maxRecDepth 1000000 in
set_option maxHeartbeats 2000000 in
theorem l03Put_any (ao : Option Addr) (l : List FileD) (cap : Nat) (f : FileD) (hl : l.length ≤ 1048576) (w : World) (ha : FilesAt w ao l) :
    Calls Tryz.prog 25 #[.agg #[.slice ao l.length cap], f.value] w fun e w' => ∃ v, e = .returned (.agg #[v]) ∧ w'.ownsRow w.heap.size 61 3 v (filesPut l f).length (fileCells (filesPut l f)) ∧ Below w.heap.size w w' := by
  obtain ⟨i0, hi, hz0, hz1, hz2⟩ := info_parts toFile_info
  have HA := hid ha
  have h4 := four_new w (.cells #[.slice ao l.length cap] 26) (.cells #[.string f.name, .string f.text, .int .i64 f.kept] 61) (.cells #[.slice none 0 0] 26) (.cells #[.slice none 0 0] 26)
  have H4 := hid h4
  clear h4 ha
  unfold FileD.value
  go_enter Tryz.func25, Tryz.ntmps25
  go_wp2
  go_loopg [6] l.length (fun q i wr => ∃ (k : Nat) (v : Value), k + q = l.length ∧ i = .int .i64 k ∧ Hid (Below w.heap.size w wr) ∧ Hid (PutAt w wr ao l.length cap f v) ∧ Hid (wr.ownsRow (w.heap.size + 4) 61 3 v (rowsTo ([] : List FileD) (isLess f) l k).length (fileCells (rowsTo ([] : List FileD) (isLess f) l k))))
  case atStart => exact ⟨0, .slice none 0 0, by omega, rfl, H4.out.1, ⟨H4.out.2.2.1, H4.out.2.2.2.1, H4.out.2.2.2.2.1, H4.out.2.2.2.2.2⟩, rfl, Or.inl ⟨rfl, rfl⟩⟩
  case round =>
    obtain ⟨k, v, hkg, rfl, BR, XR, OR⟩ := hrel
    clear H4
    have c0 := XR.out.1.cell (j := 0) rfl
    have c1 := XR.out.2.1.cell (j := 0) rfl
    have c1b := XR.out.2.1.cell (j := 1) rfl
    have c1c := XR.out.2.1.cell (j := 2) rfl
    have c2 := XR.out.2.2.1.cell (j := 0) rfl
    have c3 := XR.out.2.2.2.cell (j := 0) rfl
    have f2 := XR.out.2.2.1.thaw 0
    have f3 := XR.out.2.2.2.thaw 0
    have hw4 : w.heap.size + 4 ≤ wr.heap.size := by have := XR.out.2.2.2.lt; omega
    cases gk with
    | zero =>
      have hlt : ¬ (k : Int) < (l.length : Int) := by omega
      obtain rfl : k = l.length := by omega
      rw [rowsTo_less] at OR
      have hown := OR.out
      have hN := filesLess_le l f
      have hR := hid (fun w1 o (h2 : (wr.alloc o).grownBy w1 v.ownBlock) => behind_append (w := w) (w1 := w1) (o := o) (by omega) BR.out OR.out hw4 ⟨h2.os, h2.tape, h2.output, h2.size, h2.block⟩)
      clear OR
      go_wp2_with (at_builtin; refine wpList_append_own _ rfl (.tmp 36) (.tmp 38) 24 rfl (w.heap.size + 4) 61 i0 _ 3 40 Tryz.underlying24 hi hz0 hz1 hz2 rfl (by decide) _ _ _ rfl (hown.alloc _) ⟨wr.heap.size, 0, none⟩ 1 1 [.string f.name, .string f.text, .int .i64 f.kept] rfl rfl (World.news_of_block (cs := #[.string f.name, .string f.text, .int .i64 f.kept]) (t := 61) (fr := (0, 0)) (heap_alloc_new wr _)) (by simp [Value.oneCell']) (by unfold maxLen; omega) (by omega) (by simp; omega) ?_)
      intro v1 w1 hown1 hgrow _
      obtain ⟨va, vc, rfl⟩ := row_shape hown1
      obtain ⟨B1, hz1', hk1⟩ := hR.out w1 _ hgrow
      have y3 := (hk1 _ _ _ (Nat.lt_succ_self _) XR.out.2.2.2).cell (j := 0) rfl
      have z3 := (hk1 _ _ _ (Nat.lt_succ_self _) XR.out.2.2.2).thaw 0
      have HO : Hid ((w1.setCell ⟨w.heap.size + 1 + 1 + 1, 0, none⟩ (.slice va ((filesLess l f).length + 1) vc)).ownsRow (w.heap.size + 4) 61 3 (.slice va ((filesLess l f).length + 1) vc) (rowsTo (lessAnd l f) (isMore f) l 0).length (fileCells (rowsTo (lessAnd l f) (isMore f) l 0))) := by
        rw [rowsTo_zero, lessAnd_length, show fileCells (lessAnd l f) = fileCells (filesLess l f) ++ [.string f.name, .string f.text, .int .i64 f.kept] by simp [lessAnd, fileCells, fileEnc]]
        exact ownsRow_setCell_below hown1 (by show _ + 1 + 1 + 1 < _; omega) _
      have HX := hid (XR.out.on hk1 (.slice va ((filesLess l f).length + 1) vc))
      have HB := hid (B1.setCell (p := ⟨w.heap.size + 1 + 1 + 1, 0, none⟩) (by show _ ≤ _ + 1 + 1 + 1; omega) (.slice va ((filesLess l f).length + 1) vc))
      clear hown1 hgrow B1 hz1' hk1 hR hown XR BR c0 c1 c1b c1c c2 c3 f2 f3 hw4
      go_wp2
      clear y3 z3
      go_loopg [7] l.length (fun q i wr => ∃ (k : Nat) (v : Value), k + q = l.length ∧ i = .int .i64 k ∧ Hid (Below w.heap.size w wr) ∧ Hid (PutAt w wr ao l.length cap f v) ∧ Hid (wr.ownsRow (w.heap.size + 4) 61 3 v (rowsTo (lessAnd l f) (isMore f) l k).length (fileCells (rowsTo (lessAnd l f) (isMore f) l k))))
      case atStart => exact ⟨0, _, by omega, rfl, HB, HX, HO⟩
      case round =>
        obtain ⟨k, v, hkg, rfl, BR, XR, OR⟩ := hrel
        clear HO HX HB
        have c0 := XR.out.1.cell (j := 0) rfl
        have c1 := XR.out.2.1.cell (j := 0) rfl
        have c1b := XR.out.2.1.cell (j := 1) rfl
        have c1c := XR.out.2.1.cell (j := 2) rfl
        have c2 := XR.out.2.2.1.cell (j := 0) rfl
        have c3 := XR.out.2.2.2.cell (j := 0) rfl
        have f2 := XR.out.2.2.1.thaw 0
        have f3 := XR.out.2.2.2.thaw 0
        have hw4 : w.heap.size + 4 ≤ wr.heap.size := by have := XR.out.2.2.2.lt; omega
        cases gk with
        | zero =>
          have hlt : ¬ (k : Int) < (l.length : Int) := by omega
          obtain rfl : k = l.length := by omega
          rw [rowsTo_all] at OR
          obtain ⟨va, vc, rfl⟩ := row_shape OR.out
          have HO := hid (ownsRow_setCell_below (a := ⟨w.heap.size + 1 + 1, 0, none⟩) OR.out (by show _ + 1 + 1 < _; omega) (.slice va (filesPut l f).length vc))
          have HB := hid (BR.out.setCell (p := ⟨w.heap.size + 1 + 1, 0, none⟩) (by show _ ≤ _ + 1 + 1; omega) (.slice va (filesPut l f).length vc))
          clear OR BR XR
          go_wp2
          refine bodyPost_ret (v := .agg #[.slice va (filesPut l f).length vc]) (by simp [results, Tryz.results25, go_sem, c2]) rfl ⟨_, rfl, row_down HO.out (by omega), HB.out⟩
        | succ q =>
          have hlt : k < l.length := by omega
          have hlt' : (k : Int) < (l.length : Int) := by omega
          have hne : l ≠ [] := by intro e; rw [e] at hlt; simp at hlt
          obtain ⟨b, off, rfl, hc⟩ := HA.out.on BR.out hne
          obtain ⟨x0, x1, x2⟩ := hc k hlt
          clear hc
          have hst := rowsTo_step (lessAnd l f) (isMore f) l k hlt
          cases he : isMore f l[k] with
          | false =>
            rw [he, if_neg (by simp), List.append_nil] at hst
            rw [← hst] at OR
            have hlz : (Op.bytesLess l[k].name.toList f.name.toList || l[k].name.toList == f.name.toList) = true := by have h := less_total l[k].name.toList f.name.toList; rw [show Op.bytesLess f.name.toList l[k].name.toList = false from he] at h; simpa only [Bool.not_eq_false'] using h.symm
            clear hst he
            go_wp2
            go_quiet (fail)
            go_wp2
            go_roundg q
            case measure => omega
            case rel => exact ⟨k + 1, v, by omega, by go_num, below_drewN BR.out _, XR, OR⟩
          | true =>
            rw [he, if_pos rfl] at hst
            have hlz : (Op.bytesLess l[k].name.toList f.name.toList || l[k].name.toList == f.name.toList) = false := by have h := less_total l[k].name.toList f.name.toList; rw [show Op.bytesLess f.name.toList l[k].name.toList = true from he] at h; simpa using h.symm
            have hN := rowsTo_le (lessAnd l f) (isMore f) l k (by rw [lessAnd_length]; have := filesLess_le l f; omega)
            clear he
            go_wp2
            go_quiet (fail)
            go_wp2
            have BQ : Hid (Below w.heap.size w (wr.drewN nq)) := below_drewN BR.out _
            have XQ : Hid (PutAt w (wr.drewN nq) (some ⟨b, off, none⟩) l.length cap f v) := XR
            have OQ : Hid ((wr.drewN nq).ownsRow (w.heap.size + 4) 61 3 v (rowsTo (lessAnd l f) (isMore f) l k).length (fileCells (rowsTo (lessAnd l f) (isMore f) l k))) := OR
            have hwq : w.heap.size + 4 ≤ (wr.drewN nq).heap.size := hw4
            generalize wr.drewN nq = wq at BQ XQ OQ hwq ⊢
            clear BR XR OR hw4 c0 c1 c1b c1c c2 c3 f2 f3 x0 x1 x2
            obtain ⟨b', off', e', hc⟩ := HA.out.on BQ.out hne
            cases e'
            obtain ⟨x0, x1, x2⟩ := hc k hlt
            have c0 := XQ.out.1.cell (j := 0) rfl
            have c3 := XQ.out.2.2.2.cell (j := 0) rfl
            have f3 := XQ.out.2.2.2.thaw 0
            have hown := OQ.out
            have c3a : (wq.alloc (.cells #[.string l[k].name, .string l[k].text, .int .i64 l[k].kept] 61)).cell? ⟨w.heap.size + 1 + 1 + 1, 0, none⟩ = some v := ((below_more (Below.refl _ wq) _).cell (p := ⟨w.heap.size + 1 + 1 + 1, 0, none⟩) XQ.out.2.2.2.lt).trans c3
            have hR := hid (fun w1 o h2 => behind_append (w := w) (w1 := w1) (o := o) (by omega) BQ.out OQ.out hwq h2)
            clear hc hlz
            go_region_law (refine step_append_lies _ rfl (.tmp 58) (.tmp 64) 24 rfl (w.heap.size + 4) 61 i0 _ 3 40 Tryz.underlying24 hi hz0 hz1 hz2 rfl (by decide) _ (rowsTo (lessAnd l f) (isMore f) l k).length _ (by simp [Act.eval]) ((hown.alloc _).drew) ⟨wq.heap.size, 0, none⟩ 1 1 [.string l[k].name, .string l[k].text, .int .i64 l[k].kept] (by simp [Act.eval]) rfl (World.news_of_block (cs := #[.string l[k].name, .string l[k].text, .int .i64 l[k].kept]) (t := 61) (fr := (0, 0)) (heap_alloc_new wq _)) (by simp [Value.oneCell']) (by decide) (by unfold maxLen; omega) (by omega) (by simp; omega) (wq.heap.size + 1) (by simp) ?_; intro g1 cap1 w1 hown1 hgrow hat hlt1; obtain ⟨B1, hz1', hk1⟩ := hR.out w1 _ hgrow; have y3 := (hk1 _ _ _ (Nat.lt_succ_self _) XQ.out.2.2.2).cell (j := 0) rfl; have z3 := (hk1 _ _ _ (Nat.lt_succ_self _) XQ.out.2.2.2).thaw 0)
            all_goals
              have hfc : fileCells (rowsTo (lessAnd l f) (isMore f) l (k + 1)) = fileCells (rowsTo (lessAnd l f) (isMore f) l k) ++ [.string l[k].name, .string l[k].text, .int .i64 l[k].kept] := by
                rw [hst]; simp [fileCells, fileEnc]
              have hfl : (rowsTo (lessAnd l f) (isMore f) l (k + 1)).length = (rowsTo (lessAnd l f) (isMore f) l k).length + 1 := by rw [hst]; simp
              have HO : Hid ((w1.setCell ⟨w.heap.size + 1 + 1 + 1, 0, none⟩ (.slice (some ⟨g1, 0, none⟩) ((rowsTo (lessAnd l f) (isMore f) l k).length + 1) cap1)).ownsRow (w.heap.size + 4) 61 3 (.slice (some ⟨g1, 0, none⟩) ((rowsTo (lessAnd l f) (isMore f) l k).length + 1) cap1) (rowsTo (lessAnd l f) (isMore f) l (k + 1)).length (fileCells (rowsTo (lessAnd l f) (isMore f) l (k + 1)))) := by
                rw [hfc, hfl]
                exact ownsRow_setCell_below hown1 (by show _ + 1 + 1 + 1 < _; omega) _
              have HX := hid (XQ.out.on hk1 (.slice (some ⟨g1, 0, none⟩) ((rowsTo (lessAnd l f) (isMore f) l k).length + 1) cap1))
              have HB := hid (B1.setCell (p := ⟨w.heap.size + 1 + 1 + 1, 0, none⟩) (by show _ ≤ _ + 1 + 1 + 1; omega) (.slice (some ⟨g1, 0, none⟩) ((rowsTo (lessAnd l f) (isMore f) l k).length + 1) cap1))
              clear hown1 hgrow hat hlt1 B1 hz1' hk1 y3 z3 c3a hR hown OQ XQ BQ c0 c3 f3 x0 x1 x2 hfc hfl hst
              go_wp2
              go_roundg q
              case measure => omega
              case rel => exact ⟨k + 1, _, by omega, by go_num, HB, HX, HO⟩
    | succ q =>
      have hlt : k < l.length := by omega
      have hlt' : (k : Int) < (l.length : Int) := by omega
      have hne : l ≠ [] := by intro e; rw [e] at hlt; simp at hlt
      obtain ⟨b, off, rfl, hc⟩ := HA.out.on BR.out hne
      obtain ⟨x0, x1, x2⟩ := hc k hlt
      clear hc
      have hst := rowsTo_step ([] : List FileD) (isLess f) l k hlt
      cases he : isLess f l[k] with
      | false =>
        rw [he, if_neg (by simp), List.append_nil] at hst
        rw [← hst] at OR
        have hlz : Op.bytesLess l[k].name.toList f.name.toList = false := he
        clear hst he
        go_wp2
        go_quiet (fail)
        go_wp2
        go_roundg q
        case measure => omega
        case rel => exact ⟨k + 1, v, by omega, by go_num, below_drewN BR.out _, XR, OR⟩
      | true =>
        rw [he, if_pos rfl] at hst
        have hlz : Op.bytesLess l[k].name.toList f.name.toList = true := he
        have hN := rowsTo_le ([] : List FileD) (isLess f) l k (by simp)
        clear he
        go_wp2
        go_quiet (fail)
        go_wp2
        have BQ : Hid (Below w.heap.size w (wr.drewN nq)) := below_drewN BR.out _
        have XQ : Hid (PutAt w (wr.drewN nq) (some ⟨b, off, none⟩) l.length cap f v) := XR
        have OQ : Hid ((wr.drewN nq).ownsRow (w.heap.size + 4) 61 3 v (rowsTo ([] : List FileD) (isLess f) l k).length (fileCells (rowsTo ([] : List FileD) (isLess f) l k))) := OR
        have hwq : w.heap.size + 4 ≤ (wr.drewN nq).heap.size := hw4
        generalize wr.drewN nq = wq at BQ XQ OQ hwq ⊢
        clear BR XR OR hw4 c0 c1 c1b c1c c2 c3 f2 f3 x0 x1 x2
        obtain ⟨b', off', e', hc⟩ := HA.out.on BQ.out hne
        cases e'
        obtain ⟨x0, x1, x2⟩ := hc k hlt
        have c0 := XQ.out.1.cell (j := 0) rfl
        have c3 := XQ.out.2.2.2.cell (j := 0) rfl
        have f3 := XQ.out.2.2.2.thaw 0
        have hown := OQ.out
        have c3a : (wq.alloc (.cells #[.string l[k].name, .string l[k].text, .int .i64 l[k].kept] 61)).cell? ⟨w.heap.size + 1 + 1 + 1, 0, none⟩ = some v := ((below_more (Below.refl _ wq) _).cell (p := ⟨w.heap.size + 1 + 1 + 1, 0, none⟩) XQ.out.2.2.2.lt).trans c3
        have hR := hid (fun w1 o h2 => behind_append (w := w) (w1 := w1) (o := o) (by omega) BQ.out OQ.out hwq h2)
        clear hc hlz
        go_region_law (refine step_append_lies _ rfl (.tmp 26) (.tmp 32) 24 rfl (w.heap.size + 4) 61 i0 _ 3 40 Tryz.underlying24 hi hz0 hz1 hz2 rfl (by decide) _ (rowsTo ([] : List FileD) (isLess f) l k).length _ (by simp [Act.eval]) ((hown.alloc _).drew) ⟨wq.heap.size, 0, none⟩ 1 1 [.string l[k].name, .string l[k].text, .int .i64 l[k].kept] (by simp [Act.eval]) rfl (World.news_of_block (cs := #[.string l[k].name, .string l[k].text, .int .i64 l[k].kept]) (t := 61) (fr := (0, 0)) (heap_alloc_new wq _)) (by simp [Value.oneCell']) (by decide) (by unfold maxLen; omega) (by omega) (by simp; omega) (wq.heap.size + 1) (by simp) ?_; intro g1 cap1 w1 hown1 hgrow hat hlt1; obtain ⟨B1, hz1', hk1⟩ := hR.out w1 _ hgrow; have y3 := (hk1 _ _ _ (Nat.lt_succ_self _) XQ.out.2.2.2).cell (j := 0) rfl; have z3 := (hk1 _ _ _ (Nat.lt_succ_self _) XQ.out.2.2.2).thaw 0)
        all_goals
          have hfc : fileCells (rowsTo ([] : List FileD) (isLess f) l (k + 1)) = fileCells (rowsTo ([] : List FileD) (isLess f) l k) ++ [.string l[k].name, .string l[k].text, .int .i64 l[k].kept] := by
            rw [hst]; simp [fileCells, fileEnc]
          have hfl : (rowsTo ([] : List FileD) (isLess f) l (k + 1)).length = (rowsTo ([] : List FileD) (isLess f) l k).length + 1 := by rw [hst]; simp
          have HO : Hid ((w1.setCell ⟨w.heap.size + 1 + 1 + 1, 0, none⟩ (.slice (some ⟨g1, 0, none⟩) ((rowsTo ([] : List FileD) (isLess f) l k).length + 1) cap1)).ownsRow (w.heap.size + 4) 61 3 (.slice (some ⟨g1, 0, none⟩) ((rowsTo ([] : List FileD) (isLess f) l k).length + 1) cap1) (rowsTo ([] : List FileD) (isLess f) l (k + 1)).length (fileCells (rowsTo ([] : List FileD) (isLess f) l (k + 1)))) := by
            rw [hfc, hfl]
            exact ownsRow_setCell_below hown1 (by show _ + 1 + 1 + 1 < _; omega) _
          have HX := hid (XQ.out.on hk1 (.slice (some ⟨g1, 0, none⟩) ((rowsTo ([] : List FileD) (isLess f) l k).length + 1) cap1))
          have HB := hid (B1.setCell (p := ⟨w.heap.size + 1 + 1 + 1, 0, none⟩) (by show _ ≤ _ + 1 + 1 + 1; omega) (.slice (some ⟨g1, 0, none⟩) ((rowsTo ([] : List FileD) (isLess f) l k).length + 1) cap1))
          clear hown1 hgrow hat hlt1 B1 hz1' hk1 y3 z3 c3a hR hown OQ XQ BQ c0 c3 f3 x0 x1 x2 hfc hfl hst
          go_wp2
          go_roundg q
          case measure => omega
          case rel => exact ⟨k + 1, _, by omega, by go_num, HB, HX, HO⟩
end Go.Proofs.YtoanhjjigbjecaaGreatDoor
