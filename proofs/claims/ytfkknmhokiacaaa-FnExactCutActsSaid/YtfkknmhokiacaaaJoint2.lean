/-
  The walk of spec.l03Put: a disk with a file put in its place.
  The walk of spec.l03Without: a disk without the files of a name.
  The walk of spec.l03At: where the first file of a name is.
  Numbers in memory, one behind the other.
  What the power leaves of a disk, as plain data.
  Acts on disks as plain data: when one is true, and what it leaves.
  Lists of acts acts data, in memory; what they leave, one by one.
  Lists of acts in the laws: the walks of szActS, toActS, eqAct, eqActS.
-/
import Derived.Test.YtfkknmhokiacaaaJoint1
import Derived.Laws.Cover1
import Derived.Deep.RegionLaw
import Derived.Deep.AppendLies
import Derived.BigQuiet
import Derived.Deep.QuietTactic
import Derived.Sort.Walk0
import Derived.Lib.QuietBelow
namespace Go.Proofs.Ytfkknmhokiacaaa
open Go.RowKit

def isLess (f g : FileD) : Bool := textLt g.name f.name
def isMore (f g : FileD) : Bool := textLt f.name g.name
def filesLess (l : List FileD) (f : FileD) : List FileD := l.filter (isLess f)
def lessAnd (l : List FileD) (f : FileD) : List FileD := filesLess l f ++ [f]
def filesPut (l : List FileD) (f : FileD) : List FileD := lessAnd l f ++ l.filter (isMore f)
/-- files, and behind them those of the first k for which p holds -/
def rowsTo (P : List FileD) (p : FileD → Bool) (l : List FileD) (k : Nat) : List FileD := P ++ (l.take k).filter p
theorem rowsTo_step (P : List FileD) (p : FileD → Bool) (l : List FileD) (k : Nat) (hk : k < l.length) : rowsTo P p l (k + 1) = rowsTo P p l k ++ (if p l[k] = true then [l[k]] else []) := by
  rw [rowsTo, rowsTo, List.take_succ_eq_append_getElem hk, List.filter_append, List.append_assoc]
  cases h : p l[k] <;> simp [h]
theorem rowsTo_le (P : List FileD) (p : FileD → Bool) (l : List FileD) (k : Nat) (hP : P.length ≤ l.length + 1) : (rowsTo P p l k).length ≤ 2 * l.length + 1 := by
  have := List.length_filter_le p (l.take k)
  rw [List.length_take] at this
  rw [rowsTo, List.length_append]
  omega
theorem rowsTo_zero (P : List FileD) (p : FileD → Bool) (l : List FileD) : rowsTo P p l 0 = P := by simp [rowsTo]
theorem rowsTo_less (l : List FileD) (f : FileD) : rowsTo [] (isLess f) l l.length = filesLess l f := by simp [rowsTo, filesLess]
theorem rowsTo_all (l : List FileD) (f : FileD) : rowsTo (lessAnd l f) (isMore f) l l.length = filesPut l f := by simp [rowsTo, filesPut]
theorem filesLess_le (l : List FileD) (f : FileD) : (filesLess l f).length ≤ l.length := List.length_filter_le _ _
theorem lessAnd_length (l : List FileD) (f : FileD) : (lessAnd l f).length = (filesLess l f).length + 1 := by simp [lessAnd]

theorem less_total (a b : List UInt8) : Op.bytesLess b a = !(Op.bytesLess a b || a == b) := by
  induction a generalizing b with
  | nil => cases b <;> simp [Op.bytesLess]
  | cons x a ih =>
    cases b with
    | nil => simp [Op.bytesLess]
    | cons y b =>
      simp only [Op.bytesLess, ih b, List.cons_beq_cons]
      by_cases h1 : x < y
      · have h2 : ¬ y < x := fun h => by have := UInt8.lt_trans h1 h; exact absurd this (UInt8.lt_irrefl _)
        have h3 : (y == x) = false := beq_eq_false_iff_ne.2 fun e => by subst e; exact absurd h1 (UInt8.lt_irrefl _)
        simp [h1, h2, h3]
      · by_cases h2 : y < x
        · have h3 : (x == y) = false := beq_eq_false_iff_ne.2 fun e => by subst e; exact absurd h2 (UInt8.lt_irrefl _)
          simp [h1, h2, h3]
        · have e : x = y := UInt8.le_antisymm (UInt8.not_lt.1 h2) (UInt8.not_lt.1 h1)
          subst e
          simp [h1]

/-- four blocks laid one behind the other -/
theorem four_new (w : World) (o p q r : Obj) : Below w.heap.size w ((((w.alloc o).alloc p).alloc q).alloc r) ∧ ((((w.alloc o).alloc p).alloc q).alloc r).heap.size = w.heap.size + 4 ∧ ((((w.alloc o).alloc p).alloc q).alloc r).heap[w.heap.size]? = some o ∧ ((((w.alloc o).alloc p).alloc q).alloc r).heap[w.heap.size + 1]? = some p ∧ ((((w.alloc o).alloc p).alloc q).alloc r).heap[w.heap.size + 1 + 1]? = some q ∧ ((((w.alloc o).alloc p).alloc q).alloc r).heap[w.heap.size + 1 + 1 + 1]? = some r := by
  refine ⟨below_more (below_more (below_more (below_more (Below.refl _ w) _) _) _) _, ?_, ?_, ?_, ?_, ?_⟩
  · simp [World.alloc, -World.alloc_eq]
  · show ((((w.heap.push o).push p).push q).push r)[w.heap.size]? = some o
    rw [Array.getElem?_push, if_neg (by simp <;> omega), Array.getElem?_push, if_neg (by simp <;> omega), Array.getElem?_push, if_neg (by simp), Array.getElem?_push, if_pos (by simp)]
  · show ((((w.heap.push o).push p).push q).push r)[w.heap.size + 1]? = some p
    rw [Array.getElem?_push, if_neg (by simp <;> omega), Array.getElem?_push, if_neg (by simp), Array.getElem?_push, if_pos (by simp)]
  · show ((((w.heap.push o).push p).push q).push r)[w.heap.size + 1 + 1]? = some q
    rw [Array.getElem?_push, if_neg (by simp), Array.getElem?_push, if_pos (by simp)]
  · show ((((w.heap.push o).push p).push q).push r)[w.heap.size + 1 + 1 + 1]? = some r
    rw [Array.getElem?_push, if_pos (by simp)]

/-- what stands in memory while a file is put: the disk, the file, the answer, and what is made -/
def PutAt (w wr : World) (ao : Option Addr) (n cap : Nat) (f : FileD) (v : Value) : Prop :=
  BlockIs wr w.heap.size 26 [.slice ao n cap] ∧ BlockIs wr (w.heap.size + 1) 36 (fileEnc f) ∧ BlockIs wr (w.heap.size + 1 + 1) 26 [.slice none 0 0] ∧ BlockIs wr (w.heap.size + 1 + 1 + 1) 26 [v]

theorem PutAt.on {w wr w1 : World} {ao : Option Addr} {n cap : Nat} {f : FileD} {v : Value} (h : PutAt w wr ao n cap f v) (hk : ∀ j tj cs, j < w.heap.size + 4 → BlockIs wr j tj cs → BlockIs w1 j tj cs) (u : Value) :
    PutAt w (w1.setCell ⟨w.heap.size + 1 + 1 + 1, 0, none⟩ u) ao n cap f u :=
  ⟨(hk _ _ _ (by omega) h.1).far (by omega) _, (hk _ _ _ (by omega) h.2.1).far (by omega) _, (hk _ _ _ (by omega) h.2.2.1).far (by omega) _, (hk _ _ _ (by omega) h.2.2.2).set 0 u⟩

set_option maxRecDepth 1000000 in
set_option maxHeartbeats 2000000 in
theorem l03Put_any (ao : Option Addr) (l : List FileD) (cap : Nat) (f : FileD) (hl : l.length ≤ 1048576) (w : World) (ha : FilesAt w ao l) :
    Calls Try.prog 41 #[.agg #[.slice ao l.length cap], f.value] w fun e w' => ∃ v, e = .returned (.agg #[v]) ∧ w'.ownsRow w.heap.size 36 3 v (filesPut l f).length (fileCells (filesPut l f)) ∧ Below w.heap.size w w' := by
  obtain ⟨i0, hi, hz0, hz1, hz2⟩ := info_parts toFile_info
  have HA := hid ha
  have h4 := four_new w (.cells #[.slice ao l.length cap] 26) (.cells #[.string f.name, .string f.text, .int .i64 f.kept] 36) (.cells #[.slice none 0 0] 26) (.cells #[.slice none 0 0] 26)
  have H4 := hid h4
  clear h4 ha
  unfold FileD.value
  go_enter Try.func41, Try.ntmps41
  go_wp2
  go_loopg [6] l.length (fun q i wr => ∃ (k : Nat) (v : Value), k + q = l.length ∧ i = .int .i64 k ∧ Hid (Below w.heap.size w wr) ∧ Hid (PutAt w wr ao l.length cap f v) ∧ Hid (wr.ownsRow (w.heap.size + 4) 36 3 v (rowsTo ([] : List FileD) (isLess f) l k).length (fileCells (rowsTo ([] : List FileD) (isLess f) l k))))
  case atStart => exact ⟨0, .slice none 0 0, by omega, rfl, H4.out.1, ⟨H4.out.2.2.1, H4.out.2.2.2.1, H4.out.2.2.2.2.1, H4.out.2.2.2.2.2⟩, rfl, Or.inl ⟨rfl, rfl⟩⟩
  case round =>
    obtain ⟨k, v, hkg, rfl, BR, XR, OR⟩ := hrel
    clear H4
    have c0 := XR.out.1.cell (j := 0) rfl
    have c1 := XR.out.2.1.cell (j := 0) rfl
    have c1b := XR.out.2.1.cell (j := 1) rfl
    have c1c := XR.out.2.1.cell (j := 2) rfl
    have c2 := XR.out.2.2.1.cell (j := 0) rfl
    have c3 := XR.out.2.2.2.cell (j := 0) rfl
    have f2 := XR.out.2.2.1.thaw 0
    have f3 := XR.out.2.2.2.thaw 0
    have hw4 : w.heap.size + 4 ≤ wr.heap.size := by have := XR.out.2.2.2.lt; omega
    cases gk with
    | zero =>
      have hlt : ¬ (k : Int) < (l.length : Int) := by omega
      obtain rfl : k = l.length := by omega
      rw [rowsTo_less] at OR
      have hown := OR.out
      have hN := filesLess_le l f
      have hR := hid (fun w1 o (h2 : (wr.alloc o).grownBy w1 v.ownBlock) => behind_append (w := w) (w1 := w1) (o := o) (by omega) BR.out OR.out hw4 ⟨h2.os, h2.tape, h2.output, h2.size, h2.block⟩)
      clear OR
      go_wp2_with (at_builtin; refine wpList_append_own _ rfl (.tmp 36) (.tmp 38) 24 rfl (w.heap.size + 4) 36 i0 _ 3 40 Try.underlying24 hi hz0 hz1 hz2 rfl (by decide) _ _ _ rfl (hown.alloc _) ⟨wr.heap.size, 0, none⟩ 1 1 [.string f.name, .string f.text, .int .i64 f.kept] rfl rfl (World.news_of_block (cs := #[.string f.name, .string f.text, .int .i64 f.kept]) (t := 36) (fr := (0, 0)) (heap_alloc_new wr _)) (by simp [Value.oneCell']) (by unfold maxLen; omega) (by omega) (by simp; omega) ?_)
      intro v1 w1 hown1 hgrow _
      obtain ⟨va, vc, rfl⟩ := row_shape hown1
      obtain ⟨B1, hz1', hk1⟩ := hR.out w1 _ hgrow
      have y3 := (hk1 _ _ _ (Nat.lt_succ_self _) XR.out.2.2.2).cell (j := 0) rfl
      have z3 := (hk1 _ _ _ (Nat.lt_succ_self _) XR.out.2.2.2).thaw 0
      have HO : Hid ((w1.setCell ⟨w.heap.size + 1 + 1 + 1, 0, none⟩ (.slice va ((filesLess l f).length + 1) vc)).ownsRow (w.heap.size + 4) 36 3 (.slice va ((filesLess l f).length + 1) vc) (rowsTo (lessAnd l f) (isMore f) l 0).length (fileCells (rowsTo (lessAnd l f) (isMore f) l 0))) := by
        rw [rowsTo_zero, lessAnd_length, show fileCells (lessAnd l f) = fileCells (filesLess l f) ++ [.string f.name, .string f.text, .int .i64 f.kept] by simp [lessAnd, fileCells, fileEnc]]
        exact ownsRow_setCell_below hown1 (by show _ + 1 + 1 + 1 < _; omega) _
      have HX := hid (XR.out.on hk1 (.slice va ((filesLess l f).length + 1) vc))
      have HB := hid (B1.setCell (p := ⟨w.heap.size + 1 + 1 + 1, 0, none⟩) (by show _ ≤ _ + 1 + 1 + 1; omega) (.slice va ((filesLess l f).length + 1) vc))
      clear hown1 hgrow B1 hz1' hk1 hR hown XR BR c0 c1 c1b c1c c2 c3 f2 f3 hw4
      go_wp2
      clear y3 z3
      go_loopg [7] l.length (fun q i wr => ∃ (k : Nat) (v : Value), k + q = l.length ∧ i = .int .i64 k ∧ Hid (Below w.heap.size w wr) ∧ Hid (PutAt w wr ao l.length cap f v) ∧ Hid (wr.ownsRow (w.heap.size + 4) 36 3 v (rowsTo (lessAnd l f) (isMore f) l k).length (fileCells (rowsTo (lessAnd l f) (isMore f) l k))))
      case atStart => exact ⟨0, _, by omega, rfl, HB, HX, HO⟩
      case round =>
        obtain ⟨k, v, hkg, rfl, BR, XR, OR⟩ := hrel
        clear HO HX HB
        have c0 := XR.out.1.cell (j := 0) rfl
        have c1 := XR.out.2.1.cell (j := 0) rfl
        have c1b := XR.out.2.1.cell (j := 1) rfl
        have c1c := XR.out.2.1.cell (j := 2) rfl
        have c2 := XR.out.2.2.1.cell (j := 0) rfl
        have c3 := XR.out.2.2.2.cell (j := 0) rfl
        have f2 := XR.out.2.2.1.thaw 0
        have f3 := XR.out.2.2.2.thaw 0
        have hw4 : w.heap.size + 4 ≤ wr.heap.size := by have := XR.out.2.2.2.lt; omega
        cases gk with
        | zero =>
          have hlt : ¬ (k : Int) < (l.length : Int) := by omega
          obtain rfl : k = l.length := by omega
          rw [rowsTo_all] at OR
          obtain ⟨va, vc, rfl⟩ := row_shape OR.out
          have HO := hid (ownsRow_setCell_below (a := ⟨w.heap.size + 1 + 1, 0, none⟩) OR.out (by show _ + 1 + 1 < _; omega) (.slice va (filesPut l f).length vc))
          have HB := hid (BR.out.setCell (p := ⟨w.heap.size + 1 + 1, 0, none⟩) (by show _ ≤ _ + 1 + 1; omega) (.slice va (filesPut l f).length vc))
          clear OR BR XR
          go_wp2
          refine bodyPost_ret (v := .agg #[.slice va (filesPut l f).length vc]) (by simp [results, Try.results41, go_sem, c2]) rfl ⟨_, rfl, row_down HO.out (by omega), HB.out⟩
        | succ q =>
          have hlt : k < l.length := by omega
          have hlt' : (k : Int) < (l.length : Int) := by omega
          have hne : l ≠ [] := by intro e; rw [e] at hlt; simp at hlt
          obtain ⟨b, off, rfl, hc⟩ := HA.out.on BR.out hne
          obtain ⟨x0, x1, x2⟩ := hc k hlt
          clear hc
          have hst := rowsTo_step (lessAnd l f) (isMore f) l k hlt
          cases he : isMore f l[k] with
          | false =>
            rw [he, if_neg (by simp), List.append_nil] at hst
            rw [← hst] at OR
            have hlz : (Op.bytesLess l[k].name.toList f.name.toList || l[k].name.toList == f.name.toList) = true := by have h := less_total l[k].name.toList f.name.toList; rw [show Op.bytesLess f.name.toList l[k].name.toList = false from he] at h; simpa only [Bool.not_eq_false'] using h.symm
            clear hst he
            go_wp2
            go_quiet (fail)
            go_wp2
            go_roundg q
            case measure => omega
            case rel => exact ⟨k + 1, v, by omega, by go_num, below_drewN BR.out _, XR, OR⟩
          | true =>
            rw [he, if_pos rfl] at hst
            have hlz : (Op.bytesLess l[k].name.toList f.name.toList || l[k].name.toList == f.name.toList) = false := by have h := less_total l[k].name.toList f.name.toList; rw [show Op.bytesLess f.name.toList l[k].name.toList = true from he] at h; simpa using h.symm
            have hN := rowsTo_le (lessAnd l f) (isMore f) l k (by rw [lessAnd_length]; have := filesLess_le l f; omega)
            clear he
            go_wp2
            go_quiet (fail)
            go_wp2
            have BQ : Hid (Below w.heap.size w (wr.drewN nq)) := below_drewN BR.out _
            have XQ : Hid (PutAt w (wr.drewN nq) (some ⟨b, off, none⟩) l.length cap f v) := XR
            have OQ : Hid ((wr.drewN nq).ownsRow (w.heap.size + 4) 36 3 v (rowsTo (lessAnd l f) (isMore f) l k).length (fileCells (rowsTo (lessAnd l f) (isMore f) l k))) := OR
            have hwq : w.heap.size + 4 ≤ (wr.drewN nq).heap.size := hw4
            generalize wr.drewN nq = wq at BQ XQ OQ hwq ⊢
            clear BR XR OR hw4 c0 c1 c1b c1c c2 c3 f2 f3 x0 x1 x2
            obtain ⟨b', off', e', hc⟩ := HA.out.on BQ.out hne
            cases e'
            obtain ⟨x0, x1, x2⟩ := hc k hlt
            have c0 := XQ.out.1.cell (j := 0) rfl
            have c3 := XQ.out.2.2.2.cell (j := 0) rfl
            have f3 := XQ.out.2.2.2.thaw 0
            have hown := OQ.out
            have c3a : (wq.alloc (.cells #[.string l[k].name, .string l[k].text, .int .i64 l[k].kept] 36)).cell? ⟨w.heap.size + 1 + 1 + 1, 0, none⟩ = some v := ((below_more (Below.refl _ wq) _).cell (p := ⟨w.heap.size + 1 + 1 + 1, 0, none⟩) XQ.out.2.2.2.lt).trans c3
            have hR := hid (fun w1 o h2 => behind_append (w := w) (w1 := w1) (o := o) (by omega) BQ.out OQ.out hwq h2)
            clear hc hlz
            go_region_law (refine step_append_lies _ rfl (.tmp 58) (.tmp 64) 24 rfl (w.heap.size + 4) 36 i0 _ 3 40 Try.underlying24 hi hz0 hz1 hz2 rfl (by decide) _ (rowsTo (lessAnd l f) (isMore f) l k).length _ (by simp [Act.eval]) ((hown.alloc _).drew) ⟨wq.heap.size, 0, none⟩ 1 1 [.string l[k].name, .string l[k].text, .int .i64 l[k].kept] (by simp [Act.eval]) rfl (World.news_of_block (cs := #[.string l[k].name, .string l[k].text, .int .i64 l[k].kept]) (t := 36) (fr := (0, 0)) (heap_alloc_new wq _)) (by simp [Value.oneCell']) (by decide) (by unfold maxLen; omega) (by omega) (by simp; omega) (wq.heap.size + 1) (by simp) ?_; intro g1 cap1 w1 hown1 hgrow hat hlt1; obtain ⟨B1, hz1', hk1⟩ := hR.out w1 _ hgrow; have y3 := (hk1 _ _ _ (Nat.lt_succ_self _) XQ.out.2.2.2).cell (j := 0) rfl; have z3 := (hk1 _ _ _ (Nat.lt_succ_self _) XQ.out.2.2.2).thaw 0)
            all_goals
              have hfc : fileCells (rowsTo (lessAnd l f) (isMore f) l (k + 1)) = fileCells (rowsTo (lessAnd l f) (isMore f) l k) ++ [.string l[k].name, .string l[k].text, .int .i64 l[k].kept] := by
                rw [hst]; simp [fileCells, fileEnc]
              have hfl : (rowsTo (lessAnd l f) (isMore f) l (k + 1)).length = (rowsTo (lessAnd l f) (isMore f) l k).length + 1 := by rw [hst]; simp
              have HO : Hid ((w1.setCell ⟨w.heap.size + 1 + 1 + 1, 0, none⟩ (.slice (some ⟨g1, 0, none⟩) ((rowsTo (lessAnd l f) (isMore f) l k).length + 1) cap1)).ownsRow (w.heap.size + 4) 36 3 (.slice (some ⟨g1, 0, none⟩) ((rowsTo (lessAnd l f) (isMore f) l k).length + 1) cap1) (rowsTo (lessAnd l f) (isMore f) l (k + 1)).length (fileCells (rowsTo (lessAnd l f) (isMore f) l (k + 1)))) := by
                rw [hfc, hfl]
                exact ownsRow_setCell_below hown1 (by show _ + 1 + 1 + 1 < _; omega) _
              have HX := hid (XQ.out.on hk1 (.slice (some ⟨g1, 0, none⟩) ((rowsTo (lessAnd l f) (isMore f) l k).length + 1) cap1))
              have HB := hid (B1.setCell (p := ⟨w.heap.size + 1 + 1 + 1, 0, none⟩) (by show _ ≤ _ + 1 + 1 + 1; omega) (.slice (some ⟨g1, 0, none⟩) ((rowsTo (lessAnd l f) (isMore f) l k).length + 1) cap1))
              clear hown1 hgrow hat hlt1 B1 hz1' hk1 y3 z3 c3a hR hown OQ XQ BQ c0 c3 f3 x0 x1 x2 hfc hfl hst
              go_wp2
              go_roundg q
              case measure => omega
              case rel => exact ⟨k + 1, _, by omega, by go_num, HB, HX, HO⟩
    | succ q =>
      have hlt : k < l.length := by omega
      have hlt' : (k : Int) < (l.length : Int) := by omega
      have hne : l ≠ [] := by intro e; rw [e] at hlt; simp at hlt
      obtain ⟨b, off, rfl, hc⟩ := HA.out.on BR.out hne
      obtain ⟨x0, x1, x2⟩ := hc k hlt
      clear hc
      have hst := rowsTo_step ([] : List FileD) (isLess f) l k hlt
      cases he : isLess f l[k] with
      | false =>
        rw [he, if_neg (by simp), List.append_nil] at hst
        rw [← hst] at OR
        have hlz : Op.bytesLess l[k].name.toList f.name.toList = false := he
        clear hst he
        go_wp2
        go_quiet (fail)
        go_wp2
        go_roundg q
        case measure => omega
        case rel => exact ⟨k + 1, v, by omega, by go_num, below_drewN BR.out _, XR, OR⟩
      | true =>
        rw [he, if_pos rfl] at hst
        have hlz : Op.bytesLess l[k].name.toList f.name.toList = true := he
        have hN := rowsTo_le ([] : List FileD) (isLess f) l k (by simp)
        clear he
        go_wp2
        go_quiet (fail)
        go_wp2
        have BQ : Hid (Below w.heap.size w (wr.drewN nq)) := below_drewN BR.out _
        have XQ : Hid (PutAt w (wr.drewN nq) (some ⟨b, off, none⟩) l.length cap f v) := XR
        have OQ : Hid ((wr.drewN nq).ownsRow (w.heap.size + 4) 36 3 v (rowsTo ([] : List FileD) (isLess f) l k).length (fileCells (rowsTo ([] : List FileD) (isLess f) l k))) := OR
        have hwq : w.heap.size + 4 ≤ (wr.drewN nq).heap.size := hw4
        generalize wr.drewN nq = wq at BQ XQ OQ hwq ⊢
        clear BR XR OR hw4 c0 c1 c1b c1c c2 c3 f2 f3 x0 x1 x2
        obtain ⟨b', off', e', hc⟩ := HA.out.on BQ.out hne
        cases e'
        obtain ⟨x0, x1, x2⟩ := hc k hlt
        have c0 := XQ.out.1.cell (j := 0) rfl
        have c3 := XQ.out.2.2.2.cell (j := 0) rfl
        have f3 := XQ.out.2.2.2.thaw 0
        have hown := OQ.out
        have c3a : (wq.alloc (.cells #[.string l[k].name, .string l[k].text, .int .i64 l[k].kept] 36)).cell? ⟨w.heap.size + 1 + 1 + 1, 0, none⟩ = some v := ((below_more (Below.refl _ wq) _).cell (p := ⟨w.heap.size + 1 + 1 + 1, 0, none⟩) XQ.out.2.2.2.lt).trans c3
        have hR := hid (fun w1 o h2 => behind_append (w := w) (w1 := w1) (o := o) (by omega) BQ.out OQ.out hwq h2)
        clear hc hlz
        go_region_law (refine step_append_lies _ rfl (.tmp 26) (.tmp 32) 24 rfl (w.heap.size + 4) 36 i0 _ 3 40 Try.underlying24 hi hz0 hz1 hz2 rfl (by decide) _ (rowsTo ([] : List FileD) (isLess f) l k).length _ (by simp [Act.eval]) ((hown.alloc _).drew) ⟨wq.heap.size, 0, none⟩ 1 1 [.string l[k].name, .string l[k].text, .int .i64 l[k].kept] (by simp [Act.eval]) rfl (World.news_of_block (cs := #[.string l[k].name, .string l[k].text, .int .i64 l[k].kept]) (t := 36) (fr := (0, 0)) (heap_alloc_new wq _)) (by simp [Value.oneCell']) (by decide) (by unfold maxLen; omega) (by omega) (by simp; omega) (wq.heap.size + 1) (by simp) ?_; intro g1 cap1 w1 hown1 hgrow hat hlt1; obtain ⟨B1, hz1', hk1⟩ := hR.out w1 _ hgrow; have y3 := (hk1 _ _ _ (Nat.lt_succ_self _) XQ.out.2.2.2).cell (j := 0) rfl; have z3 := (hk1 _ _ _ (Nat.lt_succ_self _) XQ.out.2.2.2).thaw 0)
        all_goals
          have hfc : fileCells (rowsTo ([] : List FileD) (isLess f) l (k + 1)) = fileCells (rowsTo ([] : List FileD) (isLess f) l k) ++ [.string l[k].name, .string l[k].text, .int .i64 l[k].kept] := by
            rw [hst]; simp [fileCells, fileEnc]
          have hfl : (rowsTo ([] : List FileD) (isLess f) l (k + 1)).length = (rowsTo ([] : List FileD) (isLess f) l k).length + 1 := by rw [hst]; simp
          have HO : Hid ((w1.setCell ⟨w.heap.size + 1 + 1 + 1, 0, none⟩ (.slice (some ⟨g1, 0, none⟩) ((rowsTo ([] : List FileD) (isLess f) l k).length + 1) cap1)).ownsRow (w.heap.size + 4) 36 3 (.slice (some ⟨g1, 0, none⟩) ((rowsTo ([] : List FileD) (isLess f) l k).length + 1) cap1) (rowsTo ([] : List FileD) (isLess f) l (k + 1)).length (fileCells (rowsTo ([] : List FileD) (isLess f) l (k + 1)))) := by
            rw [hfc, hfl]
            exact ownsRow_setCell_below hown1 (by show _ + 1 + 1 + 1 < _; omega) _
          have HX := hid (XQ.out.on hk1 (.slice (some ⟨g1, 0, none⟩) ((rowsTo ([] : List FileD) (isLess f) l k).length + 1) cap1))
          have HB := hid (B1.setCell (p := ⟨w.heap.size + 1 + 1 + 1, 0, none⟩) (by show _ ≤ _ + 1 + 1 + 1; omega) (.slice (some ⟨g1, 0, none⟩) ((rowsTo ([] : List FileD) (isLess f) l k).length + 1) cap1))
          clear hown1 hgrow hat hlt1 B1 hz1' hk1 y3 z3 c3a hR hown OQ XQ BQ c0 c3 f3 x0 x1 x2 hfc hfl hst
          go_wp2
          go_roundg q
          case measure => omega
          case rel => exact ⟨k + 1, _, by omega, by go_num, HB, HX, HO⟩
end Go.Proofs.Ytfkknmhokiacaaa

namespace Go.Proofs.Ytfkknmhokiacaaa
open Go.RowKit

/-- the files of another name -/
def filesNot (l : List FileD) (name : ByteArray) : List FileD := l.filter fun f => !(f.name.toList == name.toList)

theorem filesNot_step (l : List FileD) (name : ByteArray) (k : Nat) (hk : k < l.length) :
    filesNot (l.take (k + 1)) name = filesNot (l.take k) name ++ (if (l[k].name.toList == name.toList) = true then [] else [l[k]]) := by
  rw [List.take_succ_eq_append_getElem hk, filesNot, filesNot, List.filter_append]
  cases h : (l[k].name.toList == name.toList) <;> simp [h]
theorem filesNot_le (l : List FileD) (name : ByteArray) (k : Nat) : (filesNot (l.take k) name).length ≤ l.length := by
  refine Nat.le_trans (List.length_filter_le _ _) ?_
  simp; omega

set_option maxRecDepth 1000000 in
set_option maxHeartbeats 1000000 in
theorem l03Without_any (ao : Option Addr) (l : List FileD) (cap : Nat) (name : ByteArray) (hl : l.length ≤ 1048576) (w : World) (ha : FilesAt w ao l) :
    Calls Try.prog 60 #[.agg #[.slice ao l.length cap], .string name] w fun e w' => ∃ v, e = .returned (.agg #[v]) ∧ w'.ownsRow w.heap.size 36 3 v (filesNot l name).length (fileCells (filesNot l name)) ∧ Below w.heap.size w w' := by
  obtain ⟨i0, hi, hz0, hz1, hz2⟩ := info_parts toFile_info
  have HA := hid ha
  have h3 := three_new w (.cells #[.slice ao l.length cap] 26) (.cells #[.slice none 0 0] 26) (.cells #[.slice none 0 0] 26)
  have hx0 : BlockIs (((w.alloc (.cells #[.slice ao l.length cap] 26)).alloc (.cells #[.slice none 0 0] 26)).alloc (.cells #[.slice none 0 0] 26)) w.heap.size 26 [.slice ao l.length cap] := by
    have a1 : BlockIs (w.alloc (.cells #[.slice ao l.length cap] 26)) w.heap.size 26 [.slice ao l.length cap] := heap_alloc_new w _
    exact (a1.on (below_more (Below.refl _ _) _) a1.lt).on (below_more (Below.refl _ _) _) (by simp [World.alloc, -World.alloc_eq]; omega)
  have H3 := hid (And.intro h3 hx0)
  clear h3 hx0 ha
  go_enter Try.func60, Try.ntmps60
  go_wp2
  go_loopg [6] l.length (fun q i wr => ∃ (k : Nat) (v : Value), k + q = l.length ∧ i = .int .i64 k ∧ Hid (Below w.heap.size w wr) ∧ Hid (BlockIs wr w.heap.size 26 [.slice ao l.length cap] ∧ BlockIs wr (w.heap.size + 1) 26 [.slice none 0 0] ∧ BlockIs wr (w.heap.size + 1 + 1) 26 [v]) ∧ Hid (wr.ownsRow (w.heap.size + 3) 36 3 v (filesNot (l.take k) name).length (fileCells (filesNot (l.take k) name))))
  case atStart => exact ⟨0, .slice none 0 0, by omega, rfl, H3.out.1.1, ⟨H3.out.2, H3.out.1.2.2.1, H3.out.1.2.2.2⟩, rfl, Or.inl ⟨rfl, rfl⟩⟩
  case round =>
    obtain ⟨k, v, hkg, rfl, BR, XR, OR⟩ := hrel
    clear H3
    have c0 := XR.out.1.cell (j := 0) rfl
    have c1 := XR.out.2.1.cell (j := 0) rfl
    have c2 := XR.out.2.2.cell (j := 0) rfl
    have f1 := XR.out.2.1.thaw 0
    have f2 := XR.out.2.2.thaw 0
    cases gk with
    | zero =>
      have hlt : ¬ (k : Int) < (l.length : Int) := by omega
      obtain rfl : k = l.length := by omega
      rw [List.take_length] at OR
      obtain ⟨va, vc, rfl⟩ := row_shape OR.out
      have HO := hid (ownsRow_setCell_below (a := ⟨w.heap.size + 1, 0, none⟩) OR.out (by show _ + 1 < _; omega) (.slice va (filesNot l name).length vc))
      have HB := hid (BR.out.setCell (p := ⟨w.heap.size + 1, 0, none⟩) (by show _ ≤ _ + 1; omega) (.slice va (filesNot l name).length vc))
      clear OR BR XR
      go_wp2
      refine bodyPost_ret (v := .agg #[.slice va (filesNot l name).length vc]) (by simp [results, Try.results60, go_sem, c1]) rfl ⟨_, rfl, row_down HO.out (by omega), HB.out⟩
    | succ q =>
      have hlt : k < l.length := by omega
      have hlt' : (k : Int) < (l.length : Int) := by omega
      have hne : l ≠ [] := by intro e; rw [e] at hlt; simp at hlt
      obtain ⟨b, off, rfl, hc⟩ := HA.out.on BR.out hne
      obtain ⟨x0, x1, x2⟩ := hc k hlt
      clear hc
      cases he : (l[k].name.toList == name.toList) with
      | true =>
        have hst := filesNot_step l name k hlt
        rw [he, if_pos rfl, List.append_nil] at hst
        rw [← hst] at OR
        clear hst
        go_wp2
        go_roundg q
        case measure => omega
        case rel => exact ⟨k + 1, v, by omega, by go_num, BR, XR, OR⟩
      | false =>
        have hst := filesNot_step l name k hlt
        rw [he] at hst
        go_wp2
        have hown := OR.out
        have hN := filesNot_le l name k
        have hw3 : w.heap.size + 3 ≤ wr.heap.size := by have := XR.out.2.2.lt; omega
        have hR := hid (fun w1 o h2 => behind_append (w := w) (w1 := w1) (o := o) (by omega) BR.out OR.out hw3 h2)
        have c2a : (wr.alloc (.cells #[.string l[k].name, .string l[k].text, .int .i64 l[k].kept] 36)).cell? ⟨w.heap.size + 1 + 1, 0, none⟩ = some v := ((below_more (Below.refl _ wr) _).cell (p := ⟨w.heap.size + 1 + 1, 0, none⟩) XR.out.2.2.lt).trans c2
        go_region_law (refine step_append_lies _ rfl (.tmp 24) (.tmp 30) 24 rfl (w.heap.size + 3) 36 i0 _ 3 40 Try.underlying24 hi hz0 hz1 hz2 rfl (by decide) _ (filesNot (l.take k) name).length _ (by simp [Act.eval]) ((hown.alloc _).drew) ⟨wr.heap.size, 0, none⟩ 1 1 [.string l[k].name, .string l[k].text, .int .i64 l[k].kept] (by simp [Act.eval]) rfl (World.news_of_block (cs := #[.string l[k].name, .string l[k].text, .int .i64 l[k].kept]) (t := 36) (fr := (0, 0)) (heap_alloc_new wr _)) (by simp [Value.oneCell']) (by decide) (by unfold maxLen; omega) (by omega) (by simp; omega) (wr.heap.size + 1) (by simp) ?_; intro g1 cap1 w1 hown1 hgrow hat hlt1; obtain ⟨B1, hz1', hk1⟩ := hR.out w1 _ hgrow; have y2 := (hk1 _ _ _ (Nat.lt_succ_self _) XR.out.2.2).cell (j := 0) rfl; have z2 := (hk1 _ _ _ (Nat.lt_succ_self _) XR.out.2.2).thaw 0)
        all_goals
          have hfc : fileCells (filesNot (l.take (k + 1)) name) = fileCells (filesNot (l.take k) name) ++ [.string l[k].name, .string l[k].text, .int .i64 l[k].kept] := by
            rw [hst]; simp [fileCells, fileEnc]
          have hfl : (filesNot (l.take (k + 1)) name).length = (filesNot (l.take k) name).length + 1 := by rw [hst]; simp
          have HO : Hid ((w1.setCell ⟨w.heap.size + 1 + 1, 0, none⟩ (.slice (some ⟨g1, 0, none⟩) ((filesNot (l.take k) name).length + 1) cap1)).ownsRow (w.heap.size + 3) 36 3 (.slice (some ⟨g1, 0, none⟩) ((filesNot (l.take k) name).length + 1) cap1) (filesNot (l.take (k + 1)) name).length (fileCells (filesNot (l.take (k + 1)) name))) := by
            rw [hfc, hfl]
            exact ownsRow_setCell_below hown1 (by show _ + 1 + 1 < _; omega) _
          have HX := hid (And.intro ((hk1 _ _ _ (by omega) XR.out.1).far (b := w.heap.size + 1 + 1) (j := 0) (by omega) (.slice (some ⟨g1, 0, none⟩) ((filesNot (l.take k) name).length + 1) cap1)) (And.intro ((hk1 _ _ _ (by omega) XR.out.2.1).far (b := w.heap.size + 1 + 1) (j := 0) (by omega) (.slice (some ⟨g1, 0, none⟩) ((filesNot (l.take k) name).length + 1) cap1)) ((hk1 _ _ _ (by omega) XR.out.2.2).set 0 (.slice (some ⟨g1, 0, none⟩) ((filesNot (l.take k) name).length + 1) cap1))))
          have HB := hid (B1.setCell (p := ⟨w.heap.size + 1 + 1, 0, none⟩) (by show _ ≤ _ + 1 + 1; omega) (.slice (some ⟨g1, 0, none⟩) ((filesNot (l.take k) name).length + 1) cap1))
          clear hown1 hgrow hat hlt1 B1 hz1' hk1 y2 z2 c2a hR hown OR XR BR c0 c1 c2 f1 f2 x0 x1 x2 hfc hfl hst he
          go_wp2
          go_roundg q
          case measure => omega
          case rel => exact ⟨k + 1, _, by omega, by go_num, HB, HX, HO⟩
end Go.Proofs.Ytfkknmhokiacaaa

namespace Go.Proofs.Ytfkknmhokiacaaa
open Go.RowKit

/-- the first file of a name -/
def FirstAt (l : List FileD) (name : ByteArray) (k : Nat) : Prop := ∃ hk : k < l.length, l[k].name = name ∧ ∀ j (hj : j < k), l[j].name ≠ name
def NoneAt (l : List FileD) (name : ByteArray) : Prop := ∀ j (hj : j < l.length), l[j].name ≠ name

/-- what FileAt answers -/
def FileAns (l : List FileD) (name T : ByteArray) (ok : Bool) : Prop :=
  (∃ (k : Nat) (hk : k < l.length), FirstAt l name k ∧ T = l[k].text ∧ ok = true) ∨ (NoneAt l name ∧ T = ByteArray.empty ∧ ok = false)
theorem FirstAt.same {l : List FileD} {name : ByteArray} {j k : Nat} (h : FirstAt l name j) (h2 : FirstAt l name k) : j = k := by
  obtain ⟨a, b, c⟩ := h
  obtain ⟨a2, b2, c2⟩ := h2
  rcases Nat.lt_trichotomy j k with q | q | q
  · exact absurd b (c2 j q)
  · exact q
  · exact absurd b2 (c k q)
theorem FileAns.same {l : List FileD} {name T T' : ByteArray} {ok ok' : Bool} (h : FileAns l name T ok) (h2 : FileAns l name T' ok') : T = T' ∧ ok = ok' := by
  rcases h with ⟨k, hk, f, rfl, rfl⟩ | ⟨n, rfl, rfl⟩
  · rcases h2 with ⟨k2, hk2, f2, rfl, rfl⟩ | ⟨n2, rfl, rfl⟩
    · have := f.same f2
      subst this
      exact ⟨rfl, rfl⟩
    · exact absurd f.2.1 (n2 k hk)
  · rcases h2 with ⟨k2, hk2, f2, rfl, rfl⟩ | ⟨n2, rfl, rfl⟩
    · exact absurd f2.2.1 (n k2 hk2)
    · exact ⟨rfl, rfl⟩

theorem text_eq {s t : ByteArray} (h : s.toList = t.toList) : s = t := by
  rw [ByteArray.toList_eq, ByteArray.toList_eq] at h
  exact ByteArray.ext (Array.toList_inj.1 h)

set_option maxRecDepth 1000000 in
set_option maxHeartbeats 1000000 in
theorem l03At_any (ao : Option Addr) (l : List FileD) (cap : Nat) (name : ByteArray) (hl : l.length ≤ 1048576) (w : World) (ha : FilesAt w ao l) :
    Calls Try.prog 59 #[.agg #[.slice ao l.length cap], .string name] w fun e w' => ((∃ k : Nat, FirstAt l name k ∧ e = .returned (.int .i64 k)) ∨ (NoneAt l name ∧ e = .returned (.int .i64 (-1)))) ∧ Below w.heap.size w w' := by
  have HA := hid ha
  have HB := hid (below_more (Below.refl w.heap.size w) (.cells #[.slice ao l.length cap] 26))
  have HX := (show Hid (BlockIs (w.alloc (.cells #[.slice ao l.length cap] 26)) w.heap.size 26 [.slice ao l.length cap]) from heap_alloc_new w _)
  have c0 := HX.out.cell (j := 0) rfl
  clear ha
  obtain ⟨W, hW⟩ : ∃ W, w.alloc (.cells #[.slice ao l.length cap] 26) = W := ⟨_, rfl⟩
  rw [hW] at HB HX c0
  go_enter Try.func59, Try.ntmps59
  go_wp2
  clear hW
  go_loopg [5] l.length (fun q i wr => wr = W ∧ ∃ (k : Nat), k + q = l.length ∧ i = .int .i64 k ∧ Hid (∀ j (hj : j < l.length), j < k → l[j].name ≠ name))
  case atStart => exact ⟨rfl, 0, by omega, rfl, fun j hj h => by omega⟩
  case round =>
    obtain ⟨rfl, k, hkg, rfl, HN⟩ := hrel
    cases gk with
    | zero =>
      have hlt : ¬ (k : Int) < (l.length : Int) := by omega
      go_wp2
      go_ret
      exact ⟨Or.inr ⟨fun j hj => HN.out j hj (by omega), rfl⟩, HB.out⟩
    | succ q =>
      have hlt : k < l.length := by omega
      have hlt' : (k : Int) < (l.length : Int) := by omega
      have hne : l ≠ [] := by intro e; rw [e] at hlt; simp at hlt
      obtain ⟨b, off, rfl, hc⟩ := HA.out.on HB.out hne
      obtain ⟨x0, x1, x2⟩ := hc k hlt
      clear hc x1 x2
      by_cases he : l[k].name = name
      · have he' : (l[k].name.toList == name.toList) = true := by rw [he]; simp
        have HE := hid he
        clear he
        go_wp2
        go_ret
        exact ⟨Or.inl ⟨k, ⟨hlt, HE.out, fun j hj => HN.out j (by omega) hj⟩, rfl⟩, HB.out⟩
      · have he' : (l[k].name.toList == name.toList) = false := beq_eq_false_iff_ne.2 fun h => he (text_eq h)
        have HE := hid he
        clear he
        go_wp2
        go_roundg q
        case measure => omega
        case rel =>
          refine ⟨rfl, k + 1, by omega, by go_num, fun j hj h => ?_⟩
          rcases Nat.lt_or_ge j k with q | q
          · exact HN.out j hj q
          · obtain rfl : j = k := by omega
            exact HE.out
end Go.Proofs.Ytfkknmhokiacaaa

namespace Go.Proofs.Ytfkknmhokiacaaa
open Go.RowKit

/-- numbers lie at an address, one behind the other -/
def IntsAt (w : World) (ao : Option Addr) (zs : List Int) : Prop := zs ≠ [] → ∃ b off, ao = some ⟨b, off, none⟩ ∧ ∀ j (hj : j < zs.length), w.cell? ⟨b, off + j, none⟩ = some (.int .i64 zs[j])
theorem IntsAt.on {w w' : World} {ao : Option Addr} {zs : List Int} (h : IntsAt w ao zs) (hb : Below w.heap.size w w') : IntsAt w' ao zs := by
  intro h0
  obtain ⟨b, off, e1, e2⟩ := h h0
  exact ⟨b, off, e1, fun j hj => (hb.cell (p := ⟨b, off + j, none⟩) (World.block_lt_of_cell? w _ (e2 j hj))).trans (e2 j hj)⟩
/-- numbers in their cells -/
def intCells (zs : List Int) : List Value := zs.map (Value.int .i64)
theorem intsAt_of {w : World} {g : Nat} {t : TypeId} {zs : List Int} {r : List Value} (h : BlockIs w g t (intCells zs ++ r)) : IntsAt w (some ⟨g, 0, none⟩) zs := by
  intro _
  refine ⟨g, 0, rfl, fun j hj => ?_⟩
  rw [Nat.zero_add]
  refine h.cell ?_
  rw [List.getElem?_append_left (by simpa [intCells] using hj)]
  simp [intCells, hj]
/-- a cell of a list, written -/
theorem set_one (p : List Value) (a x : Value) (r : List Value) : (p ++ x :: r).set p.length a = p ++ a :: r := by
  rw [List.set_append_right _ _ (Nat.le_refl _)]
  simp
end Go.Proofs.Ytfkknmhokiacaaa

namespace Go.Proofs.Ytfkknmhokiacaaa
open Go.RowKit

/-- how much is left of a file -/
def leftOf (f : FileD) (n : Int) : Int := if (if (f.text.size : Int) < n then (f.text.size : Int) else n) < f.kept then f.kept else (if (f.text.size : Int) < n then (f.text.size : Int) else n)
def lostOf (f : FileD) (n : Int) : FileD := ⟨f.name, f.text.extract 0 (leftOf f n).toNat, leftOf f n⟩
def loseTo (l : List FileD) (zs : List Int) : Nat → List FileD
  | 0 => []
  | k + 1 => loseTo l zs k ++ match l[k]? with
    | none => []
    | some f => [lostOf f (zs.getD k 0)]
theorem loseTo_step {l : List FileD} {zs : List Int} {k : Nat} (hk : k < l.length) : loseTo l zs (k + 1) = loseTo l zs k ++ [lostOf l[k] (zs.getD k 0)] := by
  rw [loseTo, List.getElem?_eq_getElem hk]
theorem loseTo_length {l : List FileD} {zs : List Int} {k : Nat} (hk : k ≤ l.length) : (loseTo l zs k).length = k := by
  induction k with
  | zero => rfl
  | succ k ih => rw [loseTo_step (by omega), List.length_append, ih (by omega)]; rfl
theorem diskOk_kept {l : List FileD} (h : diskOk l = true) {k : Nat} (hk : k < l.length) : 0 ≤ l[k].kept ∧ l[k].kept ≤ l[k].text.size ∧ l[k].text.size ≤ 20000 := by
  rw [diskOk, Bool.and_eq_true] at h
  have h2 := rightTo_down h.2 (show k + 1 ≤ l.length by omega)
  rw [rightTo_step hk] at h2
  simp only [Bool.and_eq_true, fileOk, within, decide_eq_true_eq] at h2
  omega
/-- a right disk is small -/
theorem diskOk_small {l : List FileD} (h : diskOk l = true) : ∀ f ∈ l, f.name.size ≤ 1048576 ∧ f.text.size ≤ 1048576 := by
  intro f hf
  obtain ⟨k, hk, rfl⟩ := List.getElem_of_mem hf
  rw [diskOk, Bool.and_eq_true] at h
  have h2 := rightTo_down h.2 (show k + 1 ≤ l.length by omega)
  rw [rightTo_step hk] at h2
  simp only [Bool.and_eq_true, fileOk, nameOk, within, decide_eq_true_eq] at h2
  omega
end Go.Proofs.Ytfkknmhokiacaaa

namespace Go.Proofs.Ytfkknmhokiacaaa
open Go.RowKit

theorem textLt_eq (s t : ByteArray) : textLt s t = decide (s.toList < t.toList) := bytesLess_eq _ _
theorem textLt_iff {s t : ByteArray} : textLt s t = true ↔ s.toList < t.toList := by rw [textLt_eq]; simp
theorem lt_tri (a b : List UInt8) : a < b ∨ a = b ∨ b < a := by
  rcases Decidable.em (a < b) with h | h
  · exact Or.inl h
  · rcases Decidable.em (b < a) with h2 | h2
    · exact Or.inr (Or.inr h2)
    · exact Or.inr (Or.inl (List.le_antisymm (List.not_lt.1 h2) (List.not_lt.1 h)))

/-- names ascend -/
def Asc (l : List FileD) : Prop := l.Pairwise fun f g => f.name.toList < g.name.toList
theorem rightTo_iff {l : List FileD} : ∀ k, k ≤ l.length → (rightTo l k = true ↔ ∀ j (hj : j < l.length), j < k → fileOk l[j] = true ∧ behind l j l[j] = true)
  | 0, _ => by simp [rightTo]
  | k + 1, hk => by
    rw [rightTo_step (show k < l.length by omega), Bool.and_eq_true, Bool.and_eq_true, rightTo_iff k (by omega)]
    constructor
    · rintro ⟨h, h2⟩ j hj hjk
      rcases Nat.lt_or_ge j k with q | q
      · exact h j hj q
      · obtain rfl : j = k := by omega
        exact h2
    · exact fun h => ⟨fun j hj hjk => h j hj (by omega), h k (by omega) (by omega)⟩
theorem diskOk_iff {l : List FileD} : diskOk l = true ↔ l.length ≤ 30 ∧ (∀ f ∈ l, fileOk f = true) ∧ Asc l := by
  rw [diskOk, Bool.and_eq_true, rightTo_iff l.length (Nat.le_refl _), decide_eq_true_eq]
  refine and_congr_right fun _ => ⟨fun h => ⟨fun f hf => ?_, ?_⟩, fun ⟨h1, h2⟩ j hj _ => ⟨h1 _ (List.getElem_mem hj), ?_⟩⟩
  · obtain ⟨j, hj, rfl⟩ := List.getElem_of_mem hf
    exact (h j hj hj).1
  · rw [Asc, List.pairwise_iff_getElem]
    intro i j hi hj hij
    induction j with
    | zero => omega
    | succ j ih =>
      have hb := (h (j + 1) hj hj).2
      rw [behind_step hj, textLt_iff] at hb
      rcases Nat.lt_or_ge i j with q | q
      · exact List.lt_trans (ih (by omega) q) hb
      · obtain rfl : i = j := by omega
        exact hb
  · cases j with
    | zero => rfl
    | succ j =>
      rw [behind_step hj, textLt_iff]
      exact (List.pairwise_iff_getElem.1 h2) j (j + 1) (by omega) hj (by omega)

theorem name_ne {f g : FileD} : f.name ≠ g.name ↔ (f.name.toList < g.name.toList ∨ g.name.toList < f.name.toList) := by
  constructor
  · intro h
    rcases lt_tri f.name.toList g.name.toList with q | q | q
    · exact Or.inl q
    · exact absurd (text_eq q) h
    · exact Or.inr q
  · rintro (h | h) e
    · rw [e] at h; exact List.lt_irrefl _ h
    · rw [e] at h; exact List.lt_irrefl _ h
theorem mem_put {l : List FileD} {f g : FileD} : g ∈ filesPut l f ↔ g = f ∨ (g ∈ l ∧ g.name ≠ f.name) := by
  rw [name_ne]
  simp only [filesPut, lessAnd, filesLess, List.mem_append, List.mem_filter, isLess, isMore, textLt_iff, List.mem_singleton]
  constructor
  · rintro ((h | h) | h)
    · exact Or.inr ⟨h.1, Or.inl h.2⟩
    · exact Or.inl h
    · exact Or.inr ⟨h.1, Or.inr h.2⟩
  · rintro (h | ⟨h, (q | q)⟩)
    · exact Or.inl (Or.inr h)
    · exact Or.inl (Or.inl ⟨h, q⟩)
    · exact Or.inr ⟨h, q⟩
theorem mem_not {l : List FileD} {x : ByteArray} {g : FileD} : g ∈ filesNot l x ↔ g ∈ l ∧ g.name ≠ x := by
  simp only [filesNot, List.mem_filter, Bool.not_eq_true', beq_eq_false_iff_ne]
  exact and_congr_right fun _ => ⟨fun h e => h (by rw [e]), fun h e => h (text_eq e)⟩
theorem asc_put {l : List FileD} (h : Asc l) (f : FileD) : Asc (filesPut l f) := by
  unfold Asc filesPut lessAnd filesLess
  rw [List.pairwise_append, List.pairwise_append]
  refine ⟨⟨h.filter _, by simp, ?_⟩, h.filter _, ?_⟩
  · intro a ha b hb
    rw [List.mem_singleton] at hb
    rw [hb]
    exact textLt_iff.1 (List.mem_filter.1 ha).2
  · intro a ha b hb
    have hb2 := textLt_iff.1 (List.mem_filter.1 hb).2
    rw [List.mem_append, List.mem_singleton] at ha
    rcases ha with ha | rfl
    · exact List.lt_trans (textLt_iff.1 (List.mem_filter.1 ha).2) hb2
    · exact hb2
theorem asc_not {l : List FileD} (h : Asc l) (x : ByteArray) : Asc (filesNot l x) := h.filter _
theorem put_length (l : List FileD) (f : FileD) : (filesPut l f).length = (filesNot l f.name).length + 1 := by
  simp only [filesPut, lessAnd, filesLess, List.length_append, List.length_singleton, filesNot]
  suffices hs : (l.filter (isLess f)).length + (l.filter (isMore f)).length = (l.filter fun g => !(g.name.toList == f.name.toList)).length by omega
  induction l with
  | nil => rfl
  | cons g l ih =>
    rcases lt_tri g.name.toList f.name.toList with q | q | q
    · have a1 : isLess f g = true := textLt_iff.2 q
      have a2 : ¬ isMore f g = true := fun h => List.lt_irrefl _ (List.lt_trans q (textLt_iff.1 h))
      have a3 : (!(g.name.toList == f.name.toList)) = true := by
        rw [Bool.not_eq_true', beq_eq_false_iff_ne]; intro e; rw [e] at q; exact List.lt_irrefl _ q
      rw [List.filter_cons_of_pos a1, List.filter_cons_of_neg a2, List.filter_cons_of_pos (p := fun g : FileD => !(g.name.toList == f.name.toList)) a3, List.length_cons, List.length_cons]
      omega
    · have a1 : ¬ isLess f g = true := fun h => by have := textLt_iff.1 h; rw [q] at this; exact List.lt_irrefl _ this
      have a2 : ¬ isMore f g = true := fun h => by have := textLt_iff.1 h; rw [q] at this; exact List.lt_irrefl _ this
      have a3 : ¬ (!(g.name.toList == f.name.toList)) = true := by rw [q]; simp
      rw [List.filter_cons_of_neg a1, List.filter_cons_of_neg a2, List.filter_cons_of_neg (p := fun g : FileD => !(g.name.toList == f.name.toList)) a3]
      exact ih
    · have a1 : isMore f g = true := textLt_iff.2 q
      have a2 : ¬ isLess f g = true := fun h => List.lt_irrefl _ (List.lt_trans q (textLt_iff.1 h))
      have a3 : (!(g.name.toList == f.name.toList)) = true := by
        rw [Bool.not_eq_true', beq_eq_false_iff_ne]; intro e; rw [e] at q; exact List.lt_irrefl _ q
      rw [List.filter_cons_of_pos a1, List.filter_cons_of_neg a2, List.filter_cons_of_pos (p := fun g : FileD => !(g.name.toList == f.name.toList)) a3, List.length_cons, List.length_cons]
      omega
theorem not_all {l : List FileD} {x : ByteArray} (h : ∀ f ∈ l, f.name ≠ x) : filesNot l x = l := by
  rw [filesNot, List.filter_eq_self]
  intro f hf
  rw [Bool.not_eq_true', beq_eq_false_iff_ne]
  exact fun e => h f hf (text_eq e)
theorem not_length {l : List FileD} {x : ByteArray} (h : Asc l) (hx : ∃ f ∈ l, f.name = x) : (filesNot l x).length + 1 = l.length := by
  induction l with
  | nil => obtain ⟨f, hf, _⟩ := hx; cases hf
  | cons g l ih =>
    rw [Asc, List.pairwise_cons] at h
    by_cases e : g.name = x
    · have : filesNot (g :: l) x = l := by
        have h2 : filesNot l x = l := not_all fun f hf ef => by have := h.1 f hf; rw [e, ef] at this; exact List.lt_irrefl _ this
        unfold filesNot at h2 ⊢
        rw [List.filter_cons, e]
        simpa using h2
      rw [this]
      rfl
    · obtain ⟨f, hf, rfl⟩ := hx
      rcases List.mem_cons.1 hf with q | q
      · subst q; exact absurd rfl e
      · have h3 : (g.name.toList == f.name.toList) = false := by rw [beq_eq_false_iff_ne]; exact fun q => e (text_eq q)
        have := ih h.2 ⟨f, q, rfl⟩
        unfold filesNot at this ⊢
        rw [List.filter_cons, h3]
        simp only [Bool.not_false, if_true, List.length_cons]
        omega

/-- the first file of a name -/
def foundOf (l : List FileD) (s : ByteArray) : Option FileD := l.find? fun f => f.name.toList == s.toList
theorem found_none {l : List FileD} {s : ByteArray} (h : NoneAt l s) : foundOf l s = none := by
  rw [foundOf, List.find?_eq_none]
  intro f hf
  obtain ⟨j, hj, rfl⟩ := List.getElem_of_mem hf
  simp only [beq_iff_eq]
  exact fun e => h j hj (text_eq e)
theorem found_some {l : List FileD} {s : ByteArray} {k : Nat} (h : FirstAt l s k) : foundOf l s = some (l[k]'h.1) := by
  obtain ⟨hk, he, hn⟩ := h
  rw [foundOf, List.find?_eq_some_iff_getElem]
  refine ⟨by rw [he]; simp, k, hk, rfl, fun j hj => ?_⟩
  rw [Bool.not_eq_true', beq_eq_false_iff_ne]
  exact fun e => hn j hj (text_eq e)
theorem found_mem {l : List FileD} {s : ByteArray} {f : FileD} (h : foundOf l s = some f) : f ∈ l ∧ f.name = s := by
  rw [foundOf] at h
  refine ⟨List.mem_of_find?_eq_some h, ?_⟩
  have := List.find?_some h
  exact text_eq (by simpa using this)
theorem found_not {l : List FileD} {s : ByteArray} (h : foundOf l s = none) : ∀ f ∈ l, f.name ≠ s := by
  rw [foundOf, List.find?_eq_none] at h
  intro f hf e
  have := h f hf
  rw [e] at this
  simp at this

/-- no letter -/
def blank (s : ByteArray) : Bool := s.toList == []
def actOk (l : List FileD) (a : ActD) : Bool := diskOk l && nameOk a.name && (a.kind == 3 || blank a.to) && (a.kind == 1 || blank a.text)
/-- what an act would leave -/
def doTry (l : List FileD) (a : ActD) : Option (List FileD) :=
  if a.kind = 1 then some (filesPut l ⟨a.name, ((foundOf l a.name).getD ⟨a.name, ByteArray.empty, 0⟩).text ++ a.text, ((foundOf l a.name).getD ⟨a.name, ByteArray.empty, 0⟩).kept⟩)
  else match foundOf l a.name with
    | none => none
    | some f => if a.kind = 2 then some (filesPut l ⟨f.name, f.text, f.text.size⟩)
      else if a.kind = 3 then (if (decide (f.kept < f.text.size) || a.to.toList == a.name.toList || !nameOk a.to) = true then none else some (filesPut (filesNot l a.name) ⟨a.to, f.text, f.kept⟩))
      else if a.kind = 4 then some (filesNot l a.name) else none
def doAct (l : List FileD) (a : ActD) : Option (List FileD) :=
  if actOk l a = true then (match doTry l a with
    | none => none
    | some o => if diskOk o = true then some o else none) else none
theorem doAct_right {l o : List FileD} {a : ActD} (h : doAct l a = some o) : diskOk o = true := by
  unfold doAct at h
  split at h
  · split at h
    · cases h
    · split at h
      · cases h; assumption
      · cases h
  · cases h
def doAns (l : List FileD) (a : ActD) : List FileD × Bool := match doAct l a with
  | none => ([], false)
  | some o => (o, true)
end Go.Proofs.Ytfkknmhokiacaaa

namespace Go.Proofs.Ytfkknmhokiacaaa
open Go.RowKit

/-- acts lie at an address, one behind the other -/
def ActsAt (w : World) (ao : Option Addr) (acts : List ActD) : Prop :=
  acts ≠ [] → ∃ b off, ao = some ⟨b, off, none⟩ ∧ ∀ j (hj : j < acts.length), w.cell? ⟨b, off + j * 4, none⟩ = some (.int .i64 acts[j].kind) ∧ w.cell? ⟨b, off + j * 4 + 1, none⟩ = some (.string acts[j].name) ∧ w.cell? ⟨b, off + j * 4 + 2, none⟩ = some (.string acts[j].text) ∧ w.cell? ⟨b, off + j * 4 + 3, none⟩ = some (.string acts[j].to)
theorem ActsAt.on {w w' : World} {ao : Option Addr} {acts : List ActD} (h : ActsAt w ao acts) (hb : Below w.heap.size w w') : ActsAt w' ao acts := by
  intro h0
  obtain ⟨b, off, e1, e2⟩ := h h0
  refine ⟨b, off, e1, fun j hj => ?_⟩
  obtain ⟨x, y, z, u⟩ := e2 j hj
  exact ⟨(hb.cell (p := ⟨b, off + j * 4, none⟩) (World.block_lt_of_cell? w _ x)).trans x, (hb.cell (p := ⟨b, off + j * 4 + 1, none⟩) (World.block_lt_of_cell? w _ y)).trans y, (hb.cell (p := ⟨b, off + j * 4 + 2, none⟩) (World.block_lt_of_cell? w _ z)).trans z, (hb.cell (p := ⟨b, off + j * 4 + 3, none⟩) (World.block_lt_of_cell? w _ u)).trans u⟩
def ActsSmall (acts : List ActD) : Prop := ∀ a ∈ acts, a.name.size ≤ 1048576 ∧ a.text.size ≤ 1048576 ∧ a.to.size ≤ 1048576
/-- what the first k acts leave, if all are true -/
def doTo (l : List FileD) (acts : List ActD) : Nat → Option (List FileD)
  | 0 => some l
  | k + 1 => (doTo l acts k).bind fun o => match acts[k]? with
    | none => none
    | some a => doAct o a
theorem doTo_step {l o : List FileD} {acts : List ActD} {k : Nat} (hk : k < acts.length) (h : doTo l acts k = some o) : doTo l acts (k + 1) = doAct o acts[k] := by
  rw [doTo, h, Option.bind_some, List.getElem?_eq_getElem hk]
theorem doTo_right {l o : List FileD} {acts : List ActD} (hd : diskOk l = true) : ∀ {k : Nat}, doTo l acts k = some o → diskOk o = true
  | 0, h => by cases h; exact hd
  | k + 1, h => by
    rw [doTo] at h
    obtain ⟨o', _, h2⟩ := Option.bind_eq_some_iff.1 h
    split at h2
    · cases h2
    · exact doAct_right h2
theorem doAct_wrong {l : List FileD} {a : ActD} (hd : diskOk l = false) : doAct l a = none := by
  rw [doAct, if_neg (by simp [actOk, hd])]
/-- what DoActs answers -/
def DidActs (w : World) (l : List FileD) (acts : List ActD) (OK : World → List FileD → Option Addr → Prop) (e : Ending) (w' : World) : Prop :=
  ∃ (i : Nat) (o : List FileD) (va : Option Addr) (vc : Nat), e = .returned (.tuple #[.agg #[.slice va o.length vc], .int .i64 i]) ∧ (doTo l acts i = some o ∧ i ≤ acts.length ∧ (i = acts.length ∨ doTo l acts (i + 1) = none)) ∧ OK w' o va ∧ Below w.heap.size w w'
end Go.Proofs.Ytfkknmhokiacaaa

namespace Go.Proofs.Ytfkknmhokiacaaa
open Go.RowKit Go.Sort

def actCells (acts : List ActD) : List Value := acts.flatMap actEnc
theorem actCells_length (acts : List ActD) : (actCells acts).length = acts.length * 4 := row_length actEnc 4 (fun _ => rfl) acts
theorem actCells_take (acts : List ActD) (k : Nat) (h : k < acts.length) : actCells (acts.take (k + 1)) = actCells (acts.take k) ++ actEnc acts[k] := by
  rw [List.take_succ_eq_append_getElem h, actCells, actCells, List.flatMap_append]
  simp
def actBulk : List ActD → Int
  | [] => 0
  | a :: r => a.bulk + actBulk r
theorem bulk_nonneg (a : ActD) : 0 ≤ a.bulk := by unfold ActD.bulk; omega
theorem actBulk_nonneg (acts : List ActD) : 0 ≤ actBulk acts := by
  induction acts with
  | nil => exact Int.le_refl 0
  | cons a r ih => simp only [actBulk]; have := bulk_nonneg a; omega
theorem actBulk_take (acts : List ActD) (k : Nat) (h : k < acts.length) : actBulk (acts.take (k + 1)) = actBulk (acts.take k) + acts[k].bulk := by
  induction acts generalizing k with
  | nil => simp at h
  | cons a r ih =>
    cases k with
    | zero => simp [actBulk]
    | succ k =>
      have := ih k (by simpa using h)
      simp only [List.take_succ_cons, actBulk, List.getElem_cons_succ] at this ⊢
      omega
theorem actBulk_le (acts : List ActD) (k : Nat) : actBulk (acts.take k) ≤ actBulk acts := by
  induction acts generalizing k with
  | nil => simp [actBulk]
  | cons a r ih =>
    cases k with
    | zero => have := actBulk_nonneg (a :: r); simpa [actBulk] using this
    | succ k => have := ih k; simp only [List.take_succ_cons, actBulk]; omega
theorem act_le_bulk {acts : List ActD} {a : ActD} (h : a ∈ acts) : a.bulk ≤ actBulk acts := by
  induction acts with
  | nil => cases h
  | cons g r ih =>
    simp only [actBulk]
    have := actBulk_nonneg r
    have := bulk_nonneg g
    rcases List.mem_cons.1 h with e | e
    · subst e; omega
    · have := ih e; omega
theorem actsSmall {l : List FileD} {acts : List ActD} (h : 0 ≤ (1048576 : Int) - l.length - fileBulk l) (h2 : 0 ≤ (1048576 : Int) - l.length - fileBulk l - acts.length - actBulk acts) : acts.length ≤ 1048576 ∧ ActsSmall acts := by
  have := fileBulk_nonneg l
  have := actBulk_nonneg acts
  refine ⟨by omega, fun a ha => ?_⟩
  have := act_le_bulk ha
  unfold ActD.bulk at this
  omega
theorem actsAt_of {w : World} {g : Nat} {t : TypeId} {acts : List ActD} {r : List Value} (h : BlockIs w g t (actCells acts ++ r)) : ActsAt w (some ⟨g, 0, none⟩) acts := by
  intro _
  refine ⟨g, 0, rfl, fun j hj => ?_⟩
  rw [Nat.zero_add]
  exact ⟨h.cell (row_at actEnc 4 (fun _ => rfl) acts r j 0 hj (by omega)), h.cell (row_at actEnc 4 (fun _ => rfl) acts r j 1 hj (by omega)), h.cell (row_at actEnc 4 (fun _ => rfl) acts r j 2 hj (by omega)), h.cell (row_at actEnc 4 (fun _ => rfl) acts r j 3 hj (by omega))⟩
theorem acts_of {w : World} {g : Nat} {t : TypeId} {acts : List ActD} (h : BlockIs w g t (actCells acts)) : ActsAt w (some ⟨g, 0, none⟩) acts := actsAt_of (r := []) (by rw [List.append_nil]; exact h)
def ActsFit (acts : List ActD) : Prop := ∀ j (hj : j < acts.length), acts[j].Fits

set_option maxRecDepth 1000000 in
set_option maxHeartbeats 1000000 in
theorem szActS_any (ao : Option Addr) (acts : List ActD) (cap : Nat) (n : Int) (h0 : 0 ≤ n) (h1 : n ≤ 1048576) (hl : acts.length ≤ 9223372036854775807) (hf : ActsFit acts) (w : World) (ha : ActsAt w ao acts) :
    Calls Try.prog 31 #[.slice ao acts.length cap, .int .i64 n] w fun e w' => ((n - acts.length - actBulk acts < 0 ∧ e = .returned (.int .i64 (-1))) ∨ (0 ≤ n - acts.length - actBulk acts ∧ e = .returned (.int .i64 (n - acts.length - actBulk acts)))) ∧ Below w.heap.size w w' := by
  have HA := hid ha
  have HF := hid hf
  have HN := actBulk_nonneg acts
  clear ha hf
  by_cases hn : n - (acts.length : Int) < 0
  · go_enter Try.func31, Try.ntmps31
    go_wp2
    go_ret
    exact ⟨Or.inl ⟨by omega, rfl⟩, Below.refl _ _⟩
  · go_enter Try.func31, Try.ntmps31
    go_wp2
    go_loopg [1, 5] acts.length (fun g y i wr => ∃ (k : Nat), k + g = acts.length ∧ i = .int .i64 k ∧ y = .int .i64 (n - acts.length - actBulk (acts.take k)) ∧ 0 ≤ n - acts.length - actBulk (acts.take k) ∧ Hid (Below w.heap.size w wr))
    case atStart => exact ⟨0, by omega, rfl, by simp [actBulk], by simp [actBulk]; omega, (show Below _ _ _ from Below.refl _ _)⟩
    case round =>
      obtain ⟨k, hkg, rfl, rfl, hpos, BR⟩ := hrel
      cases gk with
      | zero =>
        have hlt : ¬ (k : Int) < (acts.length : Int) := by omega
        rw [List.take_of_length_le (by omega)] at hpos ⊢
        go_wp2
        go_ret
        exact ⟨Or.inr ⟨by omega, rfl⟩, BR.out⟩
      | succ g =>
        have hlt : k < acts.length := by omega
        have hlt' : (k : Int) < (acts.length : Int) := by omega
        obtain ⟨b, off, rfl, hc⟩ := HA.out.on BR.out (by intro e; rw [e] at hlt; simp at hlt)
        obtain ⟨x0, x1, x2, x3⟩ := hc k hlt
        clear hc
        have C := hid (szAct_any acts[k] (n - acts.length - actBulk (acts.take k)) hpos (by have := actBulk_nonneg (acts.take k); omega) (HF.out k hlt))
        have hstep := actBulk_take acts k hlt
        have hmore := actBulk_le acts (k + 1)
        unfold ActD.value at C
        rw [show n - (acts.length : Int) - actBulk (acts.take k) - acts[k].bulk = n - acts.length - actBulk (acts.take (k + 1)) by omega] at C
        have HS : Hid (actBulk (acts.take (k + 1)) ≤ actBulk acts) := hmore
        clear hstep hmore
        go_wp2_with fail
        refine (C.out _).mono ?_
        rintro e w1 ⟨(⟨hneg, rfl⟩ | ⟨hnn, rfl⟩), b1⟩
        · have B1 := hid (BR.out.trans (b1.mono BR.out.size))
          have hL : n - (acts.length : Int) - actBulk acts < 0 := by have := HS.out; omega
          clear b1 C
          go_wp2
          go_ret
          exact ⟨Or.inl ⟨hL, rfl⟩, B1.out⟩
        · have B1 := hid (BR.out.trans (b1.mono BR.out.size))
          clear b1 C
          go_wp2
          go_roundg g
          case measure => omega
          case rel => exact ⟨k + 1, by omega, by go_num, rfl, hnn, B1⟩

set_option maxRecDepth 1000000 in
theorem eqAct_same (a : ActD) (w : World) :
    Calls Try.prog 65 #[a.value, a.value] w fun e w' => e = .returned (.bool true) ∧ Below w.heap.size w w' := by
  have hb : Hid (∀ (o p : Obj), Below w.heap.size w ((w.alloc o).alloc p)) := fun o p => below_more (below_more (Below.refl _ w) _) _
  unfold ActD.value
  go_enter Try.func65, Try.ntmps65
  go_wp2
  go_ret
  exact ⟨rfl, hb.out _ _⟩

set_option maxRecDepth 1000000 in
set_option maxHeartbeats 1000000 in
theorem eqActS_same (ao bo : Option Addr) (acts : List ActD) (cap cap' : Nat) (hl : acts.length ≤ 140737488355328) (w : World) (ha : ActsAt w ao acts) (hb : ActsAt w bo acts) :
    Calls Try.prog 34 #[.slice ao acts.length cap, .slice bo acts.length cap'] w fun e w' => e = .returned (.bool true) ∧ Below w.heap.size w w' := by
  have HA := hid ha
  have HB := hid hb
  clear ha hb
  go_enter Try.func34, Try.ntmps34
  go_wp2
  go_loopg [5] acts.length (fun g i wr => ∃ (k : Nat), k + g = acts.length ∧ i = .int .i64 k ∧ Hid (Below w.heap.size w wr))
  case atStart => exact ⟨0, by omega, rfl, (show Below _ _ _ from Below.refl _ _)⟩
  case round =>
    obtain ⟨k, hkg, rfl, BR⟩ := hrel
    cases gk with
    | zero =>
      have hlt : ¬ (k : Int) < (acts.length : Int) := by omega
      go_wp2
      go_ret
      exact ⟨rfl, BR.out⟩
    | succ g =>
      have hlt : k < acts.length := by omega
      have hlt' : (k : Int) < (acts.length : Int) := by omega
      have hne : acts ≠ [] := by intro e; rw [e] at hlt; simp at hlt
      obtain ⟨b, off, rfl, hc⟩ := HA.out.on BR.out hne
      obtain ⟨x0, x1, x2, x3⟩ := hc k hlt
      obtain ⟨b', off', rfl, hc'⟩ := HB.out.on BR.out hne
      obtain ⟨y0, y1, y2, y3⟩ := hc' k hlt
      have X0 := cell_regrown x0
      have X1 := cell_regrown x1
      have X2 := cell_regrown x2
      have X3 := cell_regrown x3
      have Y0 := cell_regrown y0
      have Y1 := cell_regrown y1
      have Y2 := cell_regrown y2
      have Y3 := cell_regrown y3
      clear hc hc' x0 x1 x2 x3 y0 y1 y2 y3
      have C' := fun d os => Calls.regrown_of (w := wr) (d := d) (os := os) (eqAct_same acts[k] _)
      unfold ActD.value at C'
      have C := hid C'
      clear C'
      go_wp2
      refine wp_region_quiet_below (by kernel_rfl) (by kernel_rfl) ?_
      repeat (first | go_big_quiet_step (first | (go_at_call 65; exact C.out _ _) | fail) | quiet_step (first | (go_at_call 65; exact C.out _ _) | fail))
      refine wpQuiet_nil ?_
      intro _ hw'
      obtain ⟨⟨dq, osq⟩, hw''⟩ := hw'
      subst hw''
      have BQ : Hid (Below w.heap.size w (grow (redrawn wr dq) osq)) := BR.out.trans ((below_regrown wr dq osq).mono BR.out.size)
      generalize grow (redrawn wr dq) osq = wq at BQ ⊢
      clear X0 X1 X2 X3 Y0 Y1 Y2 Y3 C
      go_wp2
      go_roundg g
      case measure => omega
      case rel => exact ⟨k + 1, by omega, by go_num, BQ⟩
end Go.Proofs.Ytfkknmhokiacaaa
