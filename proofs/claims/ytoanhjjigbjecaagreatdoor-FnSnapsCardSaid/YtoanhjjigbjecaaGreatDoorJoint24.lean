/-
  The walk of spec.l03Without: a disk without the files of a name.
  The walk of spec.l03At: where the first file of a name is.
-/
import Derived.Test.YtoanhjjigbjecaaGreatDoorJoint1
import Derived.Laws.Cover1
import Derived.Deep.RegionLaw
import Derived.Deep.AppendLies
namespace Go.Proofs.YtoanhjjigbjecaaGreatDoor
open Go.RowKit

/-- the files of another name -/
def filesNot (l : List FileD) (name : ByteArray) : List FileD := l.filter fun f => !(f.name.toList == name.toList)

theorem filesNot_step (l : List FileD) (name : ByteArray) (k : Nat) (hk : k < l.length) :
    filesNot (l.take (k + 1)) name = filesNot (l.take k) name ++ (if (l[k].name.toList == name.toList) = true then [] else [l[k]]) := by
  rw [List.take_succ_eq_append_getElem hk, filesNot, filesNot, List.filter_append]
  cases h : (l[k].name.toList == name.toList) <;> simp [h]
theorem filesNot_le (l : List FileD) (name : ByteArray) (k : Nat) : (filesNot (l.take k) name).length ≤ l.length := by
  refine Nat.le_trans (List.length_filter_le _ _) ?_
  simp; omega

set_option maxRecDepth 1000000 in
set_option maxHeartbeats 1000000 in
theorem l03Without_any (ao : Option Addr) (l : List FileD) (cap : Nat) (name : ByteArray) (hl : l.length ≤ 1048576) (w : World) (ha : FilesAt w ao l) :
    Calls Tryz.prog 75 #[.agg #[.slice ao l.length cap], .string name] w fun e w' => ∃ v, e = .returned (.agg #[v]) ∧ w'.ownsRow w.heap.size 61 3 v (filesNot l name).length (fileCells (filesNot l name)) ∧ Below w.heap.size w w' := by
  obtain ⟨i0, hi, hz0, hz1, hz2⟩ := info_parts toFile_info
  have HA := hid ha
  have h3 := three_new w (.cells #[.slice ao l.length cap] 26) (.cells #[.slice none 0 0] 26) (.cells #[.slice none 0 0] 26)
  have hx0 : BlockIs (((w.alloc (.cells #[.slice ao l.length cap] 26)).alloc (.cells #[.slice none 0 0] 26)).alloc (.cells #[.slice none 0 0] 26)) w.heap.size 26 [.slice ao l.length cap] := by
    have a1 : BlockIs (w.alloc (.cells #[.slice ao l.length cap] 26)) w.heap.size 26 [.slice ao l.length cap] := heap_alloc_new w _
    exact (a1.on (below_more (Below.refl _ _) _) a1.lt).on (below_more (Below.refl _ _) _) (by simp [World.alloc, -World.alloc_eq]; omega)
  have H3 := hid (And.intro h3 hx0)
  clear h3 hx0 ha
  go_enter Tryz.func75, Tryz.ntmps75
  go_wp2
  go_loopg [6] l.length (fun q i wr => ∃ (k : Nat) (v : Value), k + q = l.length ∧ i = .int .i64 k ∧ Hid (Below w.heap.size w wr) ∧ Hid (BlockIs wr w.heap.size 26 [.slice ao l.length cap] ∧ BlockIs wr (w.heap.size + 1) 26 [.slice none 0 0] ∧ BlockIs wr (w.heap.size + 1 + 1) 26 [v]) ∧ Hid (wr.ownsRow (w.heap.size + 3) 61 3 v (filesNot (l.take k) name).length (fileCells (filesNot (l.take k) name))))
  case atStart => exact ⟨0, .slice none 0 0, by omega, rfl, H3.out.1.1, ⟨H3.out.2, H3.out.1.2.2.1, H3.out.1.2.2.2⟩, rfl, Or.inl ⟨rfl, rfl⟩⟩
  case round =>
    obtain ⟨k, v, hkg, rfl, BR, XR, OR⟩ := hrel
    clear H3
    have c0 := XR.out.1.cell (j := 0) rfl
    have c1 := XR.out.2.1.cell (j := 0) rfl
    have c2 := XR.out.2.2.cell (j := 0) rfl
    have f1 := XR.out.2.1.thaw 0
    have f2 := XR.out.2.2.thaw 0
    cases gk with
    | zero =>
      have hlt : ¬ (k : Int) < (l.length : Int) := by omega
      obtain rfl : k = l.length := by omega
      rw [List.take_length] at OR
      obtain ⟨va, vc, rfl⟩ := row_shape OR.out
      have HO := hid (ownsRow_setCell_below (a := ⟨w.heap.size + 1, 0, none⟩) OR.out (by show _ + 1 < _; omega) (.slice va (filesNot l name).length vc))
      have HB := hid (BR.out.setCell (p := ⟨w.heap.size + 1, 0, none⟩) (by show _ ≤ _ + 1; omega) (.slice va (filesNot l name).length vc))
      clear OR BR XR
      go_wp2
      refine bodyPost_ret (v := .agg #[.slice va (filesNot l name).length vc]) (by simp [results, Tryz.results75, go_sem, c1]) rfl ⟨_, rfl, row_down HO.out (by omega), HB.out⟩
    | succ q =>
      have hlt : k < l.length := by omega
      have hlt' : (k : Int) < (l.length : Int) := by omega
      have hne : l ≠ [] := by intro e; rw [e] at hlt; simp at hlt
      obtain ⟨b, off, rfl, hc⟩ := HA.out.on BR.out hne
      obtain ⟨x0, x1, x2⟩ := hc k hlt
      clear hc
      cases he : (l[k].name.toList == name.toList) with
      | true =>
        have hst := filesNot_step l name k hlt
        rw [he, if_pos rfl, List.append_nil] at hst
        rw [← hst] at OR
        clear hst
        go_wp2
        go_roundg q
        case measure => omega
        case rel => exact ⟨k + 1, v, by omega, by go_num, BR, XR, OR⟩
      | false =>
        have hst := filesNot_step l name k hlt
        rw [he] at hst
        go_wp2
        have hown := OR.out
        have hN := filesNot_le l name k
        have hw3 : w.heap.size + 3 ≤ wr.heap.size := by have := XR.out.2.2.lt; omega
        have hR := hid (fun w1 o h2 => behind_append (w := w) (w1 := w1) (o := o) (by omega) BR.out OR.out hw3 h2)
        have c2a : (wr.alloc (.cells #[.string l[k].name, .string l[k].text, .int .i64 l[k].kept] 61)).cell? ⟨w.heap.size + 1 + 1, 0, none⟩ = some v := ((below_more (Below.refl _ wr) _).cell (p := ⟨w.heap.size + 1 + 1, 0, none⟩) XR.out.2.2.lt).trans c2
        go_region_law (refine step_append_lies _ rfl (.tmp 24) (.tmp 30) 24 rfl (w.heap.size + 3) 61 i0 _ 3 40 Tryz.underlying24 hi hz0 hz1 hz2 rfl (by decide) _ (filesNot (l.take k) name).length _ (by simp [Act.eval]) ((hown.alloc _).drew) ⟨wr.heap.size, 0, none⟩ 1 1 [.string l[k].name, .string l[k].text, .int .i64 l[k].kept] (by simp [Act.eval]) rfl (World.news_of_block (cs := #[.string l[k].name, .string l[k].text, .int .i64 l[k].kept]) (t := 61) (fr := (0, 0)) (heap_alloc_new wr _)) (by simp [Value.oneCell']) (by decide) (by unfold maxLen; omega) (by omega) (by simp; omega) (wr.heap.size + 1) (by simp) ?_; intro g1 cap1 w1 hown1 hgrow hat hlt1; obtain ⟨B1, hz1', hk1⟩ := hR.out w1 _ hgrow; have y2 := (hk1 _ _ _ (Nat.lt_succ_self _) XR.out.2.2).cell (j := 0) rfl; have z2 := (hk1 _ _ _ (Nat.lt_succ_self _) XR.out.2.2).thaw 0)
        all_goals
          have hfc : fileCells (filesNot (l.take (k + 1)) name) = fileCells (filesNot (l.take k) name) ++ [.string l[k].name, .string l[k].text, .int .i64 l[k].kept] := by
            rw [hst]; simp [fileCells, fileEnc]
          have hfl : (filesNot (l.take (k + 1)) name).length = (filesNot (l.take k) name).length + 1 := by rw [hst]; simp
          have HO : Hid ((w1.setCell ⟨w.heap.size + 1 + 1, 0, none⟩ (.slice (some ⟨g1, 0, none⟩) ((filesNot (l.take k) name).length + 1) cap1)).ownsRow (w.heap.size + 3) 61 3 (.slice (some ⟨g1, 0, none⟩) ((filesNot (l.take k) name).length + 1) cap1) (filesNot (l.take (k + 1)) name).length (fileCells (filesNot (l.take (k + 1)) name))) := by
            rw [hfc, hfl]
            exact ownsRow_setCell_below hown1 (by show _ + 1 + 1 < _; omega) _
          have HX := hid (And.intro ((hk1 _ _ _ (by omega) XR.out.1).far (b := w.heap.size + 1 + 1) (j := 0) (by omega) (.slice (some ⟨g1, 0, none⟩) ((filesNot (l.take k) name).length + 1) cap1)) (And.intro ((hk1 _ _ _ (by omega) XR.out.2.1).far (b := w.heap.size + 1 + 1) (j := 0) (by omega) (.slice (some ⟨g1, 0, none⟩) ((filesNot (l.take k) name).length + 1) cap1)) ((hk1 _ _ _ (by omega) XR.out.2.2).set 0 (.slice (some ⟨g1, 0, none⟩) ((filesNot (l.take k) name).length + 1) cap1))))
          have HB := hid (B1.setCell (p := ⟨w.heap.size + 1 + 1, 0, none⟩) (by show _ ≤ _ + 1 + 1; omega) (.slice (some ⟨g1, 0, none⟩) ((filesNot (l.take k) name).length + 1) cap1))
          clear hown1 hgrow hat hlt1 B1 hz1' hk1 y2 z2 c2a hR hown OR XR BR c0 c1 c2 f1 f2 x0 x1 x2 hfc hfl hst he
          go_wp2
          go_roundg q
          case measure => omega
          case rel => exact ⟨k + 1, _, by omega, by go_num, HB, HX, HO⟩
end Go.Proofs.YtoanhjjigbjecaaGreatDoor

namespace Go.Proofs.YtoanhjjigbjecaaGreatDoor
open Go.RowKit

/-- the first file of a name -/
def FirstAt (l : List FileD) (name : ByteArray) (k : Nat) : Prop := ∃ hk : k < l.length, l[k].name = name ∧ ∀ j (hj : j < k), l[j].name ≠ name
def NoneAt (l : List FileD) (name : ByteArray) : Prop := ∀ j (hj : j < l.length), l[j].name ≠ name

/-- what FileAt answers -/
def FileAns (l : List FileD) (name T : ByteArray) (ok : Bool) : Prop :=
  (∃ (k : Nat) (hk : k < l.length), FirstAt l name k ∧ T = l[k].text ∧ ok = true) ∨ (NoneAt l name ∧ T = ByteArray.empty ∧ ok = false)
theorem FirstAt.same {l : List FileD} {name : ByteArray} {j k : Nat} (h : FirstAt l name j) (h2 : FirstAt l name k) : j = k := by
  obtain ⟨a, b, c⟩ := h
  obtain ⟨a2, b2, c2⟩ := h2
  rcases Nat.lt_trichotomy j k with q | q | q
  · exact absurd b (c2 j q)
  · exact q
  · exact absurd b2 (c k q)
theorem FileAns.same {l : List FileD} {name T T' : ByteArray} {ok ok' : Bool} (h : FileAns l name T ok) (h2 : FileAns l name T' ok') : T = T' ∧ ok = ok' := by
  rcases h with ⟨k, hk, f, rfl, rfl⟩ | ⟨n, rfl, rfl⟩
  · rcases h2 with ⟨k2, hk2, f2, rfl, rfl⟩ | ⟨n2, rfl, rfl⟩
    · have := f.same f2
      subst this
      exact ⟨rfl, rfl⟩
    · exact absurd f.2.1 (n2 k hk)
  · rcases h2 with ⟨k2, hk2, f2, rfl, rfl⟩ | ⟨n2, rfl, rfl⟩
    · exact absurd f2.2.1 (n k2 hk2)
    · exact ⟨rfl, rfl⟩

theorem text_eq {s t : ByteArray} (h : s.toList = t.toList) : s = t := by
  rw [ByteArray.toList_eq, ByteArray.toList_eq] at h
  exact ByteArray.ext (Array.toList_inj.1 h)

set_option maxRecDepth 1000000 in
set_option maxHeartbeats 1000000 in
theorem l03At_any (ao : Option Addr) (l : List FileD) (cap : Nat) (name : ByteArray) (hl : l.length ≤ 1048576) (w : World) (ha : FilesAt w ao l) :
    Calls Tryz.prog 74 #[.agg #[.slice ao l.length cap], .string name] w fun e w' => ((∃ k : Nat, FirstAt l name k ∧ e = .returned (.int .i64 k)) ∨ (NoneAt l name ∧ e = .returned (.int .i64 (-1)))) ∧ Below w.heap.size w w' := by
  have HA := hid ha
  have HB := hid (below_more (Below.refl w.heap.size w) (.cells #[.slice ao l.length cap] 26))
  have HX := (show Hid (BlockIs (w.alloc (.cells #[.slice ao l.length cap] 26)) w.heap.size 26 [.slice ao l.length cap]) from heap_alloc_new w _)
  have c0 := HX.out.cell (j := 0) rfl
  clear ha
  obtain ⟨W, hW⟩ : ∃ W, w.alloc (.cells #[.slice ao l.length cap] 26) = W := ⟨_, rfl⟩
  rw [hW] at HB HX c0
  go_enter Tryz.func74, Tryz.ntmps74
  go_wp2
  clear hW
  go_loopg [5] l.length (fun q i wr => wr = W ∧ ∃ (k : Nat), k + q = l.length ∧ i = .int .i64 k ∧ Hid (∀ j (hj : j < l.length), j < k → l[j].name ≠ name))
  case atStart => exact ⟨rfl, 0, by omega, rfl, fun j hj h => by omega⟩
  case round =>
    obtain ⟨rfl, k, hkg, rfl, HN⟩ := hrel
    cases gk with
    | zero =>
      have hlt : ¬ (k : Int) < (l.length : Int) := by omega
      go_wp2
      go_ret
      exact ⟨Or.inr ⟨fun j hj => HN.out j hj (by omega), rfl⟩, HB.out⟩
    | succ q =>
      have hlt : k < l.length := by omega
      have hlt' : (k : Int) < (l.length : Int) := by omega
      have hne : l ≠ [] := by intro e; rw [e] at hlt; simp at hlt
      obtain ⟨b, off, rfl, hc⟩ := HA.out.on HB.out hne
      obtain ⟨x0, x1, x2⟩ := hc k hlt
      clear hc x1 x2
      by_cases he : l[k].name = name
      · have he' : (l[k].name.toList == name.toList) = true := by rw [he]; simp
        have HE := hid he
        clear he
        go_wp2
        go_ret
        exact ⟨Or.inl ⟨k, ⟨hlt, HE.out, fun j hj => HN.out j (by omega) hj⟩, rfl⟩, HB.out⟩
      · have he' : (l[k].name.toList == name.toList) = false := beq_eq_false_iff_ne.2 fun h => he (text_eq h)
        have HE := hid he
        clear he
        go_wp2
        go_roundg q
        case measure => omega
        case rel =>
          refine ⟨rfl, k + 1, by omega, by go_num, fun j hj h => ?_⟩
          rcases Nat.lt_or_ge j k with q | q
          · exact HN.out j hj q
          · obtain rfl : j = k := by omega
            exact HE.out
end Go.Proofs.YtoanhjjigbjecaaGreatDoor
