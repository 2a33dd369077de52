/-
  The walk of impl's closed: the files of an open disk, in order, in memory of their own.
-/
import Derived.Test.YtbbohfagnnobgaaJoint42
import Derived.Test.YtbbohfagnnobgaaJoint30
import Derived.Test.YtbbohfagnnobgaaJoint44
import Derived.Test.YtbbohfagnnobgaaJoint1
import Derived.Test.YtbbohfagnnobgaaJoint45
import Derived.Deep.RegionLaw
import Derived.Deep.AppendLies
namespace Go.Proofs.Ytbbohfagnnobgaa
open Go.RowKit Go.Maps

theorem names_sorted {l : List FileD} (h : Asc l) : (l.map fun f => f.name.data.toList).mergeSort (fun x y => decide (x ≤ y)) = l.map fun f => f.name.data.toList := by
  refine List.mergeSort_of_pairwise ?_
  rw [List.pairwise_map]
  refine h.imp fun {a b} q => ?_
  rw [ByteArray.toList_eq, ByteArray.toList_eq] at q
  simpa using List.le_of_lt q
/-- names in a row of the call's own -/
def nameCells (l : List FileD) : List Value := l.map fun f => .string f.name
theorem names_own {w : World} {base : Nat} {v : Value} {l : List FileD} (h : w.ownsRow base 9 1 v l.length ((l.map fun f => f.name.data.toList).map encStr)) : ∃ va vc, v = .slice va l.length vc ∧ OwnAt w 9 (nameCells l) l.length va base w.heap.size := by
  have he : (l.map fun f => f.name.data.toList).map encStr = nameCells l := by
    rw [List.map_map, nameCells]
    refine List.map_congr_left fun f _ => ?_
    simp [encStr]
  rw [he] at h
  have hlt := h.lt
  obtain ⟨_, (⟨rfl, h0⟩ | ⟨g, cap, cur, rfl, hb, hg, _, _, _, ht⟩)⟩ := h
  · exact ⟨none, 0, by rw [h0], Or.inl h0⟩
  · refine ⟨_, cap, rfl, Or.inr ⟨g, cur.toList.drop (l.length * 1), rfl, hb, (hlt g rfl).2, ?_⟩⟩
    have hcur : cur.toList = nameCells l ++ cur.toList.drop (l.length * 1) := by rw [← ht, List.take_append_drop]
    unfold BlockIs
    rw [hg, ← hcur]
theorem names_cell {w : World} {l : List FileD} {va : Option Addr} {lo hi : Nat} (h : OwnAt w 9 (nameCells l) l.length va lo hi) {k : Nat} (hk : k < l.length) : ∃ g, va = some ⟨g, 0, none⟩ ∧ w.cell? ⟨g, k, none⟩ = some (.string l[k].name) := by
  rcases h with h | ⟨g, r, e, _, _, hb⟩
  · omega
  · refine ⟨g, e, hb.cell ?_⟩
    rw [List.getElem?_append_left (by simpa [nameCells] using hk)]
    simp [nameCells, hk]
theorem ownsRow_on {w w' : World} {base size n : Nat} {t : TypeId} {v : Value} {xs : List Value} (h : w.ownsRow base t size v n xs) (hb : Below w.heap.size w w') : w'.ownsRow base t size v n xs := by
  have hlt := h.lt
  refine ⟨h.1, h.2.imp id fun ⟨g, cap, cur, a, b, c, r⟩ => ⟨g, cap, cur, a, b, ?_, r⟩⟩
  rw [hb.block g (hlt g (by rw [a]; rfl)).2]
  exact c
/-- behind an append to a row of the call's own -/
theorem behind_append2 {w wr w1 : World} {v : Value} {base n : Nat} {t : TypeId} {size : Nat} {xs : List Value} {o : Obj} (hB : w.heap.size ≤ base) (BR : Below w.heap.size w wr) (OR : wr.ownsRow base t size v n xs) (hz : base ≤ wr.heap.size) (hg : (wr.alloc o).grownBy w1 v.ownBlock) :
    Below w.heap.size w w1 ∧ base ≤ w1.heap.size ∧ (∀ j, j < base → w1.heap[j]? = wr.heap[j]?) := by
  have hown : ∀ j, v.ownBlock = some j → base ≤ j := fun j hj => (OR.lt j hj).1
  have hd : Below wr.heap.size wr (wr.alloc o) := below_more (Below.refl _ wr) o
  have h1 : Below base wr w1 := ((hd.mono hz).grown hg (Nat.le_trans hz hd.size) hown)
  exact ⟨BR.trans (h1.mono hB), Nat.le_trans hz h1.size, fun j hj => h1.block j hj⟩
theorem OwnAt.same {w w' : World} {t : TypeId} {cs : List Value} {n : Nat} {va : Option Addr} {lo hi base : Nat} (h : OwnAt w t cs n va lo hi) (hs : ∀ j, j < base → w'.heap[j]? = w.heap[j]?) (hb : hi ≤ base) : OwnAt w' t cs n va lo hi :=
  h.imp id fun ⟨g, r, a, b, c, d⟩ => ⟨g, r, a, b, c, by unfold BlockIs; rw [hs g (by omega)]; exact d⟩
theorem BlockIs.same {w w' : World} {g base : Nat} {t : TypeId} {cs : List Value} (h : BlockIs w g t cs) (hs : ∀ j, j < base → w'.heap[j]? = w.heap[j]?) (hb : g < base) : BlockIs w' g t cs := by
  unfold BlockIs; rw [hs g hb]; exact h
theorem take_cells {l : List FileD} {k : Nat} (hk : k < l.length) : fileCells (l.take (k + 1)) = fileCells (l.take k) ++ [.string l[k].name, .string l[k].text, .int .i64 l[k].kept] := fileCells_take l k hk

set_option maxRecDepth 1000000 in
set_option maxHeartbeats 4000000 in
theorem implClosed_any (b : Nat) (l : List FileD) (adr : ByteArray → Nat) (lo : Nat) (D : DataW Unit) (w : World) (h : OpenIs w b l adr lo D) :
    Calls Try.prog 44 #[.map (some b)] w fun e w' => ∃ va vc, e = .returned (.agg #[.slice va l.length vc]) ∧ OwnAt w' 77 (fileCells l) l.length va w.heap.size w'.heap.size ∧ Below w.heap.size w w' := by
  obtain ⟨i0, hi, hz0, hz1, hz2⟩ := info_parts toFile_info
  have hl : l.length ≤ 30 := (diskOk_iff.1 h.right).1
  have H := hid h
  have hx0 : BlockIs (w.alloc (.cells #[.slice none 0 0] 26)) w.heap.size 26 [.slice none 0 0] := heap_alloc_new w _
  obtain ⟨W1, hW1⟩ : ∃ W1, (w.alloc (.cells #[.slice none 0 0] 26)).alloc (.cells #[.slice none 0 0] 26) = W1 := ⟨_, rfl⟩
  have hs1 : W1.heap.size = w.heap.size + 2 := by rw [← hW1]; simp [World.alloc, -World.alloc_eq]
  have hb1 : Below w.heap.size w W1 := by rw [← hW1]; exact below_more (below_more (Below.refl _ w) _) _
  have hxR : BlockIs W1 w.heap.size 26 [.slice none 0 0] := by rw [← hW1]; exact hx0.on (below_more (Below.refl _ _) _) hx0.lt
  have hxD : BlockIs W1 (w.heap.size + 1) 26 [.slice none 0 0] := by
    rw [← hW1]
    have := heap_alloc_new (w.alloc (.cells #[.slice none 0 0] 26)) (.cells #[.slice none 0 0] 26)
    rw [show (w.alloc (.cells #[.slice none 0 0] 26)).heap.size = w.heap.size + 1 by simp [World.alloc, -World.alloc_eq]] at this
    exact this
  have h1 := h.on hb1
  have hsz := h.size
  have CK := hid ((callsIn_wide (n := 5)).1 (Try.maps_Keys_76 (some b) W1))
  have CS := hid ((callsIn_wide (n := 5)).1 (Try.slices_Sorted_keys_75_76 b _ D ptrRead W1 h1.own (by rw [hsz]; unfold maxLen; omega) (by rw [hsz]; omega)))
  have hbk := below_more (Below.refl W1.heap.size W1) (.cells #[.map (some b)] 72)
  have H1 := hid (And.intro hb1 (And.intro hxR (And.intro hxD hbk)))
  have HS1 := hid hs1
  clear h hx0 hb1 hxR hxD h1 hbk hsz hs1
  go_enter Try.func44, Try.ntmps44
  go_wp2_with fail
  refine Calls.mono CK.out ?_
  rintro e w2 ⟨rfl, hw2⟩
  rw [hw2]
  clear hw2 w2 CK
  go_wp2_with fail
  refine Calls.mono CS.out ?_
  rintro e w3 ⟨v, ss, rfl, hS, hrow, _, b3⟩
  have hperm := hS.trans H.out.perm.symm
  have hsl : ss.length = l.length := by rw [hperm.length_eq, List.length_map]
  rw [hsl, mergeSort_of_perm hperm, names_sorted (diskOk_iff.1 H.out.right).2.2] at hrow
  obtain ⟨na, nc, rfl, hnames⟩ := names_own hrow
  have b13 := below_via H1.out.2.2.2 b3
  have B3 := hid (below_via H1.out.1 b13)
  have hsA := hid b13.size
  have X3 := hid (And.intro (H1.out.2.1.on b13 H1.out.2.1.lt) (And.intro (H1.out.2.2.1.on b13 H1.out.2.2.1.lt) (hnames.down (lo' := w.heap.size + 2) (by have := H1.out.2.2.2.size; have := HS1.out; omega) (Nat.le_refl _))))
  have hG : w.heap.size + 2 ≤ w3.heap.size := by have := hsA.out; have := HS1.out; omega
  clear hS hrow b3 hperm hsl hnames b13 H1 CS hW1 hsA
  go_wp2
  go_loopg [5, 6, 11] l.length (fun q _ _ i wr => ∃ (k : Nat) (v : Value), k + q = l.length ∧ i = .int .i64 k ∧ Hid (Below w.heap.size w wr) ∧ Hid (BlockIs wr w.heap.size 26 [.slice none 0 0] ∧ BlockIs wr (w.heap.size + 1) 26 [v] ∧ OwnAt wr 9 (nameCells l) l.length na (w.heap.size + 2) w3.heap.size) ∧ Hid (w3.heap.size ≤ wr.heap.size ∧ wr.ownsRow w3.heap.size 77 3 v k (fileCells (l.take k))))
  case atStart => exact ⟨0, .slice none 0 0, by omega, rfl, B3, X3, Nat.le_refl _, rfl, Or.inl ⟨rfl, rfl⟩⟩
  case round =>
    obtain ⟨k, v, hkg, rfl, BR, XR, OR⟩ := hrel
    clear B3 X3
    have c0 := XR.out.1.cell (j := 0) rfl
    have c1 := XR.out.2.1.cell (j := 0) rfl
    have f0 := XR.out.1.thaw 0
    have f1 := XR.out.2.1.thaw 0
    cases gk with
    | zero =>
      have hlt : ¬ (k : Int) < (l.length : Int) := by omega
      obtain rfl : k = l.length := by omega
      rw [List.take_length] at OR
      obtain ⟨va, vc, rfl, ho⟩ := own_of_row OR.out.2
      have HO := hid (((ho.far (b := w.heap.size) (j := 0) (by omega) (.slice va l.length vc)).down (lo' := w.heap.size) (by omega) (Nat.le_refl _)))
      have HB := hid (BR.out.setCell (p := ⟨w.heap.size, 0, none⟩) (Nat.le_refl _) (.slice va l.length vc))
      clear OR BR XR ho
      go_wp2
      refine bodyPost_ret (v := .agg #[.slice va l.length vc]) (by simp [results, Try.results44, go_sem, c0]) rfl ⟨va, ⟨vc, rfl⟩, ?_, HB.out⟩
      have := HO.out
      rw [show (wr.setCell ⟨w.heap.size, 0, none⟩ (.slice va l.length vc)).heap.size = wr.heap.size by simp [World.setCell]]
      exact this
    | succ q =>
      have hlt : k < l.length := by omega
      have hlt' : (k : Int) < (l.length : Int) := by omega
      obtain ⟨g, rfl, nk⟩ := names_cell XR.out.2.2 hlt
      have hop := H.out.on BR.out
      have hmem := List.getElem_mem hlt
      have hsm := diskOk_small H.out.right l[k] hmem
      have hrun := hop.get hmem (by unfold maxLen; omega)
      have hbl := hop.blk _ hmem
      have y0 := hbl.cell (j := 0) rfl
      have y1 := hbl.cell (j := 1) rfl
      obtain ⟨va, vc, rfl⟩ := row_shape OR.out.2
      have CC : Hid (Calls Try.prog 70 #[.agg #[.string l[k].name, .string l[k].text, .int .i64 l[k].kept]] wr.drew fun e w4 => e = .returned (.agg #[.string l[k].name, .string l[k].text, .int .i64 l[k].kept]) ∧ w4.cell? ⟨w.heap.size + 1, 0, none⟩ = some (.slice va k vc) ∧ (w4.alloc (.cells #[.string l[k].name, .string l[k].text, .int .i64 l[k].kept] 77)).cell? ⟨w.heap.size + 1, 0, none⟩ = some (.slice va k vc) ∧ w4.frozen? ⟨w.heap.size + 1, 0, none⟩ = false ∧ w4.ownsRow w3.heap.size 77 3 (.slice va k vc) k (fileCells (l.take k)) ∧ w3.heap.size ≤ w4.heap.size ∧ Hid (Below wr.heap.size wr w4)) := by
        have hd : Below wr.heap.size wr wr.drew := below_drewN (Below.refl _ _) 1
        refine Calls.mono (copiedFile_any l[k] hsm.1 hsm.2 wr.drew) ?_
        rintro e w4 ⟨rfl, b4⟩
        have b := below_via hd b4
        have k1 := XR.out.2.1.on b XR.out.2.1.lt
        have ba := below_more (Below.refl w4.heap.size w4) (.cells #[.string l[k].name, .string l[k].text, .int .i64 l[k].kept] 77)
        exact ⟨rfl, k1.cell (j := 0) rfl, (k1.on ba k1.lt).cell (j := 0) rfl, k1.thaw 0, ownsRow_on OR.out.2 b, Nat.le_trans OR.out.1 b.size, b⟩
      clear hop hmem hbl
      go_wp2
      go_region_law (first | (refine step_append_lies _ rfl (.tmp 19) (.tmp 31) 24 rfl w3.heap.size 77 i0 _ 3 40 Try.underlying24 hi hz0 hz1 hz2 rfl (by decide) _ k _ (by simp [Act.eval]) (hown.alloc _) ⟨w4.heap.size, 0, none⟩ 1 1 [.string l[k].name, .string l[k].text, .int .i64 l[k].kept] (by simp [Act.eval]) rfl (World.news_of_block (cs := #[.string l[k].name, .string l[k].text, .int .i64 l[k].kept]) (t := 77) (fr := (0, 0)) (heap_alloc_new w4 _)) (by simp [Value.oneCell']) (by decide) (by unfold maxLen; omega) (by omega) (by simp; omega) (w4.heap.size + 1) (by simp) ?_; intro g1 cap1 w5 hown1 hgrow hat hlt1; obtain ⟨B5, hz5, hk5⟩ := behind_append2 (w := w) (Nat.le_trans (Nat.le_add_right _ 2) hG) (below_via BR.out H4.out) hown h34 hgrow; have z1 := ((XR.out.2.1.on H4.out XR.out.2.1.lt).same hk5 (by omega)).cell (j := 0) rfl; have z2 := ((XR.out.2.1.on H4.out XR.out.2.1.lt).same hk5 (by omega)).thaw 0) | (go_simp; go_wp2_with (go_at_call 70; refine Calls.mono CC.out ?_; rintro e w4 ⟨rfl, m1, m3, m2, hown, h34, H4⟩)))
      all_goals
        have HO : Hid (w3.heap.size ≤ (w5.setCell ⟨w.heap.size + 1, 0, none⟩ (.slice (some ⟨g1, 0, none⟩) (k + 1) cap1)).heap.size ∧ (w5.setCell ⟨w.heap.size + 1, 0, none⟩ (.slice (some ⟨g1, 0, none⟩) (k + 1) cap1)).ownsRow w3.heap.size 77 3 (.slice (some ⟨g1, 0, none⟩) (k + 1) cap1) (k + 1) (fileCells (l.take (k + 1)))) := by
          rw [take_cells hlt]
          exact ⟨by rw [size_setCell]; exact hz5, ownsRow_setCell_below hown1 (by show _ + 1 < _; omega) _⟩
        have HX := hid (And.intro (((XR.out.1.on H4.out XR.out.1.lt).same hk5 (by omega)).far (b := w.heap.size + 1) (j := 0) (by omega) (.slice (some ⟨g1, 0, none⟩) (k + 1) cap1)) (And.intro (((XR.out.2.1.on H4.out XR.out.2.1.lt).same hk5 (by omega)).set 0 (.slice (some ⟨g1, 0, none⟩) (k + 1) cap1)) (((XR.out.2.2.on H4.out).same hk5 (Nat.le_refl _)).far (b := w.heap.size + 1) (j := 0) (by omega) (.slice (some ⟨g1, 0, none⟩) (k + 1) cap1))))
        have HB := hid (B5.setCell (p := ⟨w.heap.size + 1, 0, none⟩) (by show _ ≤ _ + 1; omega) (.slice (some ⟨g1, 0, none⟩) (k + 1) cap1))
        clear hown1 hgrow hat hlt1 B5 hz5 hk5 z1 z2 m1 m2 m3 hown h34 H4 CC OR XR BR c0 c1 f0 f1 y0 y1 hrun nk hsm
        go_wp2
        go_roundg q
        case measure => omega
        case rel => exact ⟨k + 1, _, by omega, by go_num, HB, HX, HO⟩
end Go.Proofs.Ytbbohfagnnobgaa
