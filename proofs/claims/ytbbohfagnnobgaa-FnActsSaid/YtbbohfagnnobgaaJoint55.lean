/-
  The walk of impl.LoseDisk: what the power leaves of a disk.
-/
import Derived.Test.YtbbohfagnnobgaaJoint44
import Derived.Test.YtbbohfagnnobgaaJoint1
import Derived.Test.YtbbohfagnnobgaaJoint56
import Derived.BigRegion
namespace Go.Proofs.Ytbbohfagnnobgaa
open Go.RowKit

theorem below_drew {B : Nat} {w w' : World} (h : Below B w w') : Below B w w'.drew := below_drewN h 1
theorem BlockIs.drew {w : World} {g : Nat} {t : TypeId} {cs : List Value} (h : BlockIs w g t cs) : BlockIs w.drew g t cs := h
/-- the first k files are cut, the others not yet -/
def cutTo (l : List FileD) (zs : List Int) (k : Nat) : List FileD := loseTo l zs k ++ l.drop k
theorem cutTo_length {l : List FileD} {zs : List Int} {k : Nat} (hk : k ≤ l.length) : (cutTo l zs k).length = l.length := by
  rw [cutTo, List.length_append, loseTo_length hk, List.length_drop]; omega
theorem cut_cells (A B : List FileD) (f : FileD) : fileCells (A ++ f :: B) = fileCells A ++ .string f.name :: .string f.text :: .int .i64 f.kept :: fileCells B := by
  simp [fileCells, fileEnc]
theorem cutTo_cells {l : List FileD} {zs : List Int} {k : Nat} (hk : k < l.length) : fileCells (cutTo l zs k) = fileCells (loseTo l zs k) ++ .string l[k].name :: .string l[k].text :: .int .i64 l[k].kept :: fileCells (l.drop (k + 1)) := by
  rw [cutTo, List.drop_eq_getElem_cons hk, cut_cells]
theorem cutTo_next {l : List FileD} {zs : List Int} {k : Nat} (hk : k < l.length) : fileCells (cutTo l zs (k + 1)) = fileCells (loseTo l zs k) ++ .string l[k].name :: .string (l[k].text.extract 0 (leftOf l[k] (zs.getD k 0)).toNat) :: .int .i64 (leftOf l[k] (zs.getD k 0)) :: fileCells (l.drop (k + 1)) := by
  rw [cutTo, loseTo_step hk, List.append_assoc, List.singleton_append, cut_cells]
  rfl
/-- a file's cells in the row, and what stands when two of them are written -/
theorem cut_file {w : World} {g k : Nat} {t : TypeId} {l : List FileD} {zs : List Int} (hk : k < l.length) (h : BlockIs w g t (fileCells (cutTo l zs k))) :
    (w.cell? ⟨g, k * 3, none⟩ = some (.string l[k].name) ∧ w.cell? ⟨g, k * 3 + 1, none⟩ = some (.string l[k].text) ∧ w.cell? ⟨g, k * 3 + 2, none⟩ = some (.int .i64 l[k].kept)) ∧
    ∀ (V : Int), V = leftOf l[k] (zs.getD k 0) → BlockIs (w.setCell ⟨g, k * 3 + 2, none⟩ (.int .i64 V)) g t (fileCells (loseTo l zs k) ++ .string l[k].name :: .string l[k].text :: .int .i64 V :: fileCells (l.drop (k + 1))) := by
  have hlen : (fileCells (loseTo l zs k)).length = k * 3 := by rw [fileCells_length, loseTo_length (by omega)]
  rw [cutTo_cells hk] at h
  refine ⟨⟨h.cell ?_, h.cell ?_, h.cell ?_⟩, fun V hV => ?_⟩
  · rw [List.getElem?_append_right (by omega), hlen, Nat.sub_self]; rfl
  · rw [List.getElem?_append_right (by omega), hlen, show k * 3 + 1 - k * 3 = 1 by omega]; rfl
  · rw [List.getElem?_append_right (by omega), hlen, show k * 3 + 2 - k * 3 = 2 by omega]; rfl
  · have := h.set (k * 3 + 2) (.int .i64 V)
    rw [List.set_append_right _ _ (by omega), hlen, show k * 3 + 2 - k * 3 = 2 by omega] at this
    exact this
theorem cut_text {w : World} {g k : Nat} {t : TypeId} {l : List FileD} {zs : List Int} {V : Int} (hk : k < l.length) (hV : V = leftOf l[k] (zs.getD k 0)) (h : BlockIs w g t (fileCells (loseTo l zs k) ++ .string l[k].name :: .string l[k].text :: .int .i64 V :: fileCells (l.drop (k + 1)))) :
    (w.cell? ⟨g, k * 3 + 1, none⟩ = some (.string l[k].text) ∧ w.cell? ⟨g, k * 3 + 2, none⟩ = some (.int .i64 V)) ∧ BlockIs (w.setCell ⟨g, k * 3 + 1, none⟩ (.string (l[k].text.extract 0 V.toNat))) g t (fileCells (cutTo l zs (k + 1))) := by
  have hlen : (fileCells (loseTo l zs k)).length = k * 3 := by rw [fileCells_length, loseTo_length (by omega)]
  refine ⟨⟨h.cell ?_, h.cell ?_⟩, ?_⟩
  · rw [List.getElem?_append_right (by omega), hlen, show k * 3 + 1 - k * 3 = 1 by omega]; rfl
  · rw [List.getElem?_append_right (by omega), hlen, show k * 3 + 2 - k * 3 = 2 by omega]; rfl
  · have := h.set (k * 3 + 1) (.string (l[k].text.extract 0 V.toNat))
    rw [List.set_append_right _ _ (by omega), hlen, show k * 3 + 1 - k * 3 = 1 by omega] at this
    rw [cutTo_next hk, ← hV]
    exact this

theorem leftOf_within {f : FileD} {z : Int} (h0 : 0 ≤ f.kept) (h1 : f.kept ≤ f.text.size) : 0 ≤ leftOf f z ∧ leftOf f z ≤ f.text.size := by
  unfold leftOf
  split <;> split at * <;> omega
theorem leftOf_zero {f : FileD} (h0 : 0 ≤ f.kept) : leftOf f 0 = f.kept := by
  unfold leftOf
  have : ¬ (f.text.size : Int) < 0 := by omega
  rw [if_neg this]
  split <;> omega
theorem leftOf_max {f : FileD} {z M V : Int} (hM : (if (f.text.size : Int) < z then (f.text.size : Int) else z) = M) (hV : (if f.kept < M then M else f.kept) = V) : V = leftOf f z := by
  unfold leftOf
  rw [hM, ← hV]
  split <;> split <;> omega

set_option maxRecDepth 1000000 in
set_option maxHeartbeats 4000000 in
theorem implLoseDisk_yes (ao : Option Addr) (l : List FileD) (cap : Nat) (lo : Option Addr) (zs : List Int) (lcap : Nat) (hzl : zs.length ≤ 1048576) (hd : diskOk l = true) (w : World) (ha : FilesAt w ao l) (hz : IntsAt w lo zs) :
    Calls Try.prog 46 #[.agg #[.slice ao l.length cap], .slice lo zs.length lcap] w fun e w' => ∃ g, w.heap.size ≤ g ∧ e = .returned (.tuple #[.agg #[.slice (some ⟨g, 0, none⟩) l.length l.length], .bool true]) ∧ BlockIs w' g 77 (fileCells (loseTo l zs l.length)) ∧ Below w.heap.size w w' := by
  have hl : l.length ≤ 30 := by
    have := hd
    rw [diskOk, Bool.and_eq_true] at this
    simpa using this.1
  have HA := hid ha
  have HZ := hid hz
  have HD := hid hd
  have hx0 : BlockIs (w.alloc (.cells #[.slice ao l.length cap] 26)) w.heap.size 26 [.slice ao l.length cap] := heap_alloc_new w _
  have hx0' := hx0.on (below_more (Below.refl _ _) (.cells #[.slice none 0 0] 26)) hx0.lt
  have hx1 : BlockIs ((w.alloc (.cells #[.slice ao l.length cap] 26)).alloc (.cells #[.slice none 0 0] 26)) (w.heap.size + 1) 26 [.slice none 0 0] := by
    have := heap_alloc_new (w.alloc (.cells #[.slice ao l.length cap] 26)) (.cells #[.slice none 0 0] 26)
    rw [show (w.alloc (.cells #[.slice ao l.length cap] 26)).heap.size = w.heap.size + 1 by simp [World.alloc, -World.alloc_eq]] at this
    exact this
  have HX := hid (And.intro hx0' hx1)
  have HB := hid (below_more (below_more (Below.refl w.heap.size w) (.cells #[.slice ao l.length cap] 26)) (.cells #[.slice none 0 0] 26))
  have C := hid (fun w ha => implDiskOk_any ao l cap (by omega) w ha)
  rw [hd] at C
  have CC := hid (fun w ha => copiedDisk_any ao l cap (by omega) (diskOk_small hd) w ha)
  clear ha hz hd hx0 hx0' hx1
  go_enter Try.func46, Try.ntmps46
  go_wp2_with fail
  refine (C.out _ (HA.out.on HB.out)).mono ?_
  rintro e w1 ⟨rfl, b1⟩
  have B1 := hid (below_via HB.out b1)
  have X1 := hid (And.intro (HX.out.1.on b1 HX.out.1.lt) (HX.out.2.on b1 HX.out.2.lt))
  have c0 := X1.out.1.cell (j := 0) rfl
  clear b1 C HB HX
  go_wp2_with fail
  refine (CC.out _ (HA.out.on B1.out)).mono ?_
  rintro e w2 ⟨g, hg, rfl, hk, b2⟩
  have B2 := hid (below_via B1.out b2)
  have hgl : w.heap.size + 1 < g := Nat.lt_of_lt_of_le X1.out.2.lt hg
  have X2 := hid (X1.out.2.on b2 X1.out.2.lt)
  have K2 := hid hk
  clear b2 CC B1 X1 hk hg c0
  obtain ⟨G, hG⟩ : ∃ G, w2.heap.size = G := ⟨_, rfl⟩
  have hGg : g < G := by have := K2.out.lt; omega
  have hbA := below_more (Below.refl w2.heap.size w2) (.cells #[.slice (some ⟨g, 0, none⟩) l.length l.length] 26)
  have hx3 : BlockIs (w2.alloc (.cells #[.slice (some ⟨g, 0, none⟩) l.length l.length] 26)) G 26 [.slice (some ⟨g, 0, none⟩) l.length l.length] := by rw [← hG]; exact heap_alloc_new w2 _
  have B3 := hid (below_via B2.out hbA)
  have H3 := hid (And.intro (X2.out.on hbA X2.out.lt) (And.intro hx3 (show BlockIs (w2.alloc (.cells #[.slice (some ⟨g, 0, none⟩) l.length l.length] 26)) g 77 (fileCells (cutTo l zs 0)) from by rw [cutTo]; exact K2.out.on hbA K2.out.lt)))
  clear hx3 hbA B2 X2 K2
  go_wp2
  clear hG
  go_loopg [7, 8, 18] l.length (fun q _ _ i wr => ∃ (k : Nat), k + q = l.length ∧ i = .int .i64 k ∧ Hid (Below w.heap.size w wr) ∧ Hid (BlockIs wr (w.heap.size + 1) 26 [.slice none 0 0] ∧ BlockIs wr G 26 [.slice (some ⟨g, 0, none⟩) l.length l.length] ∧ BlockIs wr g 77 (fileCells (cutTo l zs k))))
  case atStart => exact ⟨0, by omega, rfl, B3, H3⟩
  case round =>
    obtain ⟨k, hkg, rfl, BR, XR⟩ := hrel
    clear H3 B3
    have c1 := XR.out.1.cell (j := 0) rfl
    have c2 := XR.out.2.1.cell (j := 0) rfl
    have f1 := XR.out.1.thaw 0
    cases gk with
    | zero =>
      have hlt : ¬ (k : Int) < (l.length : Int) := by omega
      obtain rfl : k = l.length := by omega
      have HK := hid (XR.out.2.2.far (b := w.heap.size + 1) (j := 0) (by omega) (.slice (some ⟨g, 0, none⟩) l.length l.length))
      have HB := hid (BR.out.setCell (p := ⟨w.heap.size + 1, 0, none⟩) (by show _ ≤ _ + 1; omega) (.slice (some ⟨g, 0, none⟩) l.length l.length))
      clear BR XR
      go_wp2
      refine bodyPost_ret (v := .tuple #[.agg #[.slice (some ⟨g, 0, none⟩) l.length l.length], .bool true]) (by simp [results, Try.results46, go_sem, c1]) rfl ⟨g, by omega, rfl, ?_, HB.out⟩
      have := HK.out
      rw [cutTo, List.drop_length, List.append_nil] at this
      exact this
    | succ q =>
      have hlt : k < l.length := by omega
      have hlt' : (k : Int) < (l.length : Int) := by omega
      obtain ⟨hk0, hk1, hk2⟩ := diskOk_kept HD.out hlt
      obtain ⟨⟨x0, x1, x2⟩, hset⟩ := cut_file hlt XR.out.2.2
      have f3 := XR.out.2.2.thaw (k * 3 + 1)
      have f4 := XR.out.2.2.thaw (k * 3 + 2)
      by_cases hin : k < zs.length
      · have hin' : (k : Int) < (zs.length : Int) := by omega
        have hget : zs.getD k 0 = zs[k] := by simp [List.getD, hin]
        obtain ⟨b2, off2, rfl, hcz⟩ := HZ.out.on BR.out (by intro e; rw [e] at hin; simp at hin)
        have zk := hcz k hin
        clear hcz
        obtain ⟨M, hM⟩ : ∃ M, (if (l[k].text.size : Int) < zs[k] then (l[k].text.size : Int) else zs[k]) = M := ⟨_, rfl⟩
        obtain ⟨V, hV⟩ : ∃ V, (if l[k].kept < M then M else l[k].kept) = V := ⟨_, rfl⟩
        have HV : Hid (V = leftOf l[k] (zs.getD k 0)) := by show _ = _; rw [hget]; exact leftOf_max hM hV
        have hw := leftOf_within (z := zs.getD k 0) hk0 hk1
        rw [← HV.out] at hw
        have HS := hid (hset V HV.out)
        clear hset hget
        go_wp2
        go_region
        have hb6 : Below g wr (wr.setCell ⟨g, k * 3 + 2, none⟩ (.int .i64 V)).drew := below_drew ((Below.refl g wr).setCell (p := ⟨g, k * 3 + 2, none⟩) (Nat.le_refl g) _)
        have B6 := hid (BR.out.trans (hb6.mono (by omega)))
        have hs6 : BlockIs (wr.setCell ⟨g, k * 3 + 2, none⟩ (.int .i64 V)).drew g 77 (fileCells (loseTo l zs k) ++ .string l[k].name :: .string l[k].text :: .int .i64 V :: fileCells (l.drop (k + 1))) := HS.out.drew
        have X6 := hid (And.intro (XR.out.1.on hb6 (by omega)) (And.intro (XR.out.2.1.far (b := g) (j := k * 3 + 2) (by omega) (.int .i64 V)).drew hs6))
        clear hb6 hs6 HS BR XR x0 x1 x2 c1 c2 f1 f3 f4 zk hM hV
        generalize (wr.setCell ⟨g, k * 3 + 2, none⟩ (.int .i64 V)).drew = w6 at B6 X6 ⊢
        obtain ⟨⟨y1, y2⟩, hset⟩ := cut_text hlt HV.out X6.out.2.2
        have f5 := X6.out.2.2.thaw (k * 3 + 1)
        obtain ⟨N, rfl⟩ : ∃ N : Nat, V = (N : Int) := ⟨V.toNat, by omega⟩
        have hNs : N ≤ l[k].text.size := by omega
        have q2 := slice_upto (P := Try.prog) Try.underlying9 l[k].text N (N : Int) rfl hNs
        have HS := hid hset
        clear hset hw
        go_wp2
        go_region
        have hb7 : Below g w6 (w6.setCell ⟨g, k * 3 + 1, none⟩ (.string (l[k].text.extract 0 N))).drew := below_drew ((Below.refl g w6).setCell (p := ⟨g, k * 3 + 1, none⟩) (Nat.le_refl g) _)
        have B7 := hid (B6.out.trans (hb7.mono (by omega)))
        have h7 : BlockIs (w6.setCell ⟨g, k * 3 + 1, none⟩ (.string (l[k].text.extract 0 N))).drew g 77 (fileCells (cutTo l zs (k + 1))) := HS.out.drew
        have X7 := hid (And.intro (X6.out.1.on hb7 (by omega)) (And.intro (X6.out.2.1.far (b := g) (j := k * 3 + 1) (by omega) (.string (l[k].text.extract 0 N))).drew h7))
        clear hb7 h7 HS B6 X6 y1 y2 f5 q2
        generalize (w6.setCell ⟨g, k * 3 + 1, none⟩ (.string (l[k].text.extract 0 N))).drew = w7 at B7 X7 ⊢
        go_wp2
        go_roundg q
        case measure => omega
        case rel => exact ⟨k + 1, by omega, by go_num, B7, X7⟩
      · have hin' : ¬ (k : Int) < (zs.length : Int) := by omega
        have hget : zs.getD k 0 = 0 := by simp [List.getD, hin]
        have HV : Hid (l[k].kept = leftOf l[k] (zs.getD k 0)) := by show _ = _; rw [hget, leftOf_zero hk0]
        have hrow := XR.out.2.2
        rw [cutTo_cells hlt] at hrow
        obtain ⟨⟨y1, y2⟩, hset⟩ := cut_text hlt HV.out hrow
        obtain ⟨N, hN⟩ : ∃ N : Nat, l[k].kept = (N : Int) := ⟨l[k].kept.toNat, by omega⟩
        rw [hN] at y2 hset x2
        have hNs : N ≤ l[k].text.size := by omega
        have q2 := slice_upto (P := Try.prog) Try.underlying9 l[k].text N (N : Int) rfl hNs
        have HS := hid hset
        clear hset hrow hget hN x0 x1 hk0 hk1
        go_wp2
        go_region
        have hb7 : Below g wr (wr.setCell ⟨g, k * 3 + 1, none⟩ (.string (l[k].text.extract 0 N))).drew := below_drew ((Below.refl g wr).setCell (p := ⟨g, k * 3 + 1, none⟩) (Nat.le_refl g) _)
        have B7 := hid (BR.out.trans (hb7.mono (by omega)))
        have h7 : BlockIs (wr.setCell ⟨g, k * 3 + 1, none⟩ (.string (l[k].text.extract 0 N))).drew g 77 (fileCells (cutTo l zs (k + 1))) := HS.out.drew
        have X7 := hid (And.intro (XR.out.1.on hb7 (by omega)) (And.intro (XR.out.2.1.far (b := g) (j := k * 3 + 1) (by omega) (.string (l[k].text.extract 0 N))).drew h7))
        clear hb7 h7 HS BR XR y1 y2 f1 f3 f4 q2 c1 c2 x2
        generalize (wr.setCell ⟨g, k * 3 + 1, none⟩ (.string (l[k].text.extract 0 N))).drew = w7 at B7 X7 ⊢
        go_wp2
        go_roundg q
        case measure => omega
        case rel => exact ⟨k + 1, by omega, by go_num, B7, X7⟩

set_option maxRecDepth 1000000 in
theorem implLoseDisk_no (ao : Option Addr) (l : List FileD) (cap : Nat) (lo : Option Addr) (n lcap : Nat) (hl : l.length ≤ 16777216) (hd : diskOk l = false) (w : World) (ha : FilesAt w ao l) :
    Calls Try.prog 46 #[.agg #[.slice ao l.length cap], .slice lo n lcap] w fun e w' => e = .returned (.tuple #[.agg #[.slice none 0 0], .bool false]) ∧ Below w.heap.size w w' := by
  have HA := hid ha
  have hx1 : BlockIs ((w.alloc (.cells #[.slice ao l.length cap] 26)).alloc (.cells #[.slice none 0 0] 26)) (w.heap.size + 1) 26 [.slice none 0 0] := by
    have := heap_alloc_new (w.alloc (.cells #[.slice ao l.length cap] 26)) (.cells #[.slice none 0 0] 26)
    rw [show (w.alloc (.cells #[.slice ao l.length cap] 26)).heap.size = w.heap.size + 1 by simp [World.alloc, -World.alloc_eq]] at this
    exact this
  have HX := hid hx1
  have HB := hid (below_more (below_more (Below.refl w.heap.size w) (.cells #[.slice ao l.length cap] 26)) (.cells #[.slice none 0 0] 26))
  have C := hid (fun w ha => implDiskOk_any ao l cap hl w ha)
  rw [hd] at C
  clear ha hd hx1
  go_enter Try.func46, Try.ntmps46
  go_wp2_with fail
  refine (C.out _ (HA.out.on HB.out)).mono ?_
  rintro e w1 ⟨rfl, b1⟩
  have B1 := hid ((below_via HB.out b1).setCell (p := ⟨w.heap.size + 1, 0, none⟩) (by show _ ≤ _ + 1; omega) (.slice none 0 0))
  have X1 := HX.out.on b1 HX.out.lt
  have c1 := X1.cell (j := 0) rfl
  have f1 := X1.thaw 0
  clear b1 C HB HX X1
  go_wp2
  refine bodyPost_ret (v := .tuple #[.agg #[.slice none 0 0], .bool false]) (by simp [results, Try.results46, go_sem, c1]) rfl ⟨rfl, B1.out⟩
end Go.Proofs.Ytbbohfagnnobgaa
