/-
  The walks of impl.copiedFile, impl.copiedDisk: a disk is laid anew, in memory of its own.
-/
import Derived.Test.YtbbohfagnnobgaaJoint11
import Derived.Test.YtbbohfagnnobgaaJoint43
import Derived.Deep.RegionWith
namespace Go.Proofs.Ytbbohfagnnobgaa
open Go.RowKit

/-- what stands while a file is copied -/
def CopyIn (w : World) (f : FileD) (W : World) : Prop := Below w.heap.size w W ∧ BlockIs W w.heap.size 77 (fileEnc f) ∧ BlockIs W (w.heap.size + 1) 77 [.string ByteArray.empty, .string ByteArray.empty, .int .i64 0]

theorem copy_in (w : World) (f : FileD) : CopyIn w f ((w.alloc (.cells #[.string f.name, .string f.text, .int .i64 f.kept] 77)).alloc (.cells #[.string ByteArray.empty, .string ByteArray.empty, .int .i64 0] 77)).drew := by
  have h0 : BlockIs (w.alloc (.cells #[.string f.name, .string f.text, .int .i64 f.kept] 77)) w.heap.size 77 (fileEnc f) := heap_alloc_new w _
  have hb := below_more (Below.refl _ (w.alloc (.cells #[.string f.name, .string f.text, .int .i64 f.kept] 77))) (.cells #[.string ByteArray.empty, .string ByteArray.empty, .int .i64 0] 77)
  have h1 : BlockIs ((w.alloc (.cells #[.string f.name, .string f.text, .int .i64 f.kept] 77)).alloc (.cells #[.string ByteArray.empty, .string ByteArray.empty, .int .i64 0] 77)) (w.heap.size + 1) 77 [.string ByteArray.empty, .string ByteArray.empty, .int .i64 0] := by
    have := heap_alloc_new (w.alloc (.cells #[.string f.name, .string f.text, .int .i64 f.kept] 77)) (.cells #[.string ByteArray.empty, .string ByteArray.empty, .int .i64 0] 77)
    rw [show (w.alloc (.cells #[.string f.name, .string f.text, .int .i64 f.kept] 77)).heap.size = w.heap.size + 1 by simp [World.alloc, -World.alloc_eq]] at this
    exact this
  exact ⟨below_drewN (below_more (below_more (Below.refl _ w) _) _) 1, (h0.on hb h0.lt).on (below_drewN (Below.refl _ _) 1) (h0.on hb h0.lt).lt, h1.on (below_drewN (Below.refl _ _) 1) h1.lt⟩

/-- a text is copied meanwhile -/
theorem copy_call (w : World) (f : FileD) (s : ByteArray) (hs : s.size ≤ 1048576) (W : World) (h : Hid (CopyIn w f W)) :
    Calls Try.prog 45 #[.string s] W fun e W' => e = .returned (.string s) ∧ (W'.cell? ⟨w.heap.size, 0, none⟩ = some (.string f.name) ∧ W'.cell? ⟨w.heap.size, 1, none⟩ = some (.string f.text) ∧ W'.cell? ⟨w.heap.size, 2, none⟩ = some (.int .i64 f.kept)) ∧ (W'.cell? ⟨w.heap.size + 1, 0, none⟩ = some (.string ByteArray.empty) ∧ W'.cell? ⟨w.heap.size + 1, 1, none⟩ = some (.string ByteArray.empty) ∧ W'.cell? ⟨w.heap.size + 1, 2, none⟩ = some (.int .i64 0)) ∧ (W'.frozen? ⟨w.heap.size + 1, 0, none⟩ = false ∧ W'.frozen? ⟨w.heap.size + 1, 1, none⟩ = false ∧ W'.frozen? ⟨w.heap.size + 1, 2, none⟩ = false) ∧ Hid (CopyIn w f W') := by
  refine (clone_any s (by omega) W).mono ?_
  rintro e W' ⟨rfl, hb⟩
  obtain ⟨h0, h1, h2⟩ := h.out
  have k1 := h1.on hb h1.lt
  have k2 := h2.on hb h2.lt
  exact ⟨rfl, ⟨k1.cell (j := 0) rfl, k1.cell (j := 1) rfl, k1.cell (j := 2) rfl⟩, ⟨k2.cell (j := 0) rfl, k2.cell (j := 1) rfl, k2.cell (j := 2) rfl⟩, ⟨k2.thaw 0, k2.thaw 1, k2.thaw 2⟩, below_via h0 hb, k1, k2⟩

set_option maxRecDepth 1000000 in
set_option maxHeartbeats 1000000 in
theorem copiedFile_any (f : FileD) (hs : f.name.size ≤ 1048576) (ht : f.text.size ≤ 1048576) (w : World) :
    Calls Try.prog 70 #[f.value] w fun e w' => e = .returned f.value ∧ Below w.heap.size w w' := by
  have HG := hid (copy_in w f)
  have CC := hid (fun s hs W h => copy_call w f s hs W h)
  unfold FileD.value
  go_enter Try.func70, Try.ntmps70
  go_wp2
  go_region_with (go_at_call 45; refine (CC.out _ (by first | exact hs | exact ht) _ HG).mono ?_; rintro e w2 ⟨rfl, ⟨x0, x1, x2⟩, ⟨y0, y1, y2⟩, ⟨z0, z1, z2⟩, HG⟩)
  all_goals
    have HB := hid (((HG.out.1.setCell (p := ⟨w.heap.size + 1, 0, none⟩) (by show _ ≤ _ + 1; omega) (.string f.name)).setCell (p := ⟨w.heap.size + 1, 1, none⟩) (by show _ ≤ _ + 1; omega) (.string f.text)).setCell (p := ⟨w.heap.size + 1, 2, none⟩) (by show _ ≤ _ + 1; omega) (.int .i64 f.kept))
    go_wp2
    refine bodyPost_ret (v := .agg #[.string f.name, .string f.text, .int .i64 f.kept]) (by simp [results, Try.results70, go_sem, y0, y1, y2]) rfl ⟨rfl, HB.out⟩

set_option maxRecDepth 1000000 in
set_option maxHeartbeats 1000000 in
theorem copiedDisk_any (ao : Option Addr) (l : List FileD) (cap : Nat) (hl : l.length ≤ 1048576) (hs : ∀ f ∈ l, f.name.size ≤ 1048576 ∧ f.text.size ≤ 1048576) (w : World) (ha : FilesAt w ao l) :
    Calls Try.prog 41 #[.agg #[.slice ao l.length cap]] w fun e w' => ∃ g, w.heap.size ≤ g ∧ e = .returned (.agg #[.slice (some ⟨g, 0, none⟩) l.length l.length]) ∧ BlockIs w' g 77 (fileCells l) ∧ Below w.heap.size w w' := by
  obtain ⟨i0, hi, hz0, hz1, hz2⟩ := info_parts toFile_info
  have HA := (show Hid (FilesAt w ao l) from ha)
  have HS := hid hs
  clear ha hs
  obtain ⟨W0, hW0⟩ : ∃ W0, (w.alloc (.cells #[.slice ao l.length cap] 26)).alloc (.cells #[.slice none 0 0] 26) = W0 := ⟨_, rfl⟩
  have hb0 : Below w.heap.size w W0 := by rw [← hW0]; exact below_more (below_more (Below.refl _ w) _) _
  have hsz : W0.heap.size = w.heap.size + 2 := by rw [← hW0]; simp [World.alloc, -World.alloc_eq]
  have hx0 : BlockIs W0 w.heap.size 26 [.slice ao l.length cap] := by
    rw [← hW0]
    have h0 : BlockIs (w.alloc (.cells #[.slice ao l.length cap] 26)) w.heap.size 26 [.slice ao l.length cap] := heap_alloc_new w _
    exact h0.on (below_more (Below.refl _ _) _) h0.lt
  have hx1 : BlockIs W0 (w.heap.size + 1) 26 [.slice none 0 0] := by
    rw [← hW0]
    have := heap_alloc_new (w.alloc (.cells #[.slice ao l.length cap] 26)) (.cells #[.slice none 0 0] 26)
    rw [show (w.alloc (.cells #[.slice ao l.length cap] 26)).heap.size = w.heap.size + 1 by simp [World.alloc, -World.alloc_eq]] at this
    exact this
  have H0 := hid (And.intro hb0 (And.intro hx0 hx1))
  have c0 := hx0.cell (j := 0) rfl
  clear hb0 hx0 hx1
  go_enter Try.func41, Try.ntmps41
  go_wp2_with (at_make; refine wpList_make_full _ rfl (.tmp 8) (.tmp 8) 24 rfl (w.heap.size + 2) 77 i0 (.agg #[.string ByteArray.empty, .string ByteArray.empty, .int .i64 0]) 3 Try.underlying24 hi hz0 hz1 _ _ _ _ l.length rfl rfl rfl rfl ?b2 ?b3 ?b4 ?_)
  case b2 => rw [hz2]; omega
  case b3 => unfold maxLen; omega
  case b4 => exact Nat.le_of_eq hsz.symm
  intro w1 hown hgrow
  try rw [hsz] at hown
  have HM := hid (BlockIs.made hown)
  have hB1 : Below (w.heap.size + 2) W0 w1 := (Below.refl _ W0).grown hgrow (Nat.le_of_eq hsz.symm) (fun k h => by cases h)
  have B1 := hid (H0.out.1.trans (hB1.mono (by omega)))
  have X1 := H0.out.2.1.on hB1 (by omega)
  have Y1 := hid (And.intro X1 (H0.out.2.2.on hB1 (by omega)))
  have c1 := X1.cell (j := 0) rfl
  clear hown hgrow hB1 X1 H0 c0
  clear hsz hW0 W0
  go_wp2
  go_loopg [4, 5, 13] l.length (fun g _ _ i wr => ∃ (k : Nat), k + g = l.length ∧ i = .int .i64 k ∧ Hid (Below w.heap.size w wr) ∧ Hid (BlockIs wr (w.heap.size + 1) 26 [.slice none 0 0]) ∧ ∃ rest, Hid (rest.length = (l.length - k) * 3) ∧ Hid (BlockIs wr (w.heap.size + 2) 77 (fileCells (l.take k) ++ rest)))
  case atStart => exact ⟨0, by omega, rfl, B1, Y1.out.2, _, made_length l.length, HM⟩
  case round =>
    obtain ⟨k, hkg, rfl, BR, YR, rest, hrl, FP⟩ := hrel
    clear HM B1 Y1
    cases gk with
    | zero =>
      have hlt : ¬ (k : Int) < (l.length : Int) := by omega
      have hP : BlockIs wr (w.heap.size + 2) 77 (fileCells l) := by
        have h0 : rest = [] := List.length_eq_zero_iff.1 (by rw [hrl.out, show l.length - k = 0 by omega])
        have := FP.out
        rw [h0, List.append_nil, List.take_of_length_le (by omega)] at this
        exact this
      have HP := hid (hP.far (b := w.heap.size + 1) (j := 0) (by omega) (.slice (some ⟨w.heap.size + 2, 0, none⟩) l.length l.length))
      have HB := hid (BR.out.setCell (p := ⟨w.heap.size + 1, 0, none⟩) (by show _ ≤ _ + 1; omega) (.slice (some ⟨w.heap.size + 2, 0, none⟩) l.length l.length))
      have y0 := YR.out.cell (j := 0) rfl
      have z0 := YR.out.thaw 0
      clear FP hrl hP BR YR
      go_wp2
      refine bodyPost_ret (v := .agg #[.slice (some ⟨w.heap.size + 2, 0, none⟩) l.length l.length]) (by simp [results, Try.results41, go_sem, y0]) rfl ⟨_, Nat.le_add_right _ _, rfl, HP.out, HB.out⟩
    | succ g =>
      have hlt : k < l.length := by omega
      have hlt' : (k : Int) < (l.length : Int) := by omega
      have hne : l ≠ [] := by intro e; rw [e] at hlt; simp at hlt
      obtain ⟨b, off, rfl, hc⟩ := HA.out.on BR.out hne
      obtain ⟨x0, x1, x2⟩ := hc k hlt
      clear hc
      have C := hid (fun w => copiedFile_any l[k] (HS.out _ (List.getElem_mem hlt)).1 (HS.out _ (List.getElem_mem hlt)).2 w)
      unfold FileD.value at C
      have hbA := below_more (Below.refl wr.heap.size wr) (.cells #[.string l[k].name, .string l[k].text, .int .i64 l[k].kept] 77)
      have HBA := hid hbA
      clear hbA
      go_wp2_with fail
      refine (C.out _).mono ?_
      rintro e w2 ⟨rfl, b2⟩
      have b3 := below_via HBA.out b2
      obtain ⟨⟨z0, z1, z2, y0, y1, y2⟩, hf, r', hr', hnew⟩ := put_file hlt FP.out hrl.out b3 FP.out.lt
      have B2 := hid (below_via BR.out b3)
      have Y2 := hid (YR.out.on b3 YR.out.lt)
      have f0 := hf (k * 3)
      have f1 := hf (k * 3 + 1)
      have f2 := hf (k * 3 + 2)
      have HN := hid hnew
      have HR := hid hr'
      clear x0 x1 x2 C hf hnew hr' b2 b3 FP hrl BR YR
      go_wp2
      go_roundg g
      case measure => omega
      case rel => exact ⟨k + 1, by omega, by go_num, ((B2.out.setCell (by show _ ≤ _ + 2; omega) _).setCell (by show _ ≤ _ + 2; omega) _).setCell (by show _ ≤ _ + 2; omega) _, ((Y2.out.far (by omega) _).far (by omega) _).far (by omega) _, r', HR, HN⟩
end Go.Proofs.Ytbbohfagnnobgaa
