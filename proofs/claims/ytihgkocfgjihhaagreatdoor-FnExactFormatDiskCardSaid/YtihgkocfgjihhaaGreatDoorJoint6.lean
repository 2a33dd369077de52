/-
  The walks of laws.toFile, toFileS, toDisk: a disk is laid anew, in memory of its own.
-/
import Derived.Test.YtihgkocfgjihhaaGreatDoorJoint2
import Derived.OwnWalk
namespace Go.Proofs.YtihgkocfgjihhaaGreatDoor
open Go.RowKit

set_option maxRecDepth 1000000 in
theorem toFile_any (f : FileD) (w : World) :
    Calls Tryz.prog 145 #[f.value] w fun e w' => e = .returned f.value ∧ Below w.heap.size w w' := by
  unfold FileD.value
  go_enter Tryz.func145, Tryz.ntmps145
  go_wp2
  refine bodyPost_ret (v := .agg #[.string f.name, .string f.text, .int .i64 f.kept]) (by simp [results, Tryz.results145, go_sem]) rfl ⟨rfl, below_more (below_more (below_more (Below.refl _ w) _) _) _⟩

theorem toFile_info : (Tryz.prog.info? 82).map (fun i => (i.zero, i.size, i.bytes)) = some (some (.agg #[.string ByteArray.empty, .string ByteArray.empty, .int .i64 0]), 3, 40) := by kernel_rfl

/-- a file's three cells are written -/
theorem put_file {w w2 : World} {g k : Nat} {t : TypeId} {l : List FileD} {r : List Value} (hk : k < l.length) (h : BlockIs w g t (fileCells (l.take k) ++ r)) (hr : r.length = (l.length - k) * 3) {B : Nat} (hb : Below B w w2) (hg : g < B) :
    (∃ x y z, w2.cell? ⟨g, k * 3, none⟩ = some x ∧ w2.cell? ⟨g, k * 3 + 1, none⟩ = some y ∧ w2.cell? ⟨g, k * 3 + 2, none⟩ = some z) ∧ (∀ j, w2.frozen? ⟨g, j, none⟩ = false) ∧
    ∃ r', r'.length = (l.length - (k + 1)) * 3 ∧ BlockIs (((w2.setCell ⟨g, k * 3, none⟩ (.string l[k].name)).setCell ⟨g, k * 3 + 1, none⟩ (.string l[k].text)).setCell ⟨g, k * 3 + 2, none⟩ (.int .i64 l[k].kept)) g t (fileCells (l.take (k + 1)) ++ r') := by
  have h2 := h.on hb hg
  have hlen : (fileCells (l.take k)).length = k * 3 := by rw [fileCells_length, List.length_take]; omega
  match r, hr with
  | x :: y :: z :: r', hr =>
    have hs := ((h2.set (k * 3) (.string l[k].name)).set (k * 3 + 1) (.string l[k].text)).set (k * 3 + 2) (.int .i64 l[k].kept)
    have e3 := set_three (fileCells (l.take k)) (.string l[k].name) (.string l[k].text) (.int .i64 l[k].kept) x y z r'
    rw [hlen] at e3
    rw [e3] at hs
    refine ⟨⟨x, y, z, h2.cell ?_, h2.cell ?_, h2.cell ?_⟩, fun j => h2.thaw j, r', ?_, ?_⟩
    · rw [List.getElem?_append_right (by omega), hlen, Nat.sub_self]; rfl
    · rw [List.getElem?_append_right (by omega), hlen, show k * 3 + 1 - k * 3 = 1 by omega]; rfl
    · rw [List.getElem?_append_right (by omega), hlen, show k * 3 + 2 - k * 3 = 2 by omega]; rfl
    · simp at hr; omega
    · rw [fileCells_take l k hk, List.append_assoc]
      exact hs
  | [], hr => simp at hr; omega
  | [_], hr => simp at hr; omega
  | [_, _], hr => simp at hr; omega

theorem made_length (n : Nat) : (madeCells (Value.agg #[.string ByteArray.empty, .string ByteArray.empty, .int .i64 0]).cells (n * 3)).toList.length = n * 3 := by
  simp [madeCells]

set_option maxRecDepth 1000000 in
set_option maxHeartbeats 1000000 in
theorem toFileS_any (ao : Option Addr) (l : List FileD) (cap : Nat) (hl : l.length ≤ 1048576) (w : World) (ha : FilesAt w ao l) :
    Calls Tryz.prog 96 #[.slice ao l.length cap] w fun e w' => e = .returned (.slice (some ⟨w.heap.size, 0, none⟩) l.length l.length) ∧ BlockIs w' w.heap.size 82 (fileCells l) ∧ Below w.heap.size w w' := by
  obtain ⟨i0, hi, hz0, hz1, hz2⟩ := info_parts toFile_info
  have HA := (show Hid (FilesAt w ao l) from ha)
  clear ha
  go_enter Tryz.func96, Tryz.ntmps96
  go_wp2_with (at_make; refine wpList_make_full _ rfl (.tmp 6) (.tmp 6) 23 rfl w.heap.size 82 i0 (.agg #[.string ByteArray.empty, .string ByteArray.empty, .int .i64 0]) 3 Tryz.underlying23 hi hz0 hz1 _ _ _ _ l.length rfl rfl rfl rfl ?b2 ?b3 ?b4 ?_)
  case b2 => rw [hz2]; omega
  case b3 => unfold maxLen; omega
  case b4 => exact Nat.le_refl _
  intro w1 hown hgrow
  have HM := (show Hid _ from BlockIs.made hown)
  have hB1 := (Below.refl w.heap.size w).grown hgrow (Nat.le_refl _) (fun k h => by cases h)
  have B1 := (show Hid (Below w.heap.size w w1) from hB1)
  clear hown hgrow hB1
  go_wp2
  go_loopg [4] l.length (fun g i wr => ∃ (k : Nat), k + g = l.length ∧ i = .int .i64 k ∧ Hid (Below w.heap.size w wr) ∧ ∃ rest, Hid (rest.length = (l.length - k) * 3) ∧ Hid (BlockIs wr w.heap.size 82 (fileCells (l.take k) ++ rest)))
  case atStart => exact ⟨0, by omega, rfl, B1, _, made_length l.length, HM⟩
  case round =>
    obtain ⟨k, hkg, rfl, BR, rest, hrl, FP⟩ := hrel
    clear HM B1
    cases gk with
    | zero =>
      have hlt : ¬ (k : Int) < (l.length : Int) := by omega
      have HP : Hid (BlockIs wr w.heap.size 82 (fileCells l)) := by
        have h0 : rest = [] := List.length_eq_zero_iff.1 (by rw [hrl.out, show l.length - k = 0 by omega])
        have := FP.out
        rw [h0, List.append_nil, List.take_of_length_le (by omega)] at this
        exact this
      clear FP hrl
      go_wp2
      go_ret
      exact ⟨rfl, HP.out, BR.out⟩
    | succ g =>
      have hlt : k < l.length := by omega
      have hlt' : (k : Int) < (l.length : Int) := by omega
      have hne : l ≠ [] := by intro e; rw [e] at hlt; simp at hlt
      obtain ⟨b, off, rfl, hc⟩ := HA.out.on BR.out hne
      obtain ⟨x0, x1, x2⟩ := hc k hlt
      clear hc
      have C := (show Hid _ from toFile_any l[k])
      unfold FileD.value at C
      go_wp2_with fail
      refine (C.out _).mono ?_
      rintro e w2 ⟨rfl, b2⟩
      obtain ⟨⟨z0, z1, z2, y0, y1, y2⟩, hf, r', hr', hnew⟩ := put_file hlt FP.out hrl.out b2 FP.out.lt
      have B2 := (show Hid (Below w.heap.size w w2) from below_via BR.out b2)
      have f0 := hf (k * 3)
      have f1 := hf (k * 3 + 1)
      have f2 := hf (k * 3 + 2)
      have HN := (show Hid _ from hnew)
      have HR := (show Hid _ from hr')
      clear x0 x1 x2 C hf hnew hr' b2 FP hrl BR
      go_wp2
      go_roundg g
      case measure => omega
      case rel => exact ⟨k + 1, by omega, by go_num, ((B2.out.setCell (Nat.le_refl _) _).setCell (Nat.le_refl _) _).setCell (Nat.le_refl _) _, r', HR, HN⟩

/-- three blocks laid one behind the other -/
theorem three_new (w : World) (o p q : Obj) : Below w.heap.size w (((w.alloc o).alloc p).alloc q) ∧ (((w.alloc o).alloc p).alloc q).heap.size = w.heap.size + 3 ∧ (((w.alloc o).alloc p).alloc q).heap[w.heap.size + 1]? = some p ∧ (((w.alloc o).alloc p).alloc q).heap[w.heap.size + 1 + 1]? = some q := by
  refine ⟨below_more (below_more (below_more (Below.refl _ w) _) _) _, ?_, ?_, ?_⟩
  · simp [World.alloc, -World.alloc_eq]
  · show (((w.heap.push o).push p).push q)[w.heap.size + 1]? = some p
    rw [Array.getElem?_push, if_neg (by simp), Array.getElem?_push, if_pos (by simp)]
  · show (((w.heap.push o).push p).push q)[w.heap.size + 1 + 1]? = some q
    rw [Array.getElem?_push, if_pos (by simp)]

set_option maxRecDepth 1000000 in
theorem toDisk_any (ao : Option Addr) (l : List FileD) (cap : Nat) (hl : l.length ≤ 1048576) (w : World) (ha : FilesAt w ao l) :
    Calls Tryz.prog 43 #[.agg #[.slice ao l.length cap]] w fun e w' => ∃ g, w.heap.size ≤ g ∧ e = .returned (.agg #[.slice (some ⟨g, 0, none⟩) l.length l.length]) ∧ BlockIs w' g 82 (fileCells l) ∧ Below w.heap.size w w' := by
  have C := (show Hid _ from fun w ha => toFileS_any ao l cap hl w ha)
  have HA := (show Hid (FilesAt w ao l) from ha)
  clear ha
  have h3 := three_new w (.cells #[.slice ao l.length cap] 42) (.cells #[.slice none 0 0] 25) (.cells #[.slice none 0 0] 25)
  have H3 := (show Hid _ from h3)
  clear h3
  go_enter Tryz.func43, Tryz.ntmps43
  go_wp2_with fail
  refine (C.out _ (HA.out.on H3.out.1)).mono ?_
  rintro e w1 ⟨rfl, hbl, b1⟩
  obtain ⟨hb0, hs0, hx1, hx2⟩ := H3.out
  rw [hs0] at hbl b1 ⊢
  have k1 : BlockIs w1 (w.heap.size + 1) 25 [.slice none 0 0] := BlockIs.on (show BlockIs _ _ _ _ from hx1) b1 (by omega)
  have k2 : BlockIs w1 (w.heap.size + 1 + 1) 25 [.slice none 0 0] := BlockIs.on (show BlockIs _ _ _ _ from hx2) b1 (by omega)
  have c1 := k1.cell (j := 0) rfl
  have c2 := k2.cell (j := 0) rfl
  have f1 := k1.thaw 0
  have f2 := k2.thaw 0
  have B1 := (show Hid (Below w.heap.size w w1) from hb0.trans (b1.mono (by omega)))
  have HB := (show Hid (BlockIs w1 (w.heap.size + 3) 82 (fileCells l)) from hbl)
  clear hbl b1 C H3 hb0 hs0 hx1 hx2 k1 k2
  go_wp2
  refine bodyPost_ret (v := .agg #[.slice (some ⟨w.heap.size + 3, 0, none⟩) l.length l.length]) (by simp [results, Tryz.results43, go_sem, c1]) rfl ⟨_, Nat.le_add_right _ _, rfl, ?_, ?_⟩
  · exact (HB.out.far (by omega) _).far (by omega) _
  · exact (B1.out.setCell (by show _ ≤ _ + 1 + 1; omega) _).setCell (by show _ ≤ _ + 1; omega) _
end Go.Proofs.YtihgkocfgjihhaaGreatDoor
