/-
  The walk of spec.l15Put: an item is put into its place.
-/
import Derived.Test.YtoanhjjigbjecaaGreatDoorJoint1
import Derived.Laws.Cover1
import Derived.BigQuiet
import Derived.Deep.QuietTactic
import Derived.Deep.LoopGhost
import Derived.OwnWalk
import Derived.WalkKit
namespace Go.Proofs.YtoanhjjigbjecaaGreatDoor
open Go.RowKit

/-- what is left behind an item that was put, or not -/
def PutKDid (g : Nat) (l : List ItemD) (w : World) (e : Ending) (w' : World) : Prop :=
  (8 < l.length ∧ e = .returned (.bool false) ∧ Below w.heap.size w w') ∨ (l.length ≤ 8 ∧ e = .returned (.bool true) ∧ ∃ va vc w1, Below w.heap.size w w1 ∧ w1.ownsRow w.heap.size 89 3 (.slice va l.length vc) l.length (itemCells l) ∧ w' = w1.setCell ⟨g, 1, none⟩ (.slice va l.length vc))

set_option maxRecDepth 1000000 in
set_option maxHeartbeats 4000000 in
theorem l15Put_any (g : Nat) (sv : Value) (bo : Option Addr) (li : List ItemD) (bc : Nat) (x : ItemD) (hl : li.length ≤ 8) (w : World) (hk : BlockIs w g 56 [sv, .slice bo li.length bc]) (hi : ItemsAt w bo li) :
    Calls Tryz.prog 104 #[.pointer (some ⟨g, 0, none⟩), .agg #[.string x.key, .string x.val, .int .i64 x.ver]] w fun e w' => PutKDid g (putIn keyLt li x) w e w' := by
  have hb0 := below_more (Below.refl w.heap.size w) (.cells #[.string x.key, .string x.val, .int .i64 x.ver] 89)
  have hx0 : BlockIs (w.alloc (.cells #[.string x.key, .string x.val, .int .i64 x.ver] 89)) w.heap.size 89 [.string x.key, .string x.val, .int .i64 x.ver] := heap_alloc_new w _
  have hk0 := hk.on hb0 hk.lt
  have hi0 := hi.on hb0
  obtain ⟨W0, hW0⟩ : ∃ W, w.alloc (.cells #[.string x.key, .string x.val, .int .i64 x.ver] 89) = W := ⟨_, rfl⟩
  rw [hW0] at hb0 hx0 hk0 hi0
  have B0 := hid hb0
  have X0 := hid hx0
  have K0 := hid hk0
  have HA := hid hi0
  have hb1 := below_more (Below.refl W0.heap.size W0) (.cells #[] 89)
  have hr1 := itemR_nil W0 W0.heap.size (Nat.le_refl _)
  obtain ⟨W1, hW1⟩ : ∃ W, W0.alloc (.cells #[] 89) = W := ⟨_, rfl⟩
  rw [hW1] at hb1 hr1
  have B1 := hid hb1
  have R1 := hid hr1
  clear hb0 hx0 hk0 hi0 hb1 hr1 hk hi
  go_enter Tryz.func104, Tryz.ntmps104
  go_wp2
  go_loopg [5, 6] li.length (fun g v i wr => ∃ (k : Nat), k + g = li.length ∧ i = .int .i64 k ∧ ∃ va vc, v = .slice va (rowsOf ([] : List ItemD) (fun a => keyLt a x) li k).length vc ∧ Hid (Below W0.heap.size W0 wr) ∧ Hid (wr.ownsRow W0.heap.size 89 3 (.slice va (rowsOf ([] : List ItemD) (fun a => keyLt a x) li k).length vc) (rowsOf ([] : List ItemD) (fun a => keyLt a x) li k).length (itemCells (rowsOf ([] : List ItemD) (fun a => keyLt a x) li k))))
  case atStart => exact ⟨0, by omega, rfl, _, _, by rw [rowsOf_zero] <;> rfl, B1, by rw [rowsOf_zero]; exact R1⟩
  case round =>
    obtain ⟨k, hkg, rfl, va, vc, rfl, BR, RR⟩ := hrel
    clear B1 R1 hW1
    have hol := rowsOf_le ([] : List ItemD) (fun a => keyLt a x) li k
    have hwz : W0.heap.size ≤ wr.heap.size := BR.out.size
    rw [List.length_nil, Nat.zero_add] at hol
    have k1 := (K0.out.on BR.out K0.out.lt).cell (j := 1) rfl
    have y0 := (X0.out.on BR.out X0.out.lt).cell (j := 0) rfl
    cases gk with
    | zero =>
      have hlt : ¬ (k : Int) < (li.length : Int) := by omega
      obtain rfl : k = li.length := by omega
      obtain ⟨L, hL⟩ : ∃ L, rowsOf ([] : List ItemD) (fun a => keyLt a x) li li.length = L := ⟨_, rfl⟩
      have HPI : Hid (putIn keyLt li x = rowsOf (L ++ [x]) (fun a => keyLt x a) li li.length) := by show _ = _; rw [putIn_rows, hL]
      rw [hL] at RR hol ⊢
      clear hL
      have y1 := (X0.out.on BR.out X0.out.lt).cell (j := 1) rfl
      have y2 := (X0.out.on BR.out X0.out.lt).cell (j := 2) rfl
      obtain ⟨i0, hi, hz0, hz1, hz2⟩ := info_parts toItem_info
      have hnew := itemR_new wr x
      have hone := itemR_one x
      have bb := below_more (Below.refl wr.heap.size wr) (.cells #[.string x.key, .string x.val, .int .i64 x.ver] 89)
      have B3 := hid (below_via BR.out bb)
      have hrow := itemR_below RR.out bb
      have hbase : W0.heap.size ≤ (wr.alloc (.cells #[.string x.key, .string x.val, .int .i64 x.ver] 89)).heap.size := B3.out.size
      clear bb BR RR
      go_wp2_with (at_builtin; refine wpList_append_own _ rfl (.tmp 39) (.tmp 41) 54 rfl W0.heap.size 89 i0 _ 3 40 Tryz.underlying54 hi hz0 hz1 hz2 rfl (by decide) _ _ _ rfl hrow ⟨wr.heap.size, 0, none⟩ 1 1 (itemEnc x) rfl rfl hnew hone (by unfold maxLen; omega) (by omega) hbase ?_)
      intro v' w4 hown hgrow _
      obtain ⟨va', vc', rfl⟩ := row_shape hown
      rw [← itemR_snoc] at hown
      have B4 := hid (itemR_down B3.out hrow hgrow (Nat.le_refl _) hbase)
      obtain ⟨M, hM⟩ : ∃ M, L ++ [x] = M := ⟨_, rfl⟩
      have hML : M.length = L.length + 1 := by rw [← hM]; simp
      rw [hM] at hown HPI
      rw [← hML] at hown ⊢
      have R4 := hid hown
      have hm2 : M.length ≤ 9 := by omega
      clear hM hML hown hgrow hrow hbase B3 hnew hone hol k1 y0 y1 y2 hwz hlt
      go_wp2
      go_loopg [5, 7] li.length (fun g v i wr => ∃ (k : Nat), k + g = li.length ∧ i = .int .i64 k ∧ ∃ va vc, v = .slice va (rowsOf M (fun a => keyLt x a) li k).length vc ∧ Hid (Below W0.heap.size W0 wr) ∧ Hid (wr.ownsRow W0.heap.size 89 3 (.slice va (rowsOf M (fun a => keyLt x a) li k).length vc) (rowsOf M (fun a => keyLt x a) li k).length (itemCells (rowsOf M (fun a => keyLt x a) li k))))
      case atStart => exact ⟨0, by omega, rfl, _, _, by rw [rowsOf_zero] <;> rfl, B4, by rw [rowsOf_zero]; exact R4⟩
      case round =>
        obtain ⟨k, hkg, rfl, va, vc, rfl, BR, RR⟩ := hrel
        clear B4 R4
        have hol := rowsOf_le M (fun a => keyLt x a) li k
        have hwz : W0.heap.size ≤ wr.heap.size := BR.out.size
        have k1 := (K0.out.on BR.out K0.out.lt).cell (j := 1) rfl
        have y0 := (X0.out.on BR.out X0.out.lt).cell (j := 0) rfl
        cases gk with
        | zero =>
          have hlt : ¬ (k : Int) < (li.length : Int) := by omega
          obtain rfl : k = li.length := by omega
          obtain ⟨N, hN⟩ : ∃ N, rowsOf M (fun a => keyLt x a) li li.length = N := ⟨_, rfl⟩
          rw [hN] at RR HPI hol ⊢
          clear hN
          have BW := hid (below_via B0.out BR.out)
          have hw0 : w.heap.size ≤ W0.heap.size := B0.out.size
          have f1 := (K0.out.on BR.out K0.out.lt).thaw 1
          by_cases h8 : (8 : Int) < (N.length : Int)
          · go_wp2
            go_ret
            rw [HPI.out]
            exact Or.inl ⟨by omega, rfl, BW.out⟩
          · go_wp2
            go_ret
            rw [HPI.out]
            exact Or.inr ⟨by omega, rfl, va, vc, wr, BW.out, row_down RR.out hw0, rfl⟩
        | succ q =>
          have hlt : k < li.length := by omega
          have hlt' : (k : Int) < (li.length : Int) := by omega
          have hne : li ≠ [] := by intro e; rw [e] at hlt; simp at hlt
          have HST := hid (rowsOf_step M (fun a => keyLt x a) li k hlt)
          obtain ⟨b, off, rfl, hc⟩ := HA.out.on BR.out hne
          obtain ⟨x0, x1, x2⟩ := hc k hlt
          clear hc
          obtain ⟨L, hL⟩ : ∃ L, rowsOf M (fun a => keyLt x a) li k = L := ⟨_, rfl⟩
          rw [hL] at RR HST hol ⊢
          clear hL
          cases he : keyLt x li[k] with
          | false =>
            rw [he, if_neg (by simp), List.append_nil] at HST
            have hlz : (Op.bytesLess li[k].key.toList x.key.toList || li[k].key.toList == x.key.toList) = true := by have h := less_flip li[k].key.toList x.key.toList; rw [show Op.bytesLess x.key.toList li[k].key.toList = false from he] at h; revert h; cases (Op.bytesLess li[k].key.toList x.key.toList || li[k].key.toList == x.key.toList) <;> decide
            clear he
            go_wp2
            go_quiet (fail)
            go_wp2
            go_roundg q
            case measure => omega
            case rel => exact ⟨k + 1, by omega, by go_num, va, vc, by rw [HST.out], below_drewN BR.out _, by rw [HST.out]; exact RR⟩
          | true =>
            rw [he, if_pos rfl] at HST
            have hlz : (Op.bytesLess li[k].key.toList x.key.toList || li[k].key.toList == x.key.toList) = false := by have h := less_flip li[k].key.toList x.key.toList; rw [show Op.bytesLess x.key.toList li[k].key.toList = true from he] at h; revert h; cases (Op.bytesLess li[k].key.toList x.key.toList || li[k].key.toList == x.key.toList) <;> decide
            clear he
            go_wp2
            go_quiet (fail)
            have BQ : Hid (Below W0.heap.size W0 (wr.drewN nq)) := below_drewN BR.out _
            have RQ : Hid ((wr.drewN nq).ownsRow W0.heap.size 89 3 (.slice va L.length vc) L.length (itemCells L)) := RR
            generalize wr.drewN nq = wq at BQ RQ ⊢
            clear BR RR hwz x0 x1 x2 k1 y0
            obtain ⟨b', off', e', hc⟩ := HA.out.on BQ.out hne
            cases e'
            obtain ⟨x0, x1, x2⟩ := hc k hlt
            clear hc
            have k1 := (K0.out.on BQ.out K0.out.lt).cell (j := 1) rfl
            have y0 := (X0.out.on BQ.out X0.out.lt).cell (j := 0) rfl
            obtain ⟨i0, hi, hz0, hz1, hz2⟩ := info_parts toItem_info
            have hnew := itemR_new wq li[k]
            have hone := itemR_one li[k]
            have bb := below_more (Below.refl wq.heap.size wq) (.cells #[.string li[k].key, .string li[k].val, .int .i64 li[k].ver] 89)
            have B3 := hid (below_via BQ.out bb)
            have hrow := itemR_below RQ.out bb
            have hbase : W0.heap.size ≤ (wq.alloc (.cells #[.string li[k].key, .string li[k].val, .int .i64 li[k].ver] 89)).heap.size := Nat.le_trans (Nat.le_refl _) B3.out.size
            clear bb BQ RQ
            go_wp2_with (at_builtin; refine wpList_append_own _ rfl (.tmp 63) (.tmp 71) 54 rfl W0.heap.size 89 i0 _ 3 40 Tryz.underlying54 hi hz0 hz1 hz2 rfl (by decide) _ _ _ rfl hrow ⟨wq.heap.size, 0, none⟩ 1 1 (itemEnc li[k]) rfl rfl hnew hone (by unfold maxLen; omega) (by omega) hbase ?_)
            intro v' w4 hown hgrow _
            obtain ⟨va', vc', rfl⟩ := row_shape hown
            rw [← itemR_snoc] at hown
            have B4 := hid (itemR_down B3.out hrow hgrow (Nat.le_refl _) B3.out.size)
            have R4 := hid hown
            have HL2 : Hid ((L ++ [li[k]]).length = L.length + 1) := by show _ = _; simp
            clear hown hgrow hrow hbase B3 hnew hone
            go_wp2
            go_roundg q
            case measure => omega
            case rel =>
              refine ⟨k + 1, by omega, by go_num, va', vc', by rw [HST.out, HL2.out], B4, ?_⟩
              rw [HST.out, HL2.out]
              exact R4
    | succ q =>
      have hlt : k < li.length := by omega
      have hlt' : (k : Int) < (li.length : Int) := by omega
      have hne : li ≠ [] := by intro e; rw [e] at hlt; simp at hlt
      have HST := hid (rowsOf_step ([] : List ItemD) (fun a => keyLt a x) li k hlt)
      obtain ⟨b, off, rfl, hc⟩ := HA.out.on BR.out hne
      obtain ⟨x0, x1, x2⟩ := hc k hlt
      clear hc
      obtain ⟨L, hL⟩ : ∃ L, rowsOf ([] : List ItemD) (fun a => keyLt a x) li k = L := ⟨_, rfl⟩
      rw [hL] at RR HST hol ⊢
      clear hL
      cases he : keyLt li[k] x with
      | false =>
        rw [he, if_neg (by simp), List.append_nil] at HST
        have hlz : Op.bytesLess li[k].key.toList x.key.toList = false := he
        clear he
        go_wp2
        go_quiet (fail)
        go_wp2
        go_roundg q
        case measure => omega
        case rel => exact ⟨k + 1, by omega, by go_num, va, vc, by rw [HST.out], below_drewN BR.out _, by rw [HST.out]; exact RR⟩
      | true =>
        rw [he, if_pos rfl] at HST
        have hlz : Op.bytesLess li[k].key.toList x.key.toList = true := he
        clear he
        go_wp2
        go_quiet (fail)
        have BQ : Hid (Below W0.heap.size W0 (wr.drewN nq)) := below_drewN BR.out _
        have RQ : Hid ((wr.drewN nq).ownsRow W0.heap.size 89 3 (.slice va L.length vc) L.length (itemCells L)) := RR
        generalize wr.drewN nq = wq at BQ RQ ⊢
        clear BR RR hwz x0 x1 x2 k1 y0
        obtain ⟨b', off', e', hc⟩ := HA.out.on BQ.out hne
        cases e'
        obtain ⟨x0, x1, x2⟩ := hc k hlt
        clear hc
        have k1 := (K0.out.on BQ.out K0.out.lt).cell (j := 1) rfl
        have y0 := (X0.out.on BQ.out X0.out.lt).cell (j := 0) rfl
        obtain ⟨i0, hi, hz0, hz1, hz2⟩ := info_parts toItem_info
        have hnew := itemR_new wq li[k]
        have hone := itemR_one li[k]
        have bb := below_more (Below.refl wq.heap.size wq) (.cells #[.string li[k].key, .string li[k].val, .int .i64 li[k].ver] 89)
        have B3 := hid (below_via BQ.out bb)
        have hrow := itemR_below RQ.out bb
        have hbase : W0.heap.size ≤ (wq.alloc (.cells #[.string li[k].key, .string li[k].val, .int .i64 li[k].ver] 89)).heap.size := Nat.le_trans (Nat.le_refl _) B3.out.size
        clear bb BQ RQ
        go_wp2_with (at_builtin; refine wpList_append_own _ rfl (.tmp 29) (.tmp 37) 54 rfl W0.heap.size 89 i0 _ 3 40 Tryz.underlying54 hi hz0 hz1 hz2 rfl (by decide) _ _ _ rfl hrow ⟨wq.heap.size, 0, none⟩ 1 1 (itemEnc li[k]) rfl rfl hnew hone (by unfold maxLen; omega) (by omega) hbase ?_)
        intro v' w4 hown hgrow _
        obtain ⟨va', vc', rfl⟩ := row_shape hown
        rw [← itemR_snoc] at hown
        have B4 := hid (itemR_down B3.out hrow hgrow (Nat.le_refl _) B3.out.size)
        have R4 := hid hown
        have HL2 : Hid ((L ++ [li[k]]).length = L.length + 1) := by show _ = _; simp
        clear hown hgrow hrow hbase B3 hnew hone
        go_wp2
        go_roundg q
        case measure => omega
        case rel =>
          refine ⟨k + 1, by omega, by go_num, va', vc', by rw [HST.out, HL2.out], B4, ?_⟩
          rw [HST.out, HL2.out]
          exact R4
end Go.Proofs.YtoanhjjigbjecaaGreatDoor
