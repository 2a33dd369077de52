/-
  The walks of spec.l08Drops, l08New.
-/
import Derived.Test.YtggogiepebnckaaDoorJoint32
import Derived.Test.YtggogiepebnckaaDoorJoint1
import Derived.Test.YtggogiepebnckaaDoorJoint31
import Derived.Test.YtggogiepebnckaaDoorJoint18
namespace Go.Proofs.YtggogiepebnckaaDoor
open Go.RowKit

theorem isNew_at {l : List FileD} {k : Nat} (h : FirstAt l sNew k) : l.any (fun f => isNew f.name) = true := by
  obtain ⟨hk, h1, _⟩ := h
  rw [List.any_eq_true]
  refine ⟨l[k], List.getElem_mem hk, ?_⟩
  rw [h1]
  exact isNew_iff.2 rfl
theorem isNew_none {l : List FileD} (h : NoneAt l sNew) : l.any (fun f => isNew f.name) = false := by
  rw [List.any_eq_false]
  intro f hf hq
  obtain ⟨j, hj, rfl⟩ := List.mem_iff_getElem.1 hf
  refine h j hj ?_
  apply ByteArray.ext
  apply Array.toList_inj.1
  rw [isNew_iff.1 hq]
  rfl

set_option maxRecDepth 1000000 in
set_option maxHeartbeats 1000000 in
theorem l08New_any (ao : Option Addr) (l : List FileD) (cap : Nat) (hl : l.length ≤ 1048576) (w : World) (ha : FilesAt w ao l) :
    Calls Tryd.prog 45 #[.agg #[.slice ao l.length cap]] w fun e w' => actsDid (newA l) w e w' := by
  have HA := hid ha
  have B0 := hid (below_more (Below.refl w.heap.size w) (.cells #[.slice ao l.length cap] 37))
  clear ha
  go_enter Tryd.func45, Tryd.ntmps45
  go_wp2_with fail
  refine (l03At_any ao l cap sNew hl _ (HA.out.on B0.out)).mono ?_
  rintro e w1 ⟨(⟨k, hk, rfl⟩ | ⟨hn, rfl⟩), b1⟩
  · have B1 := hid (below_via B0.out b1)
    have HR : Hid (newA l = [dropA sNew]) := (show _ = _ by rw [newA, isNew_at hk]; rfl)
    have hk0 : (0 : Int) ≤ (k : Int) := by omega
    have BL := hid (below_more B1.out (.cells #[.int .i64 4, .string ⟨#[115, 43]⟩, .string ⟨#[]⟩, .string ⟨#[]⟩] 82))
    have RL : Hid (World.ownsRow (w1.alloc (.cells #[.int .i64 4, .string ⟨#[115, 43]⟩, .string ⟨#[]⟩, .string ⟨#[]⟩] 82)) w.heap.size 82 4 (.slice (some ⟨w1.heap.size, 0, none⟩) 1 1) 1 (actCells [dropA sNew])) :=
      actR_made (A := [dropA sNew]) (heap_alloc_new w1 _) B1.out.size (by simp)
    clear b1 hk B0
    go_wp2
    go_ret
    rw [HR.out]
    exact ⟨_, _, rfl, RL.out, BL.out⟩
  · have B1 := hid (below_via B0.out b1)
    have HR : Hid (newA l = []) := (show _ = _ by rw [newA, isNew_none hn]; rfl)
    have BL := hid (below_more B1.out (.cells #[] 82))
    have RL := hid (actR_nil w1 w.heap.size B1.out.size)
    clear b1 hn B0
    go_wp2
    go_ret
    rw [HR.out]
    exact ⟨_, _, rfl, RL.out, BL.out⟩

set_option maxRecDepth 1000000 in
set_option maxHeartbeats 2000000 in
theorem l08Drops_any (ix : Int) (ao : Option Addr) (l : List FileD) (cap : Nat) (hl : l.length ≤ 1048576) (hsn : ∀ f ∈ l, f.name.size ≤ 1048576) (w : World) (ha : FilesAt w ao l) :
    Calls Tryd.prog 46 #[.agg #[.slice ao l.length cap], .int .i64 ix] w fun e w' => actsDid (dropsOf (isOther ix) l) w e w' := by
  obtain ⟨i0, hi, hz0, hz1, hz2⟩ := info_parts actR_info
  have HA := hid ha
  have HSN := hid hsn
  have B0 := hid (below_more (below_more (Below.refl w.heap.size w) (.cells #[.slice ao l.length cap] 37)) (.cells #[] 82))
  have hx0 : BlockIs (w.alloc (.cells #[.slice ao l.length cap] 37)) w.heap.size 37 [.slice ao l.length cap] := heap_alloc_new w _
  have D0 := hid (hx0.on (below_more (Below.refl _ _) (.cells #[] 82)) hx0.lt)
  have hsz : (w.alloc (.cells #[.slice ao l.length cap] 37)).heap.size = w.heap.size + 1 := by simp [World.alloc, -World.alloc_eq]
  have R0 := hid (actR_nil (w.alloc (.cells #[.slice ao l.length cap] 37)) w.heap.size (by omega))
  rw [hsz] at R0
  clear ha hsn hx0 hsz
  obtain ⟨p, hp⟩ : ∃ p, isOther ix = p := ⟨_, rfl⟩
  have HP := hid hp
  rw [hp]
  clear hp
  go_enter Tryd.func46, Tryd.ntmps46
  go_wp2
  go_loopg [5, 6, 7] l.length (fun q v i _ wr => ∃ (k : Nat), k + q = l.length ∧ i = .int .i64 k ∧ ∃ va vc, v = .slice va (dropsOf p (l.take k)).length vc ∧ Hid (Below w.heap.size w wr) ∧ Hid (BlockIs wr w.heap.size 37 [.slice ao l.length cap]) ∧ Hid (wr.ownsRow w.heap.size 82 4 (.slice va (dropsOf p (l.take k)).length vc) (dropsOf p (l.take k)).length (actCells (dropsOf p (l.take k)))))
  case atStart => exact ⟨0, by omega, rfl, _, _, rfl, B0, D0, R0⟩
  case round =>
    obtain ⟨k, hkg, rfl, va, vc, rfl, BR, DR, RR⟩ := hrel
    clear B0 D0 R0
    have hdl := dropsOf_length p (l.take k)
    rw [List.length_take] at hdl
    have d0 := DR.out.cell (j := 0) rfl
    cases gk with
    | zero =>
      have hlt : ¬ (k : Int) < (l.length : Int) := by omega
      rw [List.take_of_length_le (show l.length ≤ k by omega)] at RR ⊢
      go_wp2
      go_ret
      exact ⟨va, vc, rfl, RR.out, BR.out⟩
    | succ q =>
      have hlt : k < l.length := by omega
      have hlt' : (k : Int) < (l.length : Int) := by omega
      have hne : l ≠ [] := by intro e; rw [e] at hlt; simp at hlt
      obtain ⟨b, off, rfl, hc⟩ := HA.out.on BR.out hne
      obtain ⟨x0, x1, x2⟩ := hc k hlt
      clear hc
      have HST := hid (dropsOf_step (p := p) hlt)
      have hns := HSN.out l[k] (List.getElem_mem hlt)
      obtain ⟨L, hL⟩ : ∃ L, dropsOf p (l.take k) = L := ⟨_, rfl⟩
      rw [hL] at RR HST hdl ⊢
      clear hL
      obtain ⟨nm, hnm⟩ : ∃ nm, l[k].name = nm := ⟨_, rfl⟩
      rw [hnm] at HST hns x0
      have HNM := hid hnm
      clear hnm
      go_wp2_with fail
      refine (l08Index_any nm hns _).mono ?_
      rintro e w1 ⟨rfl, b1⟩
      have B1 := hid (below_via BR.out b1)
      have D1 := hid (DR.out.on b1 DR.out.lt)
      have R1 := hid (actR_below RR.out b1)
      clear b1 BR DR RR x0 x1 x2 d0
      have STAY : Hid (p nm = false → dropsOf p (l.take (k + 1)) = L) := fun h => by have := HST.out; rw [h] at this; exact this
      cases hn : nameNum 115 1000000 nm with
      | none =>
        have HST2 := hid (STAY.out (by rw [← HP.out, isOther_none hn]))
        rw [show nameAns none = -1 from rfl]
        clear HST STAY hn
        go_wp2
        go_roundg q
        case measure => omega
        case rel =>
          refine ⟨k + 1, by omega, by go_num, va, vc, by rw [HST2.out], B1, D1, ?_⟩
          rw [HST2.out]
          exact R1
      | some n =>
        rw [show nameAns (some n) = (n : Int) from rfl]
        have hpn : p nm = !((n : Int) == ix) := by rw [← HP.out, isOther_some hn]
        have hn0 : (0 : Int) ≤ (n : Int) := by omega
        by_cases heq : (n : Int) = ix
        · have HST2 := hid (STAY.out (by rw [hpn, heq]; simp))
          have heqd : ((n : Int) == ix) = true := by simpa using heq
          clear HST STAY hn hpn heq
          go_wp2
          go_roundg q
          case measure => omega
          case rel =>
            refine ⟨k + 1, by omega, by go_num, va, vc, by rw [HST2.out], B1, D1, ?_⟩
            rw [HST2.out]
            exact R1
        · have heqd : ((n : Int) == ix) = false := by simpa using heq
          have HST2 : Hid (dropsOf p (l.take (k + 1)) = L ++ [dropA nm]) := by have := HST.out; rw [hpn, heqd] at this; exact this
          obtain ⟨b', off', hbo, hc⟩ := HA.out.on B1.out hne
          cases hbo
          obtain ⟨x0, x1, x2⟩ := hc k hlt
          rw [HNM.out] at x0
          have d0 := D1.out.cell (j := 0) rfl
          clear HST STAY hn hpn hc
          have hnew := actR_new w1 (dropA nm)
          have hone := actR_one (dropA nm)
          have bb := below_more (Below.refl w1.heap.size w1) (.cells #[.int .i64 (dropA nm).kind, .string (dropA nm).name, .string (dropA nm).text, .string (dropA nm).to] 82)
          have B3 := hid (below_via B1.out bb)
          have D3 := hid (D1.out.on bb D1.out.lt)
          have hrow := actR_below R1.out bb
          have hbase : w.heap.size ≤ (w1.alloc (.cells #[.int .i64 (dropA nm).kind, .string (dropA nm).name, .string (dropA nm).text, .string (dropA nm).to] 82)).heap.size := B3.out.size
          clear bb B1 D1 R1
          go_wp2_with (at_builtin; refine wpList_append_own _ rfl (.tmp 30) (.tmp 38) 42 rfl w.heap.size 82 i0 _ 4 56 Tryd.underlying42 hi hz0 hz1 hz2 rfl (by decide) _ _ _ rfl hrow ⟨w1.heap.size, 0, none⟩ 1 1 (actEnc (dropA nm)) rfl rfl hnew hone (by unfold maxLen; omega) (by omega) hbase ?_)
          intro v' w4 hown hgrow _
          obtain ⟨va', vc', rfl⟩ := row_shape hown
          rw [← actR_snoc] at hown
          have B4 := hid (below_row B3.out hrow hgrow (Nat.le_refl _) hbase)
          have D4 := hid (blk_row D3.out hrow hgrow (by decide))
          have R4 := hid hown
          have HL : Hid ((L ++ [dropA nm]).length = L.length + 1) := by show _ = _; simp
          clear hnew hone hrow hbase hown hgrow B3 D3 x0 x1 x2 d0
          go_wp2
          go_roundg q
          case measure => omega
          case rel =>
            refine ⟨k + 1, by omega, by go_num, va', vc', by rw [HST2.out, HL.out], B4, D4, ?_⟩
            rw [HST2.out, HL.out]
            exact R4
end Go.Proofs.YtggogiepebnckaaDoor
