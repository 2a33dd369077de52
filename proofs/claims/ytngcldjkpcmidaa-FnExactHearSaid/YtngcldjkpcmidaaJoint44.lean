/-
  The walks of impl.(*endpoint).isReached, takeNew: what is new of a text is taken.
  The walks of impl.(*endpoint).isTurn and of slices.IndexFunc over it: whose turn it is.
-/
import Derived.Test.YtngcldjkpcmidaaJoint1
import Derived.Test.YtngcldjkpcmidaaJoint34
import Derived.Test.YtngcldjkpcmidaaJoint38
import Derived.Deep.RegionWith
import Derived.Deep.LoopGhost
namespace Go.Proofs.Ytngcldjkpcmidaa
open Go.RowKit

set_option maxRecDepth 1000000 in
set_option maxHeartbeats 4000000 in
theorem isReached_any (lo g : Nat) (d : StrD) (now : Int) (out : List SegD) (num : Int) (w : World) (h : EpIs w lo g d now out) :
    Calls Try.prog 63 #[.pointer (some ⟨g, 0, none⟩), .int .i64 num] w fun e w' => e = .returned (.bool (reached d.rcv num)) ∧ w' = w := by
  obtain ⟨_, ao, cap, ov, oc, hb, _, _⟩ := h
  have c3 := hb.cell (j := 3) rfl
  clear hb
  obtain ⟨N, hN⟩ : ∃ N, gapNum num d.rcv = N := ⟨_, rfl⟩
  have CG' := implGap_any num d.rcv w
  rw [hN] at CG'
  have CG := hid CG'
  have HR : Hid (reached d.rcv num = decide (N < 32768)) := by show _ = _; rw [reached, hN]
  clear CG' hN
  go_enter Try.func63, Try.ntmps63
  go_wp2_with fail
  refine Calls.mono CG.out ?_
  rintro e w1 ⟨rfl, hw1⟩
  rw [hw1]
  clear hw1 w1
  go_wp2
  go_ret
  exact ⟨by rw [HR.out]; rfl, rfl⟩

set_option maxRecDepth 1000000 in
set_option maxHeartbeats 4000000 in
theorem takeNew_any (lo g : Nat) (d : StrD) (now : Int) (out : List SegD) (num : Int) (text : ByteArray) (ht : text.size ≤ 1048576) (hi : d.inn.size ≤ 1048576) (w : World) (h : EpIs w lo g d now out) :
    Calls Try.prog 64 #[.pointer (some ⟨g, 0, none⟩), .int .i64 num, .string text] w fun e w' => e = .returned (.tuple #[]) ∧ HrTo lo g w w' (takeD num text d) now out := by
  have H := hid h.hr
  obtain ⟨N, hN⟩ : ∃ N : Nat, gapNum num d.rcv = (N : Int) := ⟨(gapNum num d.rcv).toNat, by have := gapNum_bd num d.rcv; omega⟩
  have hN2 : (N : Int) ≤ 65535 := by have := gapNum_bd num d.rcv; omega
  have HT : Hid (takeD num text d = (if (N : Int) < text.size then { d with inn := d.inn ++ text.extract N text.size, rcv := addNum d.rcv (text.size - (N : Int)) } else d)) := by show _ = _; rw [takeD, hN, Int.toNat_natCast]
  have CG' := implGap_any num d.rcv w
  rw [hN] at CG'
  have CG := hid CG'
  clear CG' hN
  obtain ⟨_, ao, cap, ov, oc, hb, _, _⟩ := h
  have c3 := hb.cell (j := 3) rfl
  have c8 := hb.cell (j := 8) rfl
  have f3 := hb.thaw 3
  have f8 := hb.thaw 8
  clear hb
  by_cases q : (N : Int) < (text.size : Int)
  rotate_left
  · have HR : Hid (takeD num text d = d) := by show _ = _; rw [HT.out, if_neg q]
    go_enter Try.func64, Try.ntmps64
    go_wp2_with fail
    refine Calls.mono CG.out ?_
    rintro e w1 ⟨rfl, hw1⟩
    rw [hw1]
    clear hw1 w1
    go_wp2
    go_end0
    exact ⟨rfl, by rw [HR.out]; exact H.out⟩
  obtain ⟨tx, htx⟩ : ∃ tx, text.extract N text.size = tx := ⟨_, rfl⟩
  have hts : tx.size ≤ 1048576 := by rw [← htx, ByteArray.size_extract]; omega
  have HR : Hid (takeD num text d = { d with inn := d.inn ++ tx, rcv := addNum d.rcv (text.size - (N : Int)) }) := by show _ = _; rw [HT.out, if_pos q, htx]
  have i1 : N ≤ text.size := by omega
  have i2 : (N : Int) ≤ (text.size : Int) := by omega
  have CC : Hid (Calls Try.prog 41 #[.string tx] w.drew fun e w4 => e = .returned (.string tx) ∧ (w4.cell? ⟨g, 8, none⟩ = some (.string d.inn) ∧ w4.frozen? ⟨g, 8, none⟩ = false) ∧ Hid (HrTo lo g w w4 d now out)) := by
    have hd : Below w.heap.size w w.drew := below_drewN (Below.refl _ _) 1
    refine Calls.mono (clone_any tx (by omega) w.drew) ?_
    rintro e w4 ⟨rfl, b4⟩
    have h4 := H.out.on (below_via hd b4)
    obtain ⟨_, ao4, cap4, ov4, oc4, hb4, _, _⟩ := h4.1.1
    exact ⟨rfl, ⟨hb4.cell rfl, hb4.thaw 8⟩, h4⟩
  go_enter Try.func64, Try.ntmps64
  go_wp2_with fail
  refine Calls.mono CG.out ?_
  rintro e w1 ⟨rfl, hw1⟩
  rw [hw1]
  clear hw1 w1 CG
  go_wp2
  go_region_with (go_at_call 41; refine Calls.mono CC.out ?_; rintro e w4 ⟨rfl, ⟨k8, j8⟩, H4⟩)
  all_goals
    obtain ⟨V, hV⟩ : ∃ V, w4.setCell ⟨g, 8, none⟩ (.string (d.inn ++ tx)) = V := ⟨_, rfl⟩
    rw [hV]
    have H5 : Hid (HrTo lo g w V { d with inn := d.inn ++ tx } now out) := by rw [← hV]; exact H4.out.inn _
    obtain ⟨_, ao5, cap5, ov5, oc5, hb5, _, _⟩ := H5.out.1.1
    have k3 := hb5.cell (j := 3) rfl
    have j3 := hb5.thaw 3
    clear hb5 H4 CC
    dsimp only at k3
    go_wp2_with fail
    refine Calls.mono (implAddNum_any d.rcv ((text.size : Int) - (N : Int)) _) ?_
    rintro e w6 ⟨rfl, hw6⟩
    rw [hw6]
    clear hw6 w6
    go_wp2
    go_end0
    exact ⟨rfl, by rw [HR.out]; exact H5.out.rcv _⟩
end Go.Proofs.Ytngcldjkpcmidaa

namespace Go.Proofs.Ytngcldjkpcmidaa
open Go.RowKit

set_option maxRecDepth 1000000 in
set_option maxHeartbeats 4000000 in
theorem isTurn_any (lo g : Nat) (d : StrD) (now : Int) (out : List SegD) (x : LateD) (w : World) (h : EpIs w lo g d now out) :
    Calls Try.prog 69 #[.pointer (some ⟨g, 0, none⟩), .agg #[.int .i64 x.num, .string x.text]] w fun e w' => e = .returned (.bool (reached d.rcv x.num)) ∧ Below w.heap.size w w' := by
  have hb0 := below_more (Below.refl w.heap.size w) (.cells #[.int .i64 x.num, .string x.text] 61)
  have hx0 : BlockIs (w.alloc (.cells #[.int .i64 x.num, .string x.text] 61)) w.heap.size 61 [.int .i64 x.num, .string x.text] := heap_alloc_new w _
  have h0 := h.on hb0
  obtain ⟨W0, hW0⟩ : ∃ W0, w.alloc (.cells #[.int .i64 x.num, .string x.text] 61) = W0 := ⟨_, rfl⟩
  rw [hW0] at hb0 hx0 h0
  have B0 := hid hb0
  have x0 := hx0.cell (j := 0) rfl
  have C := hid (isReached_any lo g d now out x.num W0 h0)
  clear hb0 hx0 h0 h
  go_enter Try.func69, Try.ntmps69
  go_wp2_with fail
  refine Calls.mono C.out ?_
  rintro e w1 ⟨rfl, hw1⟩
  rw [hw1]
  clear hw1 w1
  go_wp2
  go_ret
  exact ⟨rfl, B0.out⟩

theorem turnAt_is {rcv : Int} {l : List LateD} {k : Nat} (hk : k < l.length) (h1 : reached rcv l[k].num = true) (h2 : ∀ j (hj : j < l.length), j < k → reached rcv l[j].num = false) : turnAt rcv l = k := by
  unfold turnAt
  rw [List.findIdx_eq hk]
  exact ⟨h1, fun j hj => h2 j (by omega) hj⟩
theorem turnAt_none {rcv : Int} {l : List LateD} (h2 : ∀ j (hj : j < l.length), reached rcv l[j].num = false) : turnAt rcv l = l.length := by
  unfold turnAt
  rw [List.findIdx_eq_length]
  intro x hx
  obtain ⟨j, hj, rfl⟩ := List.mem_iff_getElem.1 hx
  exact h2 j hj
/-- the first whose turn it is, else -1 -/
def turnI (rcv : Int) (l : List LateD) : Int := if turnAt rcv l < l.length then (turnAt rcv l : Int) else -1
set_option maxRecDepth 1000000 in
set_option maxHeartbeats 4000000 in
theorem indexTurn_any (lo g : Nat) (d : StrD) (now : Int) (out : List SegD) (l : List LateD) (ao : Option Addr) (cap : Nat) (hl : l.length ≤ 1048576) (w : World) (h : EpIs w lo g d now out) (ha : LatesAt w ao l) :
    Calls Try.prog 68 #[.slice ao l.length cap, .func (.func 69) #[.pointer (some ⟨g, 0, none⟩)] #[]] w fun e w' => e = .returned (.int .i64 (turnI d.rcv l)) ∧ Below w.heap.size w w' := by
  have H := hid h
  have HA := hid ha
  clear h ha
  go_enter Try.func68, Try.ntmps68
  go_wp2
  go_loopg [5, 8] l.length (fun q _ i wr => ∃ (k : Nat), k + q = l.length ∧ i = .int .i64 k ∧ Hid (Below w.heap.size w wr) ∧ Hid (∀ j (hj : j < l.length), j < k → reached d.rcv l[j].num = false))
  case atStart => exact ⟨0, by omega, rfl, (show Below _ _ _ from Below.refl _ _), (fun j _ h => absurd h (by omega))⟩
  case round =>
    obtain ⟨k, hkg, rfl, BR, RT⟩ := hrel
    cases gk with
    | zero =>
      have hlt : ¬ (k : Int) < (l.length : Int) := by omega
      have HR : Hid (turnI d.rcv l = -1) := by show _ = _; rw [turnI, turnAt_none (fun j hj => RT.out j hj (by omega)), if_neg (by omega)]
      go_wp2
      go_ret
      exact ⟨by rw [HR.out]; rfl, BR.out⟩
    | succ q =>
      have hlt : k < l.length := by omega
      have hlt' : (k : Int) < (l.length : Int) := by omega
      have hne : l ≠ [] := by intro e; rw [e] at hlt; simp at hlt
      obtain ⟨b, off, rfl, hc⟩ := HA.out.on BR.out hne
      obtain ⟨x0, x1⟩ := hc k hlt
      clear hc
      have C' := isTurn_any lo g d now out l[k] wr (H.out.on BR.out)
      cases hq : reached d.rcv l[k].num with
      | true =>
        rw [hq] at C'
        have C := hid C'
        have HR : Hid (turnI d.rcv l = (k : Int)) := by show _ = _; rw [turnI, turnAt_is hlt hq RT.out, if_pos hlt]
        clear C' hq
        go_wp2_with fail
        refine Calls.mono C.out ?_
        rintro e w1 ⟨rfl, b1⟩
        have B1 := hid (below_via BR.out b1)
        clear b1 C
        go_wp2
        go_ret
        exact ⟨by rw [HR.out]; rfl, B1.out⟩
      | false =>
        rw [hq] at C'
        have C := hid C'
        have RT2 : Hid (∀ j (hj : j < l.length), j < k + 1 → reached d.rcv l[j].num = false) := fun j hj hjk => by
          rcases Nat.lt_or_ge j k with q1 | q1
          · exact RT.out j hj q1
          · obtain rfl : j = k := by omega
            exact hq
        clear C' hq RT
        go_wp2_with fail
        refine Calls.mono C.out ?_
        rintro e w1 ⟨rfl, b1⟩
        have B1 := hid (below_via BR.out b1)
        clear b1 C
        go_wp2
        go_roundg q
        case measure => omega
        case rel => exact ⟨k + 1, by omega, by go_num, B1, RT2⟩
end Go.Proofs.Ytngcldjkpcmidaa
