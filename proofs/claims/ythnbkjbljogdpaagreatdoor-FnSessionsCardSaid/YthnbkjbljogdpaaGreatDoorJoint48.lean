/-
  The walk of spec.SameKeep.
  The walk of laws.starts: a text begins with another.
-/
import Derived.Test.YthnbkjbljogdpaaGreatDoorJoint47
import Derived.Test.YthnbkjbljogdpaaGreatDoorRows
import Derived.Deep.QuietTactic
import Derived.Deep.LoopGhost
import Derived.BigQuiet
import Derived.Test.YthnbkjbljogdpaaGreatDoorJoint1
import Derived.WalkSmall
import Derived.WalkKit
namespace Go.Proofs.YthnbkjbljogdpaaGreatDoor
open Go.RowKit

set_option maxRecDepth 1000000 in
set_option maxHeartbeats 4000000 in
theorem specSameKeep_any (ao bo co eo : Option Addr) (ls ms : List SessionD) (li mi : List ItemD) (ac bc cc ec : Nat) (_h1 : ls.length ≤ 1048576) (_h2 : li.length ≤ 1048576) (_h3 : ms.length ≤ 1048576) (_h4 : mi.length ≤ 1048576) (w : World) (ha : SessionsAt w ao ls) (hb : ItemsAt w bo li) (hc : SessionsAt w co ms) (hd : ItemsAt w eo mi) :
    Calls Tryz.prog 10 #[.agg #[.slice ao ls.length ac, .slice bo li.length bc], .agg #[.slice co ms.length cc, .slice eo mi.length ec]] w fun e w' => e = .returned (.bool (keepSame ls ms li mi)) ∧ Below w.heap.size w w' := by
  have t2 := two_blocks w (.cells #[.slice ao ls.length ac, .slice bo li.length bc] 27) (.cells #[.slice co ms.length cc, .slice eo mi.length ec] 27)
  have XA : Hid (BlockIs _ w.heap.size 27 [.slice ao ls.length ac, .slice bo li.length bc]) := t2.2.2.1
  have XB : Hid (BlockIs _ (w.heap.size + 1) 27 [.slice co ms.length cc, .slice eo mi.length ec]) := t2.2.2.2
  have BL := hid t2.1
  have bw : Below w.heap.size w ((w.alloc (.cells #[.slice ao ls.length ac, .slice bo li.length bc] 27)).alloc (.cells #[.slice co ms.length cc, .slice eo mi.length ec] 27)) := t2.1
  have HA := hid (ha.on bw)
  have HB := hid (hb.on bw)
  have HC := hid (hc.on bw)
  have HD := hid (hd.on bw)
  clear t2 bw ha hb hc hd
  obtain ⟨W, hW⟩ : ∃ W, (w.alloc (.cells #[.slice ao ls.length ac, .slice bo li.length bc] 27)).alloc (.cells #[.slice co ms.length cc, .slice eo mi.length ec] 27) = W := ⟨_, rfl⟩
  rw [hW] at XA XB BL HA HB HC HD
  have a0 := XA.out.cell (j := 0) rfl
  have a1 := XA.out.cell (j := 1) rfl
  have b0 := XB.out.cell (j := 0) rfl
  have b1 := XB.out.cell (j := 1) rfl
  by_cases hn : ls.length = ms.length
  rotate_left
  · have HN : Hid (keepSame ls ms li mi = false) := (show _ = _ by rw [keepSame, alikeBy_len hn, Bool.false_and])
    have hd2 : ((ls.length : Int) == (ms.length : Int)) = false := by simp; omega
    have hd3 : ¬ ls.length = ms.length := hn
    clear HA HB HC HD
    go_enter Tryz.func10, Tryz.ntmps10
    go_wp2
    go_ret
    exact ⟨by rw [HN.out]; rfl, BL.out⟩
  by_cases hn2 : li.length = mi.length
  rotate_left
  · have HN : Hid (keepSame ls ms li mi = false) := (show _ = _ by rw [keepSame, alikeBy_len (eq := itemEq) hn2, Bool.and_false])
    have hd2 : ((li.length : Int) == (mi.length : Int)) = false := by simp; omega
    have hd3 : ¬ li.length = mi.length := hn2
    obtain ⟨n, hk⟩ : ∃ n, ls.length = n := ⟨_, rfl⟩
    have hmn : ms.length = n := by omega
    rw [hk] at a0 hW ⊢
    rw [hmn] at b0 hW ⊢
    clear HA HB HC HD hn XA XB
    go_enter Tryz.func10, Tryz.ntmps10
    go_wp2
    go_ret
    exact ⟨by rw [HN.out]; rfl, BL.out⟩
  obtain ⟨n, hk⟩ : ∃ n, ls.length = n := ⟨_, rfl⟩
  have hmn : ms.length = n := by omega
  obtain ⟨m, hk2⟩ : ∃ n, li.length = n := ⟨_, rfl⟩
  have hmn2 : mi.length = m := by omega
  have HK := hid hk
  have HM := hid hmn
  have HK2 := hid hk2
  have HM2 := hid hmn2
  rw [hk, hk2] at XA hW ⊢
  rw [hmn, hmn2] at XB hW ⊢
  rw [hk] at a0
  rw [hk2] at a1
  rw [hmn] at b0
  rw [hmn2] at b1
  have hnb : n ≤ 1048576 := by omega
  have hmb : m ≤ 1048576 := by omega
  clear hk hk2 hmn hmn2 hn hn2
  go_enter Tryz.func10, Tryz.ntmps10
  go_wp2
  clear hW a0 a1 b0 b1
  go_loopg [5] n (fun g i wr => ∃ (k : Nat), k + g = n ∧ i = .int .i64 k ∧ Hid (alikeBy sessEq ls ms = alikeBy sessEq (ls.drop k) (ms.drop k)) ∧ Hid (Below W.heap.size W wr))
  case atStart => exact ⟨0, by omega, rfl, (show _ = _ by simp), (show Below _ _ _ from Below.refl _ _)⟩
  case round =>
    obtain ⟨k, hkg, rfl, AL, BR⟩ := hrel
    have XA1 := XA.out.on BR.out XA.out.lt
    have XB1 := XB.out.on BR.out XB.out.lt
    have aJ := XA1.cell (j := 0) rfl
    have bJ := XB1.cell (j := 0) rfl
    clear XA1 XB1
    cases gk with
    | zero =>
      have hr := hid (AL.out.trans (alikeBy_end (by rw [HK.out]; omega) (by rw [HM.out]; omega)))
      have hlt : decide (k < n) = false := by simp; omega
      have hlt0 : ¬ k < n := by omega
      clear hkg
      have HS1 := hid hr.out
      have BR1 := hid BR.out
      have a1 := (XA.out.on BR1.out XA.out.lt).cell (j := 1) rfl
      have b1 := (XB.out.on BR1.out XB.out.lt).cell (j := 1) rfl
      go_wp2
      go_loopg [6] m (fun g i wr => ∃ (k : Nat), k + g = m ∧ i = .int .i64 k ∧ Hid (alikeBy itemEq li mi = alikeBy itemEq (li.drop k) (mi.drop k)) ∧ Hid (Below W.heap.size W wr))
      case atStart => exact ⟨0, by omega, rfl, (show _ = _ by simp), (show Below _ _ _ from BR1.out)⟩
      case round =>
        obtain ⟨k, hkg, rfl, AL, BR⟩ := hrel
        have XA1 := XA.out.on BR.out XA.out.lt
        have XB1 := XB.out.on BR.out XB.out.lt
        have aJ := XA1.cell (j := 1) rfl
        have bJ := XB1.cell (j := 1) rfl
        clear XA1 XB1
        cases gk with
        | zero =>
          have hr := hid (AL.out.trans (alikeBy_end (by rw [HK2.out]; omega) (by rw [HM2.out]; omega)))
          have hlt : decide (k < m) = false := by simp; omega
          have hlt0 : ¬ k < m := by omega
          clear hkg
          go_wp2
          go_ret
          exact ⟨by rw [keepSame, HS1.out, hr.out]; rfl, below_via BL.out BR.out⟩
        | succ g =>
          have hlt : decide ((k : Int) < (m : Int)) = true := by simp; omega
          have hlt' : (k : Int) < (m : Int) := by omega
          have h1 : k < li.length := by rw [HK2.out]; omega
          have h2 : k < mi.length := by rw [HM2.out]; omega
          have hneL : li ≠ [] := by intro e; rw [e] at h1; simp at h1
          have hneM : mi ≠ [] := by intro e; rw [e] at h2; simp at h2
          obtain ⟨b, off, rfl, hc⟩ := HB.out.on BR.out hneL
          obtain ⟨x0, x1, x2⟩ := hc k h1
          obtain ⟨b', off', rfl, hc'⟩ := HD.out.on BR.out hneM
          obtain ⟨y0, y1, y2⟩ := hc' k h2
          have ST := hid (AL.out.trans (alikeBy_step h1 h2))
          obtain ⟨p, hp⟩ : ∃ p, li[k] = p := ⟨_, rfl⟩
          obtain ⟨q, hq⟩ : ∃ q, mi[k] = q := ⟨_, rfl⟩
          rw [hp] at x0 x1 x2 ST
          rw [hq] at y0 y1 y2 ST
          obtain ⟨p0, p1, p2⟩ := p
          obtain ⟨q0, q1, q2⟩ := q
          dsimp only at x0 x1 x2 y0 y1 y2
          clear hc hc' hp hq hneL hneM h1 h2 AL
          have hne := fun w => neq_Item p0 p1 p2 q0 q1 q2 w
          have hgd := fun a b w => guard_Item a b #[.string p0, .string p1, .int .i64 p2] #[.string q0, .string q1, .int .i64 q2] w
          obtain ⟨r, hr⟩ : ∃ r, itemEq ⟨p0, p1, p2⟩ ⟨q0, q1, q2⟩ = r := ⟨_, rfl⟩
          rw [hr] at hne ST
          clear hr
          cases r with
          | false =>
            rw [Bool.not_false] at hne
            go_wp2
            go_quiet (fail)
            go_wp2
            go_ret
            exact ⟨by rw [keepSame, HS1.out, ST.out]; simp, below_drewN (below_via BL.out BR.out) _⟩
          | true =>
            rw [Bool.not_true] at hne
            have ST2 := hid (ST.out.trans (Bool.true_and _))
            go_wp2
            go_quiet (fail)
            go_wp2
            go_roundg g
            case measure => omega
            case rel => exact ⟨k + 1, by omega, by go_num, ST2.out, below_drewN BR.out _⟩

    | succ g =>
      have hlt : decide ((k : Int) < (n : Int)) = true := by simp; omega
      have hlt' : (k : Int) < (n : Int) := by omega
      have h1 : k < ls.length := by rw [HK.out]; omega
      have h2 : k < ms.length := by rw [HM.out]; omega
      have hneL : ls ≠ [] := by intro e; rw [e] at h1; simp at h1
      have hneM : ms ≠ [] := by intro e; rw [e] at h2; simp at h2
      obtain ⟨b, off, rfl, hc⟩ := HA.out.on BR.out hneL
      obtain ⟨x0, x1, x2⟩ := hc k h1
      obtain ⟨b', off', rfl, hc'⟩ := HC.out.on BR.out hneM
      obtain ⟨y0, y1, y2⟩ := hc' k h2
      have ST := hid (AL.out.trans (alikeBy_step h1 h2))
      obtain ⟨p, hp⟩ : ∃ p, ls[k] = p := ⟨_, rfl⟩
      obtain ⟨q, hq⟩ : ∃ q, ms[k] = q := ⟨_, rfl⟩
      rw [hp] at x0 x1 x2 ST
      rw [hq] at y0 y1 y2 ST
      obtain ⟨p0, p1, p2⟩ := p
      obtain ⟨q0, q1, q2⟩ := q
      dsimp only at x0 x1 x2 y0 y1 y2
      clear hc hc' hp hq hneL hneM h1 h2 AL
      have hne := fun w => neq_Session p0 p1 p2 q0 q1 q2 w
      have hgd := fun a b w => guard_Session a b #[.int .i64 p0, .int .i64 p1, .string p2] #[.int .i64 q0, .int .i64 q1, .string q2] w
      obtain ⟨r, hr⟩ : ∃ r, sessEq ⟨p0, p1, p2⟩ ⟨q0, q1, q2⟩ = r := ⟨_, rfl⟩
      rw [hr] at hne ST
      clear hr
      cases r with
      | false =>
        rw [Bool.not_false] at hne
        go_wp2
        go_quiet (fail)
        go_wp2
        go_ret
        exact ⟨by rw [keepSame, ST.out]; simp, below_drewN (below_via BL.out BR.out) _⟩
      | true =>
        rw [Bool.not_true] at hne
        have ST2 := hid (ST.out.trans (Bool.true_and _))
        go_wp2
        go_quiet (fail)
        go_wp2
        go_roundg g
        case measure => omega
        case rel => exact ⟨k + 1, by omega, by go_num, ST2.out, below_drewN BR.out _⟩

end Go.Proofs.YthnbkjbljogdpaaGreatDoor

namespace Go.Proofs.YthnbkjbljogdpaaGreatDoor
open Go.RowKit

set_option maxRecDepth 1000000 in
theorem starts_front (a b : ByteArray) (h0 : a.size + b.size ≤ 1048576) (w : World) :
    Calls Tryz.prog 14 #[.string a, .string (a ++ b)] w fun e w' => e = .returned (.bool true) ∧ w' = w := by
  have hs : (a ++ b).size = a.size + b.size := ByteArray.size_append
  have he : (a ++ b).extract 0 a.size = a := by
    apply ByteArray.ext
    simp
  obtain ⟨s, hS⟩ : ∃ s, a ++ b = s := ⟨_, rfl⟩
  rw [hS] at hs he ⊢
  clear hS
  have h1 : (a.size : Int) ≤ (s.size : Int) := by omega
  have h2 : s.size ≤ 1048576 := by omega
  have h3 : a.size ≤ s.size := by omega
  clear hs h0
  go_enter Tryz.func14, Tryz.ntmps14
  go_wp2
  go_ret
  exact ⟨rfl, rfl⟩
end Go.Proofs.YthnbkjbljogdpaaGreatDoor
