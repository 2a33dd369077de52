/-
  The walk of impl.ShedActs: what it answers, in memory of its own.
  The walk of laws.sameInts: two lists of the same numbers.
-/
import Derived.Test.YtoanhjjigbjecaaGreatDoorJoint49
import Derived.Test.YtoanhjjigbjecaaGreatDoorJoint41
import Derived.Test.YtoanhjjigbjecaaGreatDoorJoint43
import Derived.Test.YtoanhjjigbjecaaGreatDoorJoint1
import Derived.Test.YtoanhjjigbjecaaGreatDoorRows
import Derived.BigQuiet
import Derived.Deep.QuietTactic
import Derived.Deep.LoopGhost
import Derived.WalkSmall
import Derived.WalkKit
namespace Go.Proofs.YtoanhjjigbjecaaGreatDoor
open Go.RowKit

set_option maxRecDepth 1000000 in
/-- the function that tells which files go -/
theorem shedGoes_any (nm : ByteArray) (b : Nat) (ix : Int) (w : World) (hc : w.cell? ⟨b, 0, none⟩ = some (.int .i64 ix)) :
    Calls Tryz.prog 41 (#[.string nm] ++ #[.pointer (some ⟨b, 0, none⟩)]) w fun e w' => e = .returned (.bool (isNew nm || isOther ix nm)) ∧ Below w.heap.size w w' := by
  show Calls Tryz.prog 41 #[.string nm, .pointer (some ⟨b, 0, none⟩)] w _
  cases hn : isNew nm with
  | true =>
    have hnd : (nm.toList == [115, 43]) = true := hn
    clear hn
    go_enter Tryz.func41, Tryz.ntmps41
    go_wp2
    go_ret
    exact ⟨rfl, Below.refl _ _⟩
  | false =>
    have hnd : (nm.toList == [115, 43]) = false := hn
    clear hn
    go_enter Tryz.func41, Tryz.ntmps41
    go_wp2_with fail
    refine (otherSnap_any nm ix _).mono ?_
    rintro e w1 ⟨rfl, b1⟩
    have B1 := hid b1
    obtain ⟨q, hq⟩ : ∃ q, isOther ix nm = q := ⟨_, rfl⟩
    rw [hq]
    have HQ := hid hq
    clear b1 hq
    go_wp2
    go_ret
    exact ⟨by rw [HQ.out]; rfl, B1.out⟩

set_option maxRecDepth 1000000 in
set_option maxHeartbeats 4000000 in
theorem implShed_any (ao : Option Addr) (l : List FileD) (cap : Nat) (hl : l.length ≤ 1048576) (hsm : ∀ f ∈ l, f.text.size ≤ 1048576) (hsn : ∀ f ∈ l, f.name.size ≤ 1048576) (w : World) (ha : FilesAt w ao l) (ht : Steps w) :
    Calls Tryz.prog 13 #[.agg #[.slice ao l.length cap]] w fun e w' => actsDid (shedActs l) w e w' := by
  have hmf : ∀ (fn : Fn) (first cap : Array Value) (w : World), (Instr.makeFunc fn first cap).run Tryz.prog w = .ok (.func fn first cap) w := fun _ _ _ _ => rfl
  have HA := hid ha
  have HT := hid ht
  have HSN := hid hsn
  have hx0 : BlockIs (w.alloc (.cells #[.slice ao l.length cap] 26)) w.heap.size 26 [.slice ao l.length cap] := heap_alloc_new w _
  have D0 := hid hx0
  have B0 := hid (below_more (Below.refl w.heap.size w) (.cells #[.slice ao l.length cap] 26))
  clear ha ht hsn hx0
  have d0 := D0.out.cell (j := 0) rfl
  go_enter Tryz.func13, Tryz.ntmps13
  go_wp2_with fail
  refine (implNewest_any ao l cap hl hsm _ (HA.out.on B0.out) (steps_on HT.out B0.out)).mono ?_
  rintro e w1 ⟨va, vc, rfl, _, b1⟩
  have bx := below_more (Below.refl w1.heap.size w1) (.cells #[.int .i64 (snapIx (newestSnap l)), .int .i64 (snapTm (newestSnap l)), .slice va (snapZs (newestSnap l)).length vc, .string (snapBd (newestSnap l))] 29)
  have hx1 : BlockIs (w1.alloc (.cells #[.int .i64 (snapIx (newestSnap l)), .int .i64 (snapTm (newestSnap l)), .slice va (snapZs (newestSnap l)).length vc, .string (snapBd (newestSnap l))] 29)) w1.heap.size 29 [.int .i64 (snapIx (newestSnap l)), .int .i64 (snapTm (newestSnap l)), .slice va (snapZs (newestSnap l)).length vc, .string (snapBd (newestSnap l))] := heap_alloc_new w1 _
  have b01 := below_via b1 bx
  have D1 := hid (D0.out.on b01 D0.out.lt)
  have B1 := hid (below_via B0.out b01)
  have X1 := hid hx1
  clear b1 bx b01 hx1 D0 B0 d0
  have hpair : Hid (∀ s, newestSnap l = some s → dropsOf (fun nm => isNew nm || isOther (s.ix : Int) nm) l = newA l ++ dropsOf (isOther (s.ix : Int)) l) := fun s hs => dropsOf_both _ (disk_pairs (newest_disk hs))
  cases hn : newestSnap l with
  | none =>
    rw [hn] at D1 B1 X1
    have HR : Hid (shedActs l = []) := (show _ = _ by rw [shedActs, hn])
    rw [show (none : Option SnapD).isSome = false from rfl]
    have BL := hid (below_more B1.out (.cells #[] 74))
    have RL := hid (actR_nil (w1.alloc (.cells #[.int .i64 (snapIx none), .int .i64 (snapTm none), .slice va (snapZs none).length vc, .string (snapBd none)] 29)) w.heap.size B1.out.size)
    have hsz : (w1.alloc (.cells #[.int .i64 (snapIx none), .int .i64 (snapTm none), .slice va (snapZs none).length vc, .string (snapBd none)] 29)).heap.size = w1.heap.size + 1 := by simp [World.alloc, -World.alloc_eq]
    rw [hsz] at RL
    clear hn hpair hsz
    go_wp2
    go_ret
    rw [HR.out]
    exact ⟨_, _, rfl, RL.out, BL.out⟩
  | some s =>
    rw [hn] at D1 B1 X1
    have HR : Hid (shedActs l = dropsOf (fun nm => isNew nm || isOther (s.ix : Int) nm) l) := (show _ = _ by rw [shedActs, hn, hpair.out s hn])
    rw [show (some s : Option SnapD).isSome = true from rfl]
    have d0 := D1.out.cell (j := 0) rfl
    clear hn hpair
    obtain ⟨W1, hW1⟩ : ∃ W, w1.alloc (.cells #[.int .i64 (snapIx (some s)), .int .i64 (snapTm (some s)), .slice va (snapZs (some s)).length vc, .string (snapBd (some s))] 29) = W := ⟨_, rfl⟩
    rw [hW1] at D1 B1 X1 d0
    go_wp2_with fail
    refine (dropActs_any 41 (fun args w => by kernel_rfl) #[.pointer (some ⟨w1.heap.size, 0, none⟩)] (fun nm => isNew nm || isOther (s.ix : Int) nm) ao l cap hl HSN.out _ (HA.out.on B1.out) (fun nm W _ hB => shedGoes_any nm w1.heap.size (s.ix : Int) W ((X1.out.on hB X1.out.lt).cell (j := 0) rfl))).mono ?_
    rintro e w2 ⟨va2, vc2, rfl, ho, b2⟩
    rw [← HR.out] at ho ⊢
    have RL := hid (row_down ho B1.out.size)
    have BL := hid (below_via B1.out b2)
    clear ho b2 D1 B1 X1 d0 hW1
    go_wp2
    go_ret
    exact ⟨_, _, rfl, RL.out, BL.out⟩
end Go.Proofs.YtoanhjjigbjecaaGreatDoor

namespace Go.Proofs.YtoanhjjigbjecaaGreatDoor
open Go.RowKit

set_option maxRecDepth 1000000 in
set_option maxHeartbeats 1000000 in
theorem sameInts_same (ao bo : Option Addr) (zs : List Int) (c c' : Nat) (hl : zs.length ≤ 1048576) (w : World) (ha : IntsAt w ao zs) (hb : IntsAt w bo zs) :
    Calls Tryz.prog 9 #[.slice ao zs.length c, .slice bo zs.length c'] w fun e w' => e = .returned (.bool true) ∧ Below w.heap.size w w' := by
  have HA := hid ha
  have HB := hid hb
  clear ha hb
  go_enter Tryz.func9, Tryz.ntmps9
  go_wp2
  go_loopg [5] zs.length (fun g i wr => ∃ (k : Nat), k + g = zs.length ∧ i = .int .i64 k ∧ Hid (Below w.heap.size w wr))
  case atStart => exact ⟨0, by omega, rfl, (show Below _ _ _ from Below.refl _ _)⟩
  case round =>
    obtain ⟨k, hkg, rfl, BR⟩ := hrel
    cases gk with
    | zero =>
      have hlt : ¬ (k : Int) < (zs.length : Int) := by omega
      go_wp2
      go_ret
      exact ⟨rfl, BR.out⟩
    | succ g =>
      have hlt : k < zs.length := by omega
      have hlt' : (k : Int) < (zs.length : Int) := by omega
      have hne : zs ≠ [] := by intro e; rw [e] at hlt; simp at hlt
      obtain ⟨b, off, rfl, hc⟩ := HA.out.on BR.out hne
      obtain ⟨b', off', rfl, hc'⟩ := HB.out.on BR.out hne
      have x0 := hc k hlt
      have y0 := hc' k hlt
      clear hc hc'
      go_wp2
      go_quiet (fail)
      have BQ := hid (below_drewN BR.out nq)
      generalize wr.drewN nq = wq at BQ ⊢
      clear x0 y0
      go_wp2
      go_roundg g
      case measure => omega
      case rel => exact ⟨k + 1, by omega, by go_num, BQ⟩
end Go.Proofs.YtoanhjjigbjecaaGreatDoor
