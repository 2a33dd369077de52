/-
  The walk of impl.DoAct; DoAct of spec and of impl in one form.
  The walk of laws.sameDisk: two disks of the same files.
-/
import Derived.Test.YtbbohfagnnobgaaJoint48
import Derived.Test.YtbbohfagnnobgaaJoint32
import Derived.Test.YtbbohfagnnobgaaJoint1
import Derived.BigQuiet
import Derived.Lib.QuietBelow
import Derived.WalkSmall
import Derived.WalkKit
namespace Go.Proofs.Ytbbohfagnnobgaa
open Go.RowKit

theorem acts_one (w : World) (a : ActD) : ActsAt (w.alloc (.cells #[.int .i64 a.kind, .string a.name, .string a.text, .string a.to] 37)) (some ⟨w.heap.size, 0, none⟩) [a] := by
  intro _
  refine ⟨w.heap.size, 0, rfl, fun j hj => ?_⟩
  obtain rfl : j = 0 := by simpa using hj
  have h : BlockIs (w.alloc (.cells #[.int .i64 a.kind, .string a.name, .string a.text, .string a.to] 37)) w.heap.size 37 (actEnc a) := heap_alloc_new w _
  exact ⟨h.cell (j := 0) rfl, h.cell (j := 1) rfl, h.cell (j := 2) rfl, h.cell (j := 3) rfl⟩

theorem implDoActs_any (ao : Option Addr) (l : List FileD) (cap : Nat) (bo : Option Addr) (acts : List ActD) (bcap : Nat) (hl : l.length ≤ 1048576) (hsm : ∀ f ∈ l, f.name.size ≤ 1048576 ∧ f.text.size ≤ 1048576) (hal : acts.length ≤ 1048576) (ham : ActsSmall acts) (w : World) (ha : FilesAt w ao l) (hq : ActsAt w bo acts) :
    Calls Try.prog 11 #[.agg #[.slice ao l.length cap], .slice bo acts.length bcap] w fun e w' => DidActs w l acts (DoneAt w.heap.size) e w' := by
  cases hd : diskOk l with
  | true => exact implDoActs_yes ao l cap bo acts bcap hal ham hd w ha hq
  | false => exact implDoActs_no ao l cap bo acts bcap hl hsm hd w ha

set_option maxRecDepth 1000000 in
set_option maxHeartbeats 1000000 in
theorem implDoAct_o (ao : Option Addr) (l : List FileD) (cap : Nat) (a : ActD) (hl : l.length ≤ 1048576) (hsm : ∀ f ∈ l, f.name.size ≤ 1048576 ∧ f.text.size ≤ 1048576) (ham : a.name.size ≤ 1048576 ∧ a.text.size ≤ 1048576 ∧ a.to.size ≤ 1048576) (w : World) (ha : FilesAt w ao l) :
    Calls Try.prog 14 #[.agg #[.slice ao l.length cap], a.value] w fun e w' => ∃ va vc, e = .returned (.tuple #[.agg #[.slice va (doAns l a).1.length vc], .bool (doAns l a).2]) ∧ OwnAt w' 77 (fileCells (doAns l a).1) (doAns l a).1.length va w.heap.size w'.heap.size ∧ Below w.heap.size w w' := by
  unfold ActD.value
  have HA := hid ha
  have h3 := three_boxes w (.cells #[.slice ao l.length cap] 26) (.cells #[.int .i64 a.kind, .string a.name, .string a.text, .string a.to] 37) (.cells #[.slice none 0 0] 26)
  have H3 := hid h3
  clear h3 ha
  obtain ⟨W0, hW0⟩ : ∃ W0, ((w.alloc (.cells #[.slice ao l.length cap] 26)).alloc (.cells #[.int .i64 a.kind, .string a.name, .string a.text, .string a.to] 37)).alloc (.cells #[.slice none 0 0] 26) = W0 := ⟨_, rfl⟩
  rw [hW0] at H3
  have X0 : Hid (BlockIs W0 w.heap.size 26 [.slice ao l.length cap] ∧ BlockIs W0 (w.heap.size + 1) 37 [.int .i64 a.kind, .string a.name, .string a.text, .string a.to] ∧ BlockIs W0 (w.heap.size + 1 + 1) 26 [.slice none 0 0]) := H3.out.2.2
  have c0 := X0.out.1.cell (j := 0) rfl
  have a0 := X0.out.2.1.cell (j := 0) rfl
  have a1 := X0.out.2.1.cell (j := 1) rfl
  have a2 := X0.out.2.1.cell (j := 2) rfl
  have a3 := X0.out.2.1.cell (j := 3) rfl
  have hbA := below_more (Below.refl W0.heap.size W0) (.cells #[.int .i64 a.kind, .string a.name, .string a.text, .string a.to] 37)
  have C' := implDoActs_any ao l cap (some ⟨W0.heap.size, 0, none⟩) [a] 1 hl hsm (by simp) (fun x hx => by rw [List.mem_singleton.1 hx]; exact ham) _ (HA.out.on (below_via H3.out.1 hbA)) (acts_one W0 a)
  have X1 := hid (X0.out.2.2.on hbA X0.out.2.2.lt)
  have B1 := hid (below_via H3.out.1 hbA)
  have C := hid C'
  clear C' hbA X0 H3
  go_enter Try.func14, Try.ntmps14
  go_wp2_with fail
  refine Calls.mono C.out ?_
  rintro e w1 ⟨i, o, va, vc, rfl, ⟨ht, hi, hor⟩, hown, b1⟩
  have hsz := X1.out.lt
  have B2 := hid (below_via B1.out b1)
  have X2 := hid (X1.out.on b1 X1.out.lt)
  have hown' : OwnAt w1 77 (fileCells o) o.length va (w.heap.size + 3) w1.heap.size := OwnAt.down hown (by omega) (Nat.le_refl _)
  have hs1 := X2.out.lt
  have hbB := below_more (Below.refl w1.heap.size w1) (.cells #[.slice va o.length vc] 26)
  have hnb : BlockIs (w1.alloc (.cells #[.slice va o.length vc] 26)) w1.heap.size 26 [.slice va o.length vc] := heap_alloc_new w1 _
  have HW := hid (And.intro (X2.out.on hbB hs1) (And.intro (below_via B2.out hbB) (And.intro (hown'.on hbB) hnb)))
  have hsB' := hbB.size
  obtain ⟨W2, hW2⟩ : ∃ W2, w1.alloc (.cells #[.slice va o.length vc] 26) = W2 := ⟨_, rfl⟩
  rw [hW2] at HW hsB'
  have n0 := HW.out.2.2.2.cell (j := 0) rfl
  have r0 := HW.out.1.cell (j := 0) rfl
  have s0 := HW.out.1.thaw 0
  have hsB := hid hsB'
  clear hsB' hnb b1 hown hown' hbB B1 X1 B2 X2 C hW0 c0 a0 a1 a2 a3 hsz
  rcases Nat.eq_zero_or_pos i with hi0 | hi0
  · subst hi0
    have hno : doAns l a = ([], false) := by
      have h1 : doTo l [a] 1 = none := hor.resolve_left (by simp)
      rw [doTo_step (by simp) rfl] at h1
      have h1' : doAct l a = none := h1
      rw [doAns, h1']
    have HN := hid hno
    have HB := hid (HW.out.2.1.setCell (p := ⟨w.heap.size + 1 + 1, 0, none⟩) (by show _ ≤ _ + 1 + 1; omega) (.slice none 0 0))
    clear hno ht hor HW
    go_wp2
    refine bodyPost_ret (v := .tuple #[.agg #[.slice none 0 0], .bool false]) (by simp [results, Try.results14, go_sem, r0]) rfl ?_
    rw [HN.out]
    exact ⟨none, 0, rfl, Or.inl rfl, HB.out⟩
  · have hi1 : i = 1 := by simp at hi; omega
    subst hi1
    have hyes : doAns l a = (o, true) := by
      rw [doTo_step (by simp) rfl] at ht
      have h1' : doAct l a = some o := ht
      rw [doAns, h1']
    have HN := hid hyes
    have HB := hid (HW.out.2.1.setCell (p := ⟨w.heap.size + 1 + 1, 0, none⟩) (by show _ ≤ _ + 1 + 1; omega) (.slice va o.length vc))
    have HO := hid ((HW.out.2.2.1.far (b := w.heap.size + 1 + 1) (j := 0) (by omega) (.slice va o.length vc)).down (lo' := w.heap.size) (hi' := (W2.setCell ⟨w.heap.size + 1 + 1, 0, none⟩ (.slice va o.length vc)).heap.size) (by omega) (by rw [size_setCell]; exact hsB.out))
    clear hyes ht hor HW
    go_wp2
    refine bodyPost_ret (v := .tuple #[.agg #[.slice va o.length vc], .bool true]) (by simp [results, Try.results14, go_sem, r0]) rfl ?_
    rw [HN.out]
    exact ⟨va, vc, rfl, HO.out, HB.out⟩
end Go.Proofs.Ytbbohfagnnobgaa

namespace Go.Proofs.Ytbbohfagnnobgaa
open Go.RowKit Go.Sort

set_option maxRecDepth 1000000 in
set_option maxHeartbeats 1000000 in
theorem sameDisk_same (ao bo : Option Addr) (l : List FileD) (c c' : Nat) (hl : l.length ≤ 1048576) (w : World) (ha : FilesAt w ao l) (hb : FilesAt w bo l) :
    Calls Try.prog 13 #[.agg #[.slice ao l.length c], .agg #[.slice bo l.length c']] w fun e w' => e = .returned (.bool true) ∧ Below w.heap.size w w' := by
  have hx0 : BlockIs (w.alloc (.cells #[.slice ao l.length c] 26)) w.heap.size 26 [.slice ao l.length c] := heap_alloc_new w _
  have X0 := hid (hx0.on (below_more (Below.refl _ _) (.cells #[.slice bo l.length c'] 26)) hx0.lt)
  have hx1 : BlockIs ((w.alloc (.cells #[.slice ao l.length c] 26)).alloc (.cells #[.slice bo l.length c'] 26)) (w.heap.size + 1) 26 [.slice bo l.length c'] := by
    have := heap_alloc_new (w.alloc (.cells #[.slice ao l.length c] 26)) (.cells #[.slice bo l.length c'] 26)
    rw [show (w.alloc (.cells #[.slice ao l.length c] 26)).heap.size = w.heap.size + 1 by simp [World.alloc, -World.alloc_eq]] at this
    exact this
  have X1 := hid hx1
  have HB := hid (below_more (below_more (Below.refl w.heap.size w) (.cells #[.slice ao l.length c] 26)) (.cells #[.slice bo l.length c'] 26))
  have FA := hid (ha.on HB.out)
  have FB := hid (hb.on HB.out)
  obtain ⟨W, hW⟩ : ∃ W, (w.alloc (.cells #[.slice ao l.length c] 26)).alloc (.cells #[.slice bo l.length c'] 26) = W := ⟨_, rfl⟩
  rw [hW] at X0 X1 HB FA FB
  clear hx0 hx1 ha hb
  have c0 := X0.out.cell (j := 0) rfl
  have c1 := X1.out.cell (j := 0) rfl
  go_enter Try.func13, Try.ntmps13
  go_wp2
  go_loopw [5] (fun i wr => ∃ (k nq : Nat), k ≤ l.length ∧ i = .int .i64 k ∧ wr = W.drewN nq) (fun i _ => l.length - (intOf i).toNat)
  case atStart => exact ⟨0, 0, Nat.zero_le _, rfl, rfl⟩
  case round =>
    obtain ⟨k, nq, hk, rfl, rfl⟩ := hrel
    by_cases hlt : k < l.length
    · have hne : l ≠ [] := by intro e; rw [e] at hlt; simp at hlt
      obtain ⟨b1, o1, rfl, h1⟩ := FA.out hne
      obtain ⟨b2, o2, rfl, h2⟩ := FB.out hne
      obtain ⟨x0, x1, x2⟩ := h1 k hlt
      obtain ⟨y0, y1, y2⟩ := h2 k hlt
      clear h1 h2
      go_wp2
      go_quiet (fail)
      go_wp2
      go_roundw
      case rel => exact ⟨k + 1, _, by omega, by go_num, rfl⟩
      case measure => simp [intOf]; omega
    · go_wp2
      go_ret
      exact ⟨rfl, below_drewN HB.out _⟩
end Go.Proofs.Ytbbohfagnnobgaa
