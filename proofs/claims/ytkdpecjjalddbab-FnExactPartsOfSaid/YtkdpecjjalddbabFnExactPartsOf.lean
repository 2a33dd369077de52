/-
  For every text, laws.FnExactPartsOf returns true: impl.PartsOf and spec.PartsOf answer alike, the answer owns its memory, a second call answers so again; nothing that was in memory is written.
-/
import Derived.Test.YtkdpecjjalddbabRows
import Derived.Test.YtkdpecjjalddbabPartsS
import Derived.Test.YtkdpecjjalddbabPartsI
import Derived.Test.YtkdpecjjalddbabMark
import Derived.WalkKit
import Derived.ProofKit
import Derived.OpenShut
import Derived.ShutString
namespace Go.Proofs.Ytkdpecjjalddbab.fnExactPartsOf
open Go.ChangeShapes Go.WideShapes Go.ChangeAt Go.RowKit
open Go.ChangeMaps (open_string shut_string)
set_option linter.unusedVariables false      -- a walk need not use every 'w<i>' (that an integer argument fits its kind)

theorem own : ownKnob Try.prog.godebug = none := by kernel_rfl

/-- what a call of PartsOf answers, once it is known whether the line has parts -/
def Parted (f : FuncId) (s : ByteArray) (b : Bool) (ts : List ByteArray) : Prop :=
  ∀ w : World, Calls Try.prog f #[.string s] w fun e w' => ∃ v, e = .returned (.tuple #[v, .bool b]) ∧ w'.ownsRow w.heap.size 9 1 v ts.length (st ts) ∧ Below w.heap.size w w'

theorem parted_yes {f : FuncId} {s : ByteArray} (h : ∀ w, Calls Try.prog f #[.string s] w fun e w' => partsAns s w e w') (hok : PartsOk s) : Parted f s true (stt s (s.size + 1)).2 := by
  intro w
  refine (h w).mono fun e w' ha => ?_
  rcases ha with ⟨_, v, he, ho, hb⟩ | ⟨hn, _⟩
  · exact ⟨v, he, ho, hb⟩
  · exact absurd hok hn
theorem parted_no {f : FuncId} {s : ByteArray} (h : ∀ w, Calls Try.prog f #[.string s] w fun e w' => partsAns s w e w') (hok : ¬ PartsOk s) : Parted f s false [] := by
  intro w
  refine (h w).mono fun e w' ha => ?_
  rcases ha with ⟨hn, _⟩ | ⟨_, v, he, ho, hb⟩
  · exact absurd hn hok
  · exact ⟨v, he, ho, hb⟩

theorem kept_grown {w w2 : World} {base base' : Nat} {v v' : Value} {n n' : Nat} {xs ys : List Value} {H : Nat} (h : w.ownsRow base 9 1 v n xs) (hg : w.grownBy w2 v'.ownBlock) (h1 : ∀ k, v.ownBlock = some k → k < H) (h2 : ∀ k, v'.ownBlock = some k → H ≤ k) : w2.ownsRow base 9 1 v n xs := by
  refine h.kept hg ?_
  cases hv : v.ownBlock with
  | none => exact Or.inl rfl
  | some g =>
    refine Or.inr fun e => ?_
    have a1 := h1 g hv
    have a2 := h2 g e.symm
    omega

set_option maxRecDepth 1000000 in
set_option maxHeartbeats 1000000 in
theorem core (a0 : ByteArray) (hbig : ¬ 1048576 < a0.size) (b : Bool) (ts : List ByteArray) (hl : ts.length ≤ 1000000) (p1 : Parted 13 a0 b ts) (p2 : Parted 14 a0 b ts) (w : World) :
    Calls Try.prog 6 #[.string a0] w fun e w' => e = .returned (.bool true) ∧ Below w.heap.size w w' := by
  have P1 := (show Hid _ from p1)
  have P2 := (show Hid _ from p2)
  clear p1 p2
  go_enter Try.func6, Try.ntmps6
  go_wp2_with fail
  refine (P1.out _).mono ?_
  rintro e w1 ⟨v0, rfl, o1, b1⟩
  have O1 : Hid (w1.ownsRow w.heap.size 9 1 v0 ts.length (st ts)) := o1
  clear o1
  go_wp2_with fail
  refine (P2.out _).mono ?_
  rintro e w2 ⟨v1, rfl, o2, b2⟩
  have O2 : Hid (w2.ownsRow w1.heap.size 9 1 v1 ts.length (st ts)) := o2
  clear o2
  go_wp2_with fail
  refine (eqStringS_same hl O2.out (kept_any O1.out b2)).mono ?_
  rintro e w3 ⟨rfl, b3⟩
  go_wp2_with fail
  refine (markStringS_any 1 (by omega) hl (kept_any O2.out b3)).mono ?_
  rintro e w4 ⟨rfl, o4, g4⟩
  have O4 : Hid (w4.ownsRow w1.heap.size 9 1 v1 ts.length (st (marked 1 ts.length ts))) := o4
  have G4 := (show Hid _ from g4)
  clear o4 g4
  go_wp2_with fail
  refine (heldStringS_any 1 (by omega) hl O4.out).mono ?_
  rintro e w5 ⟨rfl, b5⟩
  go_wp2_with fail
  refine (P2.out _).mono ?_
  rintro e w6 ⟨v2, rfl, o6, b6⟩
  have O6 : Hid (w6.ownsRow w5.heap.size 9 1 v2 ts.length (st ts)) := o6
  clear o6
  have O0 : Hid (w6.ownsRow w.heap.size 9 1 v0 ts.length (st ts)) := by
    have q3 := kept_any (kept_any O1.out b2) b3
    have q4 := kept_grown (H := w1.heap.size) (base' := 0) (n' := 0) (ys := []) q3 G4.out (fun k hk => (O1.out.lt k hk).2) (fun k hk => (O2.out.lt k hk).1)
    exact kept_any (kept_any q4 b5) b6
  go_wp2_with fail
  refine (eqStringS_same hl O6.out O0.out).mono ?_
  rintro e w7 ⟨rfl, b7⟩
  go_wp2_with fail
  refine (heldStringS_any 1 (by omega) hl (kept_any (kept_any (kept_any O4.out b5) b6) b7)).mono ?_
  rintro e w8 ⟨rfl, b8⟩
  have HB : Hid (Below w.heap.size w w8) := by
    have s1 := b1.size
    have s2 := b2.size
    have s3 := b3.size
    have q3 : Below w.heap.size w w3 := (b1.trans (b2.mono s1)).trans (b3.mono (by omega))
    have q4 : Below w.heap.size w w4 := q3.grown G4.out (by omega) (fun k hk => by have := (O2.out.lt k hk).1; omega)
    have s4 := q4.size
    have q5 := q4.trans (b5.mono s4)
    have q6 := q5.trans (b6.mono q5.size)
    have q7 := q6.trans (b7.mono q6.size)
    exact q7.trans (b8.mono q7.size)
  go_wp2
  go_ret
  exact ⟨rfl, HB.out⟩

theorem walk (a0 : ByteArray) (w0 : a0.size ≤ maxLen) (w : World) :
    Calls Try.prog 6 #[.string a0] w fun e w' => e = .returned (.bool true) ∧ Below w.heap.size w w' := by
  by_cases hbig : 1048576 < a0.size
  · go_enter Try.func6, Try.ntmps6
    go_wp2
    go_ret
    exact ⟨rfl, Below.refl _ _⟩
  · by_cases hok : PartsOk a0
    · exact core a0 hbig true _ (by have := hok.2.2; omega) (parted_yes (specPartsOf_any a0 (by omega)) hok) (parted_yes (implPartsOf_any a0 (by omega)) hok) w
    · exact core a0 hbig false [] (by simp) (parted_no (specPartsOf_any a0 (by omega)) hok) (parted_no (implPartsOf_any a0 (by omega)) hok) w

set_option maxRecDepth 100000 in
theorem lifted (os : Os) (started : os.Started) (H : Type) (enc : TypeId × Value → H) :
    ReturnsInHanded {} Try.checked os 6 .any (Rows.fnExactPartsOfSpec.pre6 enc Try.prog Try.f6 Rows.fnExactPartsOfRow.domain false) (Rows.fnExactPartsOfSpec.post enc Try.prog Try.f6 false true false false) := by
  refine returnsInHanded_of_change (C := Try.checked) own started (by kernel_rfl) Try.func6
    (ChangeSpec.witness6 (enc := enc) (C := Try.checked) false ⟨#[], #[.string ByteArray.empty], []⟩ 8 (by kernel_rfl) (by kernel_rfl) (by kernel_rfl) (by kernel_rfl)) ?_
  intro W base args ds gs before hval0 hW hcnd _
  have hval : ∀ (j : Nat) t v, Try.f6.params[j]? = some t → args[j]? = some v → Value.okWide Try.prog W .any base t v := hval0
  have hW' := hW
  obtain ⟨p, q, hA0, hV, rfl, hfz, hnd⟩ := hW
  have hA : DataW.TrodAll enc Try.prog W 0 (fun _ => true) true Try.f6.params.toList args.toList ds p := hA0
  rw [Try.params6] at hA hval
  obtain ⟨v0, vs0, d0, ds0, p0, q0, hargs, rfl, rfl, h0, r0⟩ := trodAll_cons hA
  obtain ⟨rfl, rfl, rfl⟩ := trodAll_nil r0
  obtain rfl : args = #[v0] := by cases args; simp_all
  obtain ⟨rfl, rfl⟩ := trodVars_none hV
  obtain ⟨a0, rfl, rfl, rfl, w0⟩ := open_string Try.underlying9 (hval 0 9 v0 rfl rfl) h0
  clear hA0 hval0
  simp only [List.append_nil] at hW'
  refine (walk a0 w0 W).mono fun e W' ⟨he, bel⟩ => ?_
  subst he
  exact ⟨_, rfl, _, _, _, [], [], [], hW', (trodAll_cons_mk (shut_bool Try.underlying4 _) trodAll_mk0), (trodAll_cons_mk (shut_string Try.underlying9 w0) trodAll_mk0), rfl, bel.frame _, fun h => by cases h⟩

theorem over : Rows.fnExactPartsOfRow.holds Try.pinned (OpenSpec.ofChange Rows.fnExactPartsOfSpec) :=
  OpenClaim.holds_of_wide 6 Try.f6 rfl rfl rfl rfl rfl rfl rfl ⟨rfl, rfl, rfl, rfl, rfl⟩ rfl rfl rfl rfl rfl (by kernel_rfl) Try.func6 (by kernel_rfl)
    (of_decide_eq_true (by kernel_rfl)) (by unfold Func.isWrapper; first | (rw [if_pos (by decide +kernel)]; kernel_rfl) | (rw [if_neg (by decide +kernel)]; exact ⟨rfl, rfl⟩))
    (fun os started H enc _ => lifted os started H enc)

theorem proved : Rows.FnExactPartsOfSaid :=
  over
end Go.Proofs.Ytkdpecjjalddbab.fnExactPartsOf
