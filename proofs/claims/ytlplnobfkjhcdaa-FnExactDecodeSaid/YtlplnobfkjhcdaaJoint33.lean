/-
  The walk of impl.textReader's method confOrNone.
-/
import Derived.Test.YtlplnobfkjhcdaaJoint1
import Derived.Test.YtlplnobfkjhcdaaJoint22
import Derived.Test.YtlplnobfkjhcdaaJoint28
namespace Go.Proofs.Ytlplnobfkjhcdaa
open Go.RowKit Go.Sort

def confDid17 (o : Option (List Int × Nat)) (s : ByteArray) (b : Nat) (w : World) (e : Ending) (w' : World) : Prop := match o with
  | none => e = .panicked [misreadP] ∧ w.grownBy w' (some b)
  | some (zs, k) => ∃ v, e = .returned v ∧ RdIs w' b s k ∧ w.grownBy w' (some b) ∧ w'.ownsRow w.heap.size 3 1 v zs.length (intCells zs)
set_option maxRecDepth 1000000 in
set_option maxHeartbeats 1000000 in
theorem confOrNone_at (b : Nat) (s : ByteArray) (k : Nat) (hs : s.size ≤ 1048576) (_hk : k ≤ s.size) (w : World) (hr : RdIs w b s k) :
    Calls Try.prog 37 #[.pointer (some ⟨b, 0, none⟩)] w fun e w' => confDid17 (confAt17 s k) s b w e w' := by
  have R0 := hid hr
  clear hr
  go_enter Try.func37, Try.ntmps37
  go_wp2_with fail
  refine (short_at b s k hs _ R0.out).mono ?_
  intro e w1 hd
  cases h0 : txtAt s k with
  | none =>
    rw [h0] at hd
    obtain ⟨rfl, hg⟩ := hd
    have HR : Hid (confAt17 s k = none) := (show _ = _ by simp [confAt17, h0])
    clear h0
    go_wp2
    rw [HR.out]
    exact And.intro rfl (And.intro rfl hg)
  | some p =>
    obtain ⟨t, k1⟩ := p
    rw [h0] at hd
    obtain ⟨rfl, hr, hg⟩ := hd
    have R1 := hid hr
    have G1 := hid hg
    have hv := empty_txt17 t
    clear hr hg R0
    by_cases hz : t.size = 0
    · have HR : Hid (confAt17 s k = some ([], k1)) := (show _ = _ by unfold confAt17; rw [h0]; exact if_pos hz)
      rw [decide_eq_true hz] at hv
      clear h0 hz
      go_wp2
      go_ret
      rw [HR.out]
      exact ⟨_, rfl, R1.out, G1.out, rfl, Or.inl ⟨rfl, rfl⟩⟩
    · rw [decide_eq_false hz] at hv
      have hsz := G1.out.size
      go_wp2_with fail
      refine (implReadConf_any t _).mono ?_
      rintro e w2 ⟨v, rfl, ho, b2⟩
      have R2 := hid (BlockIs.on R1.out b2 (BlockIs.lt R1.out))
      have G2 := hid (G1.out.trans (grown_of_below b2 (some b)))
      have HO := hid (row_down ho hsz)
      cases hc : (readConf t).2 with
      | false =>
        have HR : Hid (confAt17 s k = none) := (show _ = _ by unfold confAt17; rw [h0]; exact (if_neg hz).trans (if_neg (by rw [hc]; decide)))
        clear h0 hz hc hv b2 ho R1 G1
        go_wp2_with fail
        refine (need_no (.pointer (some ⟨b, 0, none⟩)) _).mono ?_
        rintro e w3 ⟨rfl, hw3⟩
        rw [hw3]
        clear hw3
        go_wp2
        rw [HR.out]
        exact And.intro rfl (And.intro rfl G2.out)
      | true =>
        have HR : Hid (confAt17 s k = some ((readConf t).1, k1)) := (show _ = _ by unfold confAt17; rw [h0]; exact (if_neg hz).trans (if_pos hc))
        clear h0 hz hc hv b2 ho R1 G1
        go_wp2_with fail
        refine (need_yes (.pointer (some ⟨b, 0, none⟩)) _).mono ?_
        rintro e w3 ⟨rfl, hw3⟩
        rw [hw3]
        clear hw3
        go_wp2
        go_ret
        rw [HR.out]
        exact ⟨_, rfl, R2.out, G2.out, HO.out⟩
end Go.Proofs.Ytlplnobfkjhcdaa
