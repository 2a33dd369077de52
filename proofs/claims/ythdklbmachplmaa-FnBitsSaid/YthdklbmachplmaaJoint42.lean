/-
  The walk of impl.pileOf: a pile of copies.
-/
import Derived.Test.YthdklbmachplmaaJoint35
import Derived.Test.YthdklbmachplmaaJoint41
namespace Go.Proofs.Ythdklbmachplmaa
open Go.RowKit Go.Maps

theorem pile_new (w : World) : PileAt ((w.alloc (.map #[] 0)).alloc (.cells #[.slice none 0 0, .map (some w.heap.size)] 62)) (w.heap.size + 1) [] (fun _ => none) w.heap.size ((w.alloc (.map #[] 0)).alloc (.cells #[.slice none 0 0, .map (some w.heap.size)] 62)).heap.size 1048577 none 0 w.heap.size [] := by
  have hz : (w.alloc (.map #[] 0)).heap.size = w.heap.size + 1 := by simp [World.alloc, -World.alloc_eq]
  have hb := below_more (Below.refl (w.alloc (.map #[] 0)).heap.size (w.alloc (.map #[] 0))) (.cells #[.slice none 0 0, .map (some w.heap.size)] 62)
  have hk : BlockIs ((w.alloc (.map #[] 0)).alloc (.cells #[.slice none 0 0, .map (some w.heap.size)] 62)) (w.heap.size + 1) 62 [.slice none 0 0, .map (some w.heap.size)] := by
    have := heap_alloc_new (w.alloc (.map #[] 0)) (.cells #[.slice none 0 0, .map (some w.heap.size)] 62)
    rw [hz] at this
    exact this
  refine ⟨hk, World.ownsRow_nil _ _ _ _, by have := hk.lt; show _ ≤ _; omega, Nat.le_refl _, ((map_made w).on hb).up (by omega) |>.ext fun x _ => ?_, ⟨by omega, Nat.le_refl _⟩, fun k g hg => (by cases hg), fun j k g hj => (by cases hj)⟩
  unfold outerM
  split <;> rfl
set_option maxRecDepth 1000000 in
set_option maxHeartbeats 4000000 in
theorem pileOf_any (ao : Option Addr) (l : List BitD) (cap : Nat) (hl : l.length ≤ 1048576) (hs : ∀ e ∈ l, SmallB e) (hf : ∀ e ∈ l, IntsWf e.ats) (w : World) (ha : BitsHold w ao l) :
    Calls Try.prog 24 #[.slice ao l.length cap] w fun e w' => e = .returned (.pointer (some ⟨w.heap.size + 1, 0, none⟩)) ∧ ∃ va vc rs im, PileAt w' (w.heap.size + 1) l im w.heap.size w'.heap.size (1048577 + l.length) va vc w.heap.size rs ∧ (∀ j, (im j).isSome = true ↔ j < l.length) ∧ Below w.heap.size w w' := by
  have HA := hid ha
  have HSM := hid hs
  have HF := hid hf
  have hp0 := pile_new w
  have hb0 := below_more (below_more (Below.refl w.heap.size w) (.map #[] 0)) (.cells #[.slice none 0 0, .map (some w.heap.size)] 62)
  have hz0 : (w.alloc (.map #[] 0)).heap.size = w.heap.size + 1 := by simp [World.alloc, -World.alloc_eq]
  obtain ⟨Wm, hWm⟩ : ∃ W, w.alloc (.map #[] 0) = W := ⟨_, rfl⟩
  rw [hWm] at hp0 hb0 hz0
  obtain ⟨W0, hW0⟩ : ∃ W, Wm.alloc (.cells #[.slice none 0 0, .map (some w.heap.size)] 62) = W := ⟨_, rfl⟩
  rw [hW0] at hp0 hb0
  have hmm : (Instr.makeMap 60 none).run Try.prog w = .ok (.map (some w.heap.size)) Wm := by rw [← hWm]; rfl
  have P0 := hid hp0
  have B0 := hid hb0
  clear hp0 hb0 ha hs hf hWm
  go_enter Try.func24, Try.ntmps24
  go_wp2
  go_loopg [11] l.length (fun q i wr => ∃ (k : Nat), k + q = l.length ∧ i = .int .i64 k ∧ ∃ va vc rs im, Hid (Below w.heap.size w wr) ∧ Hid (PileAt wr (w.heap.size + 1) (l.take k) im w.heap.size wr.heap.size (1048577 + k) va vc w.heap.size rs) ∧ Hid (∀ j, (im j).isSome = true ↔ j < k))
  case atStart => exact ⟨0, by omega, rfl, _, _, [], fun _ => none, B0, P0, (show ∀ j, _ from fun j => by simp)⟩
  case round =>
    obtain ⟨k, hkg, rfl, va, vc, rs, im, BR, PR, AL⟩ := hrel
    clear B0 P0 hmm hW0 hz0
    cases gk with
    | zero =>
      have hlt : ¬ (k : Int) < (l.length : Int) := by omega
      obtain rfl : k = l.length := by omega
      rw [List.take_of_length_le (Nat.le_refl _)] at PR
      go_wp2
      go_ret
      exact ⟨rfl, va, vc, rs, im, PR.out, AL.out, BR.out⟩
    | succ q =>
      have hlt : k < l.length := by omega
      have hlt' : (k : Int) < (l.length : Int) := by omega
      obtain ⟨rs0, hat, htwo⟩ := HA.out.on BR.out
      have hll := htwo.length
      have hkr : k < rs0.length := by omega
      have hho := htwo.get k hlt hkr
      obtain ⟨b, off, rfl, hc⟩ := hat (by intro e; rw [e] at hkr; simp at hkr)
      obtain ⟨x0, x1, x2, x3, x4, x5⟩ := hc k hkr
      have hsm := smallB_take HSM.out k hlt
      have hwf := HF.out _ (List.getElem_mem hlt)
      have HTK : Hid (l.take (k + 1) = l.take k ++ [l[k]]) := List.take_succ_eq_append_getElem hlt
      obtain ⟨Q, hQ⟩ : ∃ R, rs0[k] = R := ⟨_, rfl⟩
      rw [hQ] at x0 x1 x2 x3 x4 x5 hho
      obtain ⟨e, he⟩ : ∃ e, l[k] = e := ⟨_, rfl⟩
      rw [he] at hho hsm hwf HTK
      have hkl : (l.take k).length = k := by rw [List.length_take]; omega
      have bx := below_more (Below.refl wr.heap.size wr) (.cells #[.int .i64 Q.src, .int .i64 Q.ident, .slice Q.tx.ad Q.tx.len Q.tx.cap, .slice Q.ax.ad Q.ax.len Q.ax.cap, .int .i64 Q.total, .int .i64 Q.lim] 35)
      have hx : BlockIs (wr.alloc (.cells #[.int .i64 Q.src, .int .i64 Q.ident, .slice Q.tx.ad Q.tx.len Q.tx.cap, .slice Q.ax.ad Q.ax.len Q.ax.cap, .int .i64 Q.total, .int .i64 Q.lim] 35)) wr.heap.size 35 [.int .i64 Q.src, .int .i64 Q.ident, .slice Q.tx.ad Q.tx.len Q.tx.cap, .slice Q.ax.ad Q.ax.len Q.ax.cap, .int .i64 Q.total, .int .i64 Q.lim] := heap_alloc_new wr _
      have h1 := hho.on bx
      obtain ⟨W1, hW1⟩ : ∃ W, wr.alloc (.cells #[.int .i64 Q.src, .int .i64 Q.ident, .slice Q.tx.ad Q.tx.len Q.tx.cap, .slice Q.ax.ad Q.ax.len Q.ax.cap, .int .i64 Q.total, .int .i64 Q.lim] 35) = W := ⟨_, rfl⟩
      rw [hW1] at bx hx h1
      have y0 := hx.cell (j := 0) rfl
      have y1 := hx.cell (j := 1) rfl
      have y2 := hx.cell (j := 2) rfl
      have y3 := hx.cell (j := 3) rfl
      have y4 := hx.cell (j := 4) rfl
      have y5 := hx.cell (j := 5) rfl
      have CC := hid (copiedRow_any e Q hsm W1 h1)
      have P1 := hid (PR.out.on bx)
      have B1 := hid (below_via BR.out bx)
      have hs1 := hsm.2.1
      have HWF := hid hwf
      have hrw : wr.heap.size ≤ W1.heap.size := bx.size
      clear hat htwo hll hc hQ hho he hsm hwf bx hx h1 PR BR hkr
      go_wp2_with fail
      refine Calls.mono CC.out ?_
      rintro e9 w2 ⟨r', rfl, ho, b2⟩
      have p2 := P1.out.on b2
      have B2 := hid (below_via B1.out b2)
      have hrl : rs.length = k := by rw [← p2.nest.length]; exact hkl
      have CA := hid (pileAdd_any (w.heap.size + 1) (l.take k) im w.heap.size wr.heap.size (1048577 + k) va vc w.heap.size rs e r' (by omega) (by omega) HWF.out (by omega) (by omega) (fun j g hj => by rw [hkl]; exact (AL.out j).1 (by rw [hj]; rfl)) w2 p2 (ho.down hrw (Nat.le_refl _)))
      rw [hkl, hrl] at CA
      have HRL := hid hrl
      clear CC y0 y1 y2 y3 y4 y5 b2 ho p2 hrl P1 B1
      go_wp2_with fail
      refine Calls.mono CA.out ?_
      rintro e9 w3 ⟨rfl, va', vc', g, p3, b3⟩
      have P3 := hid p3
      have B3 := hid (B2.out.trans b3)
      have AL3 : Hid (∀ j, ((fun j => if j = k then some g else im j) j).isSome = true ↔ j < k + 1) := (show ∀ j, _ from fun j => by
        by_cases hj : j = k
        · simp [hj]
        · have := AL.out j
          simp only [if_neg hj]
          exact ⟨fun h => by have := this.1 h; omega, fun h => this.2 (by omega)⟩)
      clear CA p3 b3 B2 x0 x1 x2 x3 x4 x5
      go_wp2
      go_roundg q
      case measure => omega
      case rel => exact ⟨k + 1, by omega, by go_num, va', vc', rs ++ [r'], _, B3, by rw [HTK.out]; exact P3, AL3⟩
end Go.Proofs.Ythdklbmachplmaa
