/-
  The walk of impl.ShedActs: what it answers, in memory of its own.
  The walks of laws.eqAct, eqActS: acts compared.
  The walks of laws.markActS, heldActS over a list of acts that the call's answer owns.
-/
import Derived.Test.YtggogiepebnckaaDoorJoint46
import Derived.Test.YtggogiepebnckaaDoorJoint29
import Derived.Test.YtggogiepebnckaaDoorJoint1
import Derived.Lib.QuietBelow
import Derived.Test.YtggogiepebnckaaDoorJoint5
import Derived.Test.YtggogiepebnckaaDoorJoint8
namespace Go.Proofs.YtggogiepebnckaaDoor
open Go.RowKit

set_option maxRecDepth 1000000 in
/-- the function that tells which files go -/
theorem shedGoes_any (nm : ByteArray) (b : Nat) (ix : Int) (w : World) (hc : w.cell? ⟨b, 0, none⟩ = some (.int .i64 ix)) :
    Calls Tryd.prog 48 (#[.string nm] ++ #[.pointer (some ⟨b, 0, none⟩)]) w fun e w' => e = .returned (.bool (isNew nm || isOther ix nm)) ∧ Below w.heap.size w w' := by
  show Calls Tryd.prog 48 #[.string nm, .pointer (some ⟨b, 0, none⟩)] w _
  cases hn : isNew nm with
  | true =>
    have hnd : (nm.toList == [115, 43]) = true := hn
    clear hn
    go_enter Tryd.func48, Tryd.ntmps48
    go_wp2
    go_ret
    exact ⟨rfl, Below.refl _ _⟩
  | false =>
    have hnd : (nm.toList == [115, 43]) = false := hn
    clear hn
    go_enter Tryd.func48, Tryd.ntmps48
    go_wp2_with fail
    refine (otherSnap_any nm ix _).mono ?_
    rintro e w1 ⟨rfl, b1⟩
    have B1 := hid b1
    obtain ⟨q, hq⟩ : ∃ q, isOther ix nm = q := ⟨_, rfl⟩
    rw [hq]
    have HQ := hid hq
    clear b1 hq
    go_wp2
    go_ret
    exact ⟨by rw [HQ.out]; rfl, B1.out⟩

set_option maxRecDepth 1000000 in
set_option maxHeartbeats 4000000 in
theorem implShed_any (ao : Option Addr) (l : List FileD) (cap : Nat) (hl : l.length ≤ 1048576) (hsm : ∀ f ∈ l, f.text.size ≤ 1048576) (hsn : ∀ f ∈ l, f.name.size ≤ 1048576) (w : World) (ha : FilesAt w ao l) (ht : Steps w) :
    Calls Tryd.prog 19 #[.agg #[.slice ao l.length cap]] w fun e w' => actsDid (shedActs l) w e w' := by
  have hmf : ∀ (fn : Fn) (first cap : Array Value) (w : World), (Instr.makeFunc fn first cap).run Tryd.prog w = .ok (.func fn first cap) w := fun _ _ _ _ => rfl
  have HA := hid ha
  have HT := hid ht
  have HSN := hid hsn
  have hx0 : BlockIs (w.alloc (.cells #[.slice ao l.length cap] 37)) w.heap.size 37 [.slice ao l.length cap] := heap_alloc_new w _
  have D0 := hid hx0
  have B0 := hid (below_more (Below.refl w.heap.size w) (.cells #[.slice ao l.length cap] 37))
  clear ha ht hsn hx0
  have d0 := D0.out.cell (j := 0) rfl
  go_enter Tryd.func19, Tryd.ntmps19
  go_wp2_with fail
  refine (implNewest_any ao l cap hl hsm _ (HA.out.on B0.out) (steps_on HT.out B0.out)).mono ?_
  rintro e w1 ⟨va, vc, rfl, _, b1⟩
  have bx := below_more (Below.refl w1.heap.size w1) (.cells #[.int .i64 (snapIx (newestSnap l)), .int .i64 (snapTm (newestSnap l)), .slice va (snapZs (newestSnap l)).length vc, .string (snapBd (newestSnap l))] 24)
  have hx1 : BlockIs (w1.alloc (.cells #[.int .i64 (snapIx (newestSnap l)), .int .i64 (snapTm (newestSnap l)), .slice va (snapZs (newestSnap l)).length vc, .string (snapBd (newestSnap l))] 24)) w1.heap.size 24 [.int .i64 (snapIx (newestSnap l)), .int .i64 (snapTm (newestSnap l)), .slice va (snapZs (newestSnap l)).length vc, .string (snapBd (newestSnap l))] := heap_alloc_new w1 _
  have b01 := below_via b1 bx
  have D1 := hid (D0.out.on b01 D0.out.lt)
  have B1 := hid (below_via B0.out b01)
  have X1 := hid hx1
  clear b1 bx b01 hx1 D0 B0 d0
  have hpair : Hid (∀ s, newestSnap l = some s → dropsOf (fun nm => isNew nm || isOther (s.ix : Int) nm) l = newA l ++ dropsOf (isOther (s.ix : Int)) l) := fun s hs => dropsOf_both _ (disk_pairs (newest_disk hs))
  cases hn : newestSnap l with
  | none =>
    rw [hn] at D1 B1 X1
    have HR : Hid (shedActs l = []) := (show _ = _ by rw [shedActs, hn])
    rw [show (none : Option SnapD).isSome = false from rfl]
    have BL := hid (below_more B1.out (.cells #[] 82))
    have RL := hid (actR_nil (w1.alloc (.cells #[.int .i64 (snapIx none), .int .i64 (snapTm none), .slice va (snapZs none).length vc, .string (snapBd none)] 24)) w.heap.size B1.out.size)
    have hsz : (w1.alloc (.cells #[.int .i64 (snapIx none), .int .i64 (snapTm none), .slice va (snapZs none).length vc, .string (snapBd none)] 24)).heap.size = w1.heap.size + 1 := by simp [World.alloc, -World.alloc_eq]
    rw [hsz] at RL
    clear hn hpair hsz
    go_wp2
    go_ret
    rw [HR.out]
    exact ⟨_, _, rfl, RL.out, BL.out⟩
  | some s =>
    rw [hn] at D1 B1 X1
    have HR : Hid (shedActs l = dropsOf (fun nm => isNew nm || isOther (s.ix : Int) nm) l) := (show _ = _ by rw [shedActs, hn, hpair.out s hn])
    rw [show (some s : Option SnapD).isSome = true from rfl]
    have d0 := D1.out.cell (j := 0) rfl
    clear hn hpair
    obtain ⟨W1, hW1⟩ : ∃ W, w1.alloc (.cells #[.int .i64 (snapIx (some s)), .int .i64 (snapTm (some s)), .slice va (snapZs (some s)).length vc, .string (snapBd (some s))] 24) = W := ⟨_, rfl⟩
    rw [hW1] at D1 B1 X1 d0
    go_wp2_with fail
    refine (dropActs_any 48 (fun args w => by kernel_rfl) #[.pointer (some ⟨w1.heap.size, 0, none⟩)] (fun nm => isNew nm || isOther (s.ix : Int) nm) ao l cap hl HSN.out _ (HA.out.on B1.out) (fun nm W _ hB => shedGoes_any nm w1.heap.size (s.ix : Int) W ((X1.out.on hB X1.out.lt).cell (j := 0) rfl))).mono ?_
    rintro e w2 ⟨va2, vc2, rfl, ho, b2⟩
    rw [← HR.out] at ho ⊢
    have RL := hid (row_down ho B1.out.size)
    have BL := hid (below_via B1.out b2)
    clear ho b2 D1 B1 X1 d0 hW1
    go_wp2
    go_ret
    exact ⟨_, _, rfl, RL.out, BL.out⟩
end Go.Proofs.YtggogiepebnckaaDoor

namespace Go.Proofs.YtggogiepebnckaaDoor
open Go.RowKit Go.Sort

set_option maxRecDepth 1000000 in
theorem eqAct_same (a : ActD) (w : World) :
    Calls Tryd.prog 50 #[a.value, a.value] w fun e w' => e = .returned (.bool true) ∧ Below w.heap.size w w' := by
  have hb : Hid (∀ (o p : Obj), Below w.heap.size w ((w.alloc o).alloc p)) := fun o p => below_more (below_more (Below.refl _ w) _) _
  unfold ActD.value
  go_enter Tryd.func50, Tryd.ntmps50
  go_wp2
  go_ret
  exact ⟨rfl, hb.out _ _⟩

set_option maxRecDepth 1000000 in
set_option maxHeartbeats 1000000 in
theorem eqActS_same (ao bo : Option Addr) (acts : List ActD) (cap cap' : Nat) (hl : acts.length ≤ 140737488355328) (w : World) (ha : ActsAt w ao acts) (hb : ActsAt w bo acts) :
    Calls Tryd.prog 20 #[.slice ao acts.length cap, .slice bo acts.length cap'] w fun e w' => e = .returned (.bool true) ∧ Below w.heap.size w w' := by
  have HA := hid ha
  have HB := hid hb
  clear ha hb
  go_enter Tryd.func20, Tryd.ntmps20
  go_wp2
  go_loopg [5] acts.length (fun g i wr => ∃ (k : Nat), k + g = acts.length ∧ i = .int .i64 k ∧ Hid (Below w.heap.size w wr))
  case atStart => exact ⟨0, by omega, rfl, (show Below _ _ _ from Below.refl _ _)⟩
  case round =>
    obtain ⟨k, hkg, rfl, BR⟩ := hrel
    cases gk with
    | zero =>
      have hlt : ¬ (k : Int) < (acts.length : Int) := by omega
      go_wp2
      go_ret
      exact ⟨rfl, BR.out⟩
    | succ g =>
      have hlt : k < acts.length := by omega
      have hlt' : (k : Int) < (acts.length : Int) := by omega
      have hne : acts ≠ [] := by intro e; rw [e] at hlt; simp at hlt
      obtain ⟨b, off, rfl, hc⟩ := HA.out.on BR.out hne
      obtain ⟨x0, x1, x2, x3⟩ := hc k hlt
      obtain ⟨b', off', rfl, hc'⟩ := HB.out.on BR.out hne
      obtain ⟨y0, y1, y2, y3⟩ := hc' k hlt
      have X0 := cell_regrown x0
      have X1 := cell_regrown x1
      have X2 := cell_regrown x2
      have X3 := cell_regrown x3
      have Y0 := cell_regrown y0
      have Y1 := cell_regrown y1
      have Y2 := cell_regrown y2
      have Y3 := cell_regrown y3
      clear hc hc' x0 x1 x2 x3 y0 y1 y2 y3
      have C' := fun d os => Calls.regrown_of (w := wr) (d := d) (os := os) (eqAct_same acts[k] _)
      unfold ActD.value at C'
      have C := hid C'
      clear C'
      go_wp2
      refine wp_region_quiet_below (by kernel_rfl) (by kernel_rfl) ?_
      repeat (first | go_big_quiet_step (first | (go_at_call 50; exact C.out _ _) | fail) | quiet_step (first | (go_at_call 50; exact C.out _ _) | fail))
      refine wpQuiet_nil ?_
      intro _ hw'
      obtain ⟨⟨dq, osq⟩, hw''⟩ := hw'
      subst hw''
      have BQ : Hid (Below w.heap.size w (grow (redrawn wr dq) osq)) := BR.out.trans ((below_regrown wr dq osq).mono BR.out.size)
      generalize grow (redrawn wr dq) osq = wq at BQ ⊢
      clear X0 X1 X2 X3 Y0 Y1 Y2 Y3 C
      go_wp2
      go_roundg g
      case measure => omega
      case rel => exact ⟨k + 1, by omega, by go_num, BQ⟩
end Go.Proofs.YtggogiepebnckaaDoor

namespace Go.Proofs.YtggogiepebnckaaDoor
open Go.RowKit Go.Sort

theorem set_fourB (p : List Value) (a b c d x y z u : Value) (r : List Value) : ((((p ++ x :: y :: z :: u :: r).set p.length a).set (p.length + 1) b).set (p.length + 2) c).set (p.length + 3) d = p ++ a :: b :: c :: d :: r := by
  rw [List.set_append_right _ _ (Nat.le_refl _), List.set_append_right _ _ (by omega), List.set_append_right _ _ (by omega), List.set_append_right _ _ (by omega)]
  simp
def markB (m k : Nat) : ActD := ⟨((m + 4 * k : Nat) : Int), mtx (m + 4 * k + 1), mtx (m + 4 * k + 2), mtx (m + 4 * k + 3)⟩
def marksB (m n : Nat) : List ActD := (List.range n).map (markB m)
theorem marksB_length (m n : Nat) : (marksB m n).length = n := by simp [marksB]
theorem marksB_succ (m n : Nat) : marksB m (n + 1) = marksB m n ++ [markB m n] := by simp [marksB, List.range_succ]
def markedR (m k : Nat) (acts : List ActD) (r : List Value) : List Value := actCells (marksB m k) ++ (actCells (acts.drop k) ++ r)
theorem markedR_split (m k : Nat) (acts : List ActD) (r : List Value) (hk : k < acts.length) :
    markedR m k acts r = actCells (marksB m k) ++ .int .i64 acts[k].kind :: .string acts[k].name :: .string acts[k].text :: .string acts[k].to :: (actCells (acts.drop (k + 1)) ++ r) := by
  rw [markedR, List.drop_eq_getElem_cons hk]
  rfl
theorem markedR_step (m k : Nat) (acts : List ActD) (r : List Value) (hk : k < acts.length) :
    ((((markedR m k acts r).set (k * 4) (.int .i64 ((m + 4 * k : Nat) : Int))).set (k * 4 + 1) (.string (mtx (m + 4 * k + 1)))).set (k * 4 + 2) (.string (mtx (m + 4 * k + 2)))).set (k * 4 + 3) (.string (mtx (m + 4 * k + 3))) = markedR m (k + 1) acts r := by
  have e4 := set_fourB (actCells (marksB m k)) (.int .i64 ((m + 4 * k : Nat) : Int)) (.string (mtx (m + 4 * k + 1))) (.string (mtx (m + 4 * k + 2))) (.string (mtx (m + 4 * k + 3))) (.int .i64 acts[k].kind) (.string acts[k].name) (.string acts[k].text) (.string acts[k].to) (actCells (acts.drop (k + 1)) ++ r)
  rw [actCells_length, marksB_length] at e4
  rw [markedR_split m k acts r hk, e4, markedR, marksB_succ]
  simp [actCells, actEnc, markB]
theorem markedR_at (m k : Nat) (acts : List ActD) (r : List Value) (hk : k < acts.length) :
    (markedR m k acts r)[k * 4]? = some (.int .i64 acts[k].kind) ∧ (markedR m k acts r)[k * 4 + 1]? = some (.string acts[k].name) ∧ (markedR m k acts r)[k * 4 + 2]? = some (.string acts[k].text) ∧ (markedR m k acts r)[k * 4 + 3]? = some (.string acts[k].to) := by
  have hlen : (actCells (marksB m k)).length = k * 4 := by rw [actCells_length, marksB_length]
  rw [markedR_split m k acts r hk]
  refine ⟨?_, ?_, ?_, ?_⟩
  · rw [List.getElem?_append_right (by omega), hlen, Nat.sub_self]; rfl
  · rw [List.getElem?_append_right (by omega), hlen, show k * 4 + 1 - k * 4 = 1 by omega]; rfl
  · rw [List.getElem?_append_right (by omega), hlen, show k * 4 + 2 - k * 4 = 2 by omega]; rfl
  · rw [List.getElem?_append_right (by omega), hlen, show k * 4 + 3 - k * 4 = 3 by omega]; rfl

set_option maxRecDepth 1000000 in
set_option maxHeartbeats 1000000 in
theorem markActS_more (g : Nat) (acts : List ActD) (r : List Value) (cap m : Nat) (hm : m ≤ 10000000) (hl : acts.length ≤ 1048576) (w : World) (hb : BlockIs w g 82 (actCells acts ++ r)) :
    Calls Tryd.prog 21 #[.slice (some ⟨g, 0, none⟩) acts.length cap, .int .i64 m] w fun e w' => e = .returned (.int .i64 ((m + 4 * acts.length : Nat) : Int)) ∧ BlockIs w' g 82 (actCells (marksB m acts.length) ++ r) ∧ w.grownBy w' (some g) := by
  have HB := (show Hid (BlockIs w g 82 (markedR m 0 acts r)) from hb)
  clear hb
  go_enter Tryd.func21, Tryd.ntmps21
  go_wp2
  go_loopg [1, 5] acts.length (fun q y i wr => ∃ (k : Nat), k + q = acts.length ∧ i = .int .i64 k ∧ y = .int .i64 ((m + 4 * k : Nat) : Int) ∧ Hid (BlockIs wr g 82 (markedR m k acts r)) ∧ Hid (w.grownBy wr (some g)))
  case atStart => exact ⟨0, by omega, rfl, rfl, HB, World.grownBy.refl _ _⟩
  case round =>
    obtain ⟨k, hkg, rfl, rfl, FB, GR⟩ := hrel
    clear HB
    cases gk with
    | zero =>
      have hlt : ¬ (k : Int) < (acts.length : Int) := by omega
      obtain rfl : k = acts.length := by omega
      have FE : Hid (BlockIs wr g 82 (actCells (marksB m acts.length) ++ r)) := by
        have := FB.out
        rw [markedR, List.drop_length] at this
        exact this
      clear FB
      go_wp2
      go_ret
      exact ⟨rfl, FE.out, GR.out⟩
    | succ q =>
      have hlt : k < acts.length := by omega
      have hlt' : (k : Int) < (acts.length : Int) := by omega
      have hat := hid (markedR_at m k acts r hlt)
      have hstep := hid (markedR_step m k acts r hlt)
      have C1 := hid (fun w => markText_any (m + 4 * k + 1) (by omega) w)
      have C2 := hid (fun w => markText_any (m + 4 * k + 2) (by omega) w)
      have C3 := hid (fun w => markText_any (m + 4 * k + 3) (by omega) w)
      obtain ⟨K, hK⟩ : ∃ K, m + 4 * k = K := ⟨_, rfl⟩
      have hKl : K ≤ 20000000 := by omega
      rw [hK] at C1 C2 C3 hstep ⊢
      have x0 := FB.out.cell hat.out.1
      have f0 := FB.out.thaw (k * 4)
      have E0 := hid (FB.out.set (k * 4) (.int .i64 ((K : Nat) : Int)))
      have G0 := hid (GR.out.trans (grownBy_set _ g (k * 4) (.int .i64 ((K : Nat) : Int))))
      go_wp2_with fail
      refine (C1.out _).mono ?_
      rintro e w1 ⟨rfl, b1⟩
      have D1 := E0.out.on b1 E0.out.lt
      have G1 := hid (G0.out.trans (grown_of_below b1 (some g)))
      have x1 := D1.cell (set_other (v := .int .i64 ((K : Nat) : Int)) hat.out.2.1 (by omega))
      have f1 := D1.thaw (k * 4 + 1)
      have E1 := hid (D1.set (k * 4 + 1) (.string (mtx (K + 1))))
      clear b1 FB GR D1 E0 G0 x0 f0
      go_wp2_with fail
      refine (C2.out _).mono ?_
      rintro e w2 ⟨rfl, b2⟩
      have D2 := E1.out.on b2 E1.out.lt
      have G2 := hid ((G1.out.trans (grownBy_set _ g (k * 4 + 1) _)).trans (grown_of_below b2 (some g)))
      have x2 := D2.cell (set_other (v := .string (mtx (K + 1))) (set_other (v := .int .i64 ((K : Nat) : Int)) hat.out.2.2.1 (by omega)) (by omega))
      have f2 := D2.thaw (k * 4 + 2)
      have E2 := hid (D2.set (k * 4 + 2) (.string (mtx (K + 2))))
      clear b2 E1 D2 G1 x1 f1
      go_wp2_with fail
      refine (C3.out _).mono ?_
      rintro e w3 ⟨rfl, b3⟩
      have D3 := E2.out.on b3 E2.out.lt
      have G3 := hid (((G2.out.trans (grownBy_set _ g (k * 4 + 2) _)).trans (grown_of_below b3 (some g))).trans (grownBy_set _ g (k * 4 + 3) (.string (mtx (K + 3)))))
      have x3 := D3.cell (set_other (v := .string (mtx (K + 2))) (set_other (v := .string (mtx (K + 1))) (set_other (v := .int .i64 ((K : Nat) : Int)) hat.out.2.2.2 (by omega)) (by omega)) (by omega))
      have f3 := D3.thaw (k * 4 + 3)
      have E3 := hid (D3.set (k * 4 + 3) (.string (mtx (K + 3))))
      rw [hstep.out] at E3
      clear b3 E2 D3 G2 x2 f2 hat hstep C1 C2 C3
      go_wp2
      go_roundg q
      case measure => omega
      case rel => exact ⟨k + 1, by omega, by go_num, by rw [← show K + 4 = m + 4 * (k + 1) by omega]; go_num, E3, G3⟩

set_option maxRecDepth 1000000 in
theorem markActS_nil (va : Option Addr) (vc m : Nat) (w : World) : Calls Tryd.prog 21 #[.slice va 0 vc, .int .i64 m] w fun e w' => e = .returned (.int .i64 m) ∧ w' = w := by
  go_enter Tryd.func21, Tryd.ntmps21
  go_wp2
  go_loopg [1, 5] 0 (fun _ y i wr => wr = w ∧ i = .int .i64 0 ∧ y = .int .i64 m)
  case atStart => exact ⟨rfl, rfl, rfl⟩
  case round =>
    obtain ⟨rfl, rfl, rfl⟩ := hrel
    go_wp2
    go_ret
    exact ⟨rfl, rfl⟩
theorem OwnAt.acts {w : World} {A : List ActD} {va : Option Addr} {lo hi : Nat} (h : OwnAt w 82 (actCells A) A.length va lo hi) : ActsAt w va A := by
  rcases h with h | ⟨g, r, rfl, _, _, h⟩
  · intro h0
    exact absurd (List.length_eq_zero_iff.1 h) h0
  · exact actsAt_of h
theorem own_acts {w : World} {base cap : Nat} {va : Option Addr} {A : List ActD} (h : w.ownsRow base 82 4 (.slice va A.length cap) A.length (actCells A)) : OwnAt w 82 (actCells A) A.length va base w.heap.size := by
  rcases h.2 with ⟨hv, hn⟩ | ⟨g, cp, cur, hv, hgb, hh, hle, hmx, hsz, ht⟩
  · exact Or.inl hn
  · simp only [Value.slice.injEq] at hv
    obtain ⟨rfl, _, rfl⟩ := hv
    have hc : BlockIs w g 82 (actCells A ++ cur.toList.drop (A.length * 4)) := by
      unfold BlockIs
      rw [hh]
      have : actCells A ++ cur.toList.drop (A.length * 4) = cur.toList := by rw [← ht, List.take_append_drop]
      rw [this]
    exact Or.inr ⟨g, _, rfl, hgb, hc.lt, hc⟩
theorem markActS_own (va : Option Addr) (vc : Nat) (A : List ActD) (lo hi m : Nat) (hm : m ≤ 10000000) (hl : A.length ≤ 1048576) (w : World) (hw : lo ≤ w.heap.size) (h : OwnAt w 82 (actCells A) A.length va lo hi) :
    Calls Tryd.prog 21 #[.slice va A.length vc, .int .i64 m] w fun e w' => e = .returned (.int .i64 ((m + 4 * A.length : Nat) : Int)) ∧ ActsAt w' va (marksB m A.length) ∧ KeptBut lo hi w w' ∧ Below lo w w' := by
  rcases h with h | ⟨g, r, rfl, h1, h2, h3⟩
  · have e : A = [] := List.eq_nil_of_length_eq_zero h
    subst e
    refine (markActS_nil va vc m w).mono ?_
    rintro e w' ⟨rfl, rfl⟩
    exact ⟨rfl, fun h => absurd rfl h, fun _ _ _ _ h => h, Below.refl _ _⟩
  · refine (markActS_more g A r vc m hm hl w h3).mono ?_
    rintro e w' ⟨rfl, hr, hg⟩
    exact ⟨rfl, actsAt_of hr, fun j t cs hj hb => blk_grown hb hg (by omega), below_grown (Below.refl _ _) hg h1 hw⟩

set_option maxRecDepth 1000000 in
set_option maxHeartbeats 2000000 in
theorem heldActS_any (ao : Option Addr) (n cap m : Nat) (hm : m ≤ 10000000) (hl : n ≤ 1048576) (w : World) (ha : ActsAt w ao (marksB m n)) :
    Calls Tryd.prog 22 #[.slice ao n cap, .int .i64 m] w fun e w' => e = .returned (.int .i64 ((m + 4 * n : Nat) : Int)) ∧ Below w.heap.size w w' := by
  have HA := hid ha
  clear ha
  go_enter Tryd.func22, Tryd.ntmps22
  go_wp2
  go_loopg [1, 5] n (fun q y i wr => ∃ (k : Nat), k + q = n ∧ i = .int .i64 k ∧ y = .int .i64 ((m + 4 * k : Nat) : Int) ∧ Hid (Below w.heap.size w wr))
  case atStart => exact ⟨0, by omega, rfl, rfl, (show Below _ _ _ from Below.refl _ _)⟩
  case round =>
    obtain ⟨k, hkg, rfl, rfl, BR⟩ := hrel
    cases gk with
    | zero =>
      have hlt : ¬ (k : Int) < (n : Int) := by omega
      obtain rfl : k = n := by omega
      go_wp2
      go_ret
      exact ⟨rfl, BR.out⟩
    | succ q =>
      have hlt : k < n := by omega
      have hlt' : (k : Int) < (n : Int) := by omega
      have hkm : k < (marksB m n).length := by rw [marksB_length]; exact hlt
      have hne : marksB m n ≠ [] := by intro e; rw [e] at hkm; simp at hkm
      have hmk : (marksB m n)[k] = markB m k := by simp [marksB]
      obtain ⟨b, off, rfl, hc⟩ := HA.out.on BR.out hne
      obtain ⟨x0, x1, x2, x3⟩ := hc k hkm
      rw [hmk] at x0 x1 x2 x3
      simp only [markB] at x0 x1 x2 x3
      clear hmk hne hkm hc
      obtain ⟨K, hK⟩ : ∃ K, m + 4 * k = K := ⟨_, rfl⟩
      have hKl : K ≤ 20000000 := by omega
      rw [hK] at x0 x1 x2 x3 ⊢
      have X1 := cell_regrown x1
      have C1 := hid (fun d os => Calls.regrown_of (w := wr) (d := d) (os := os) (markText_any (K + 1) (by omega) _))
      go_wp2
      refine wp_region_quiet_below (by kernel_rfl) (by kernel_rfl) ?_
      repeat (first | go_big_quiet_step (first | (go_at_call 51; exact C1.out _ _) | fail) | quiet_step (first | (go_at_call 51; exact C1.out _ _) | fail))
      refine wpQuiet_nil ?_
      intro _ hw'
      obtain ⟨⟨dq, osq⟩, hw''⟩ := hw'
      subst hw''
      have b1 := below_regrown wr dq osq
      generalize grow (redrawn wr dq) osq = w1 at b1 ⊢
      have B1 := hid (below_via BR.out b1)
      have y2 := (b1.cell (p := ⟨b, off + k * 4 + 2, none⟩) (World.block_lt_of_cell? wr _ x2)).trans x2
      have y3 := (b1.cell (p := ⟨b, off + k * 4 + 3, none⟩) (World.block_lt_of_cell? wr _ x3)).trans x3
      clear x0 x1 x2 x3 X1 C1 b1 BR
      have Y2 := cell_regrown y2
      have C2 := hid (fun d os => Calls.regrown_of (w := w1) (d := d) (os := os) (markText_any (K + 2) (by omega) _))
      go_wp2
      refine wp_region_quiet_below (by kernel_rfl) (by kernel_rfl) ?_
      repeat (first | go_big_quiet_step (first | (go_at_call 51; exact C2.out _ _) | fail) | quiet_step (first | (go_at_call 51; exact C2.out _ _) | fail))
      refine wpQuiet_nil ?_
      intro _ hw'
      obtain ⟨⟨dq, osq⟩, hw''⟩ := hw'
      subst hw''
      have b2 := below_regrown w1 dq osq
      generalize grow (redrawn w1 dq) osq = w2 at b2 ⊢
      have B2 := hid (below_via B1.out b2)
      have z3 := (b2.cell (p := ⟨b, off + k * 4 + 3, none⟩) (World.block_lt_of_cell? w1 _ y3)).trans y3
      clear y2 y3 Y2 C2 b2 B1
      have Z3 := cell_regrown z3
      have C3 := hid (fun d os => Calls.regrown_of (w := w2) (d := d) (os := os) (markText_any (K + 3) (by omega) _))
      go_wp2
      refine wp_region_quiet_below (by kernel_rfl) (by kernel_rfl) ?_
      repeat (first | go_big_quiet_step (first | (go_at_call 51; exact C3.out _ _) | fail) | quiet_step (first | (go_at_call 51; exact C3.out _ _) | fail))
      refine wpQuiet_nil ?_
      intro _ hw'
      obtain ⟨⟨dq, osq⟩, hw''⟩ := hw'
      subst hw''
      have b3 := below_regrown w2 dq osq
      generalize grow (redrawn w2 dq) osq = w3 at b3 ⊢
      have B3 := hid (below_via B2.out b3)
      clear z3 Z3 C3 b3 B2
      go_wp2
      go_roundg q
      case measure => omega
      case rel => exact ⟨k + 1, by omega, by go_num, by rw [← show K + 4 = m + 4 * (k + 1) by omega]; go_num, B3⟩
end Go.Proofs.YtggogiepebnckaaDoor
