/-
  The walk of impl.Unframe: what it answers.
-/
import Derived.Test.YtfkknmhokiacaabDoorFramesI
import Derived.Test.YtfkknmhokiacaabDoorUnframeK
import Derived.Test.YtfkknmhokiacaabDoorClone
import Derived.Deep.AppendLies
import Derived.BigQuiet
namespace Go.Proofs.YtfkknmhokiacaabDoor
open Go.RowKit Go.Shelf
attribute [local go_sem] Oper.semAt_some

/-- an append inside a region that draws, within a fence -/
theorem stepIn_append_lies {F : Fence} {nn : Nat} {P : Program} (w : World) {ops : Array Oper} {o : Oper} {a : Act} {K : Act → World → Prop} {Q : Exit → Act → World → Prop} {E : Prop} (hgd : o.guard = none) (s x : Operand) (t : TypeId)
    (ho : o.op = .call { callee := .builtin .append, args := #[s, x], argTypes := #[t, t] })
    (base : Nat) (e : TypeId) (i : TypeInfo) (z : Value) (size bytes : Nat) (ht : P.underlying t = some (.slice e)) (hi : P.info? e = some i) (hz : i.zero = some z)
    (hsize : i.size = size) (hby : i.bytes = bytes) (hzs : z.cells.size = size) (hsz : 0 < size)
    (v : Value) (n : Nat) (xs : List Value) (hs : a.eval s = v) (hown : w.ownsRow base e size v n xs)
    (ad : Addr) (m c : Nat) (news : List Value) (hx : a.eval x = .slice (some ad) m c) (hl : news.length = m * size) (hnews : ∀ j u, news[j]? = some u → w.cell? (ad.add j) = some u) (h1 : ∀ u ∈ news, u.oneCell' = true)
    (hm : 0 < m) (h63 : n + m ≤ maxLen) (hbytes : (n + m) * bytes ≤ 140737488355328) (hbase : base ≤ w.heap.size) (H : Nat) (hH : w.heap.size = H)
    (h : ∀ g cap w', w'.ownsRow base e size (.slice (some ⟨g, 0, none⟩) (n + m) cap) (n + m) (xs ++ news) → w.grownBy w' v.ownBlock → (v.ownBlock = some g ∨ g = H) → g < w'.heap.size → K (a.put o.dst (.slice (some ⟨g, 0, none⟩) (n + m) cap)) w') :
    if Region.wanted o (yielded ops a.tmps) = true then Oper.wpIn F nn P o a w K Q else E := by
  have hw : Region.wanted o (yielded ops a.tmps) = true := by simp [Region.wanted, hgd]
  rw [if_pos hw]
  obtain ⟨g, cap, w', hr, h2, h3, h4, h5⟩ := run_append_lies (P := P) w t o.type base e i z size bytes ht hi hz hsize hby hzs hsz v n xs hown ad m c news hl hnews h1 hm h63 hbytes hbase H hH
  unfold Oper.wpIn
  refine ⟨?_, ?_⟩
  · simp [Oper.about, ho, resolve, Target.leads, Sem.run_pure]
  · rw [Oper.semAt_plain F _ _ (by rw [ho]; intro c hc'; cases hc')]
    simp [execOp, ho, resolve, invoke, builtin, hs, hx, hr, Result.andThen]
    exact h g cap w' h2 h3 h4 h5

/-- between two rounds -/
def UfI (s : ByteArray) (w : World) (pre : List (Nat × Nat)) (W : World) : Prop :=
  (∃ v, Boxed W (w.heap.size + 1) 22 v ∧ W.ownsRow w.heap.size 9 1 v pre.length (st (recs s pre)) ∧ v.ownBlock ≠ some (w.heap.size + 1 + 1 + 1)) ∧
    Boxed W (w.heap.size + 1 + 1) 3 (.int .i64 (endOf pre)) ∧ Boxed W (w.heap.size + 1 + 1 + 1) 9 (.string s) ∧ Below w.heap.size w W

theorem uf_own (s : ByteArray) (w : World) (B : Nat) (hB : w.heap.size ≤ B) : OwnFrom B (UfI s w) :=
  OwnFrom.and (Own.from (holdsRow_own w.heap.size (w.heap.size + 1) 22 9 1 (fun pre => pre.length) (fun pre => st (recs s pre)) (fun _ v => v.ownBlock ≠ some (w.heap.size + 1 + 1 + 1))) _)
    (OwnFrom.and (Own.from (boxed_own (w.heap.size + 1 + 1) 3 (fun pre => .int .i64 (endOf pre))) _) (OwnFrom.and (Own.from (boxed_own (w.heap.size + 1 + 1 + 1) 9 (fun _ => .string s)) _) (ownFrom_below (Nat.le_refl _) hB)))

theorem uf_body {s : ByteArray} {w W w2 w1 : World} {pre : List (Nat × Nat)} {x : Nat × Nat} {v : Value} {T : ByteArray} {g cap : Nat} (hT : s.extract x.1 x.2 = T)
    (hv : Boxed W (w.heap.size + 1) 22 v) (hrow : W.ownsRow w.heap.size 9 1 v pre.length (st (recs s pre))) (hvb : v.ownBlock ≠ some (w.heap.size + 1 + 1 + 1))
    (he : Boxed W (w.heap.size + 1 + 1) 3 (.int .i64 (endOf pre))) (hf : Boxed W (w.heap.size + 1 + 1 + 1) 9 (.string s)) (hB : Below w.heap.size w W) (hb : Below W.heap.size W w2)
    (hown : w1.ownsRow w.heap.size 9 1 (.slice (some ⟨g, 0, none⟩) (pre.length + 1) cap) (pre.length + 1) (st (recs s pre) ++ [.string T])) (hgrow : (w2.alloc (.cells #[.string T] 9)).grownBy w1 v.ownBlock)
    (hat : v.ownBlock = some g ∨ g = w2.heap.size + 1) (B : Nat) :
    KeepsFrom B W ((w1.setCell ⟨w.heap.size + 1, 0, none⟩ (.slice (some ⟨g, 0, none⟩) (pre.length + 1) cap)).setCell ⟨w.heap.size + 1 + 1, 0, none⟩ (.int .i64 (x.2 : Int))) ∧
    KeptFile w.heap.size (w.heap.size + 1 + 1 + 1) W ((w1.setCell ⟨w.heap.size + 1, 0, none⟩ (.slice (some ⟨g, 0, none⟩) (pre.length + 1) cap)).setCell ⟨w.heap.size + 1 + 1, 0, none⟩ (.int .i64 (x.2 : Int))) ∧
    UfI s w (pre ++ [x]) ((w1.setCell ⟨w.heap.size + 1, 0, none⟩ (.slice (some ⟨g, 0, none⟩) (pre.length + 1) cap)).setCell ⟨w.heap.size + 1 + 1, 0, none⟩ (.int .i64 (x.2 : Int))) ∧
    Boxed w1 (w.heap.size + 1) 22 v ∧ Boxed (w1.setCell ⟨w.heap.size + 1, 0, none⟩ (.slice (some ⟨g, 0, none⟩) (pre.length + 1) cap)) (w.heap.size + 1 + 1) 3 (.int .i64 (endOf pre)) := by
  subst hT
  have hlt := hf.lt
  have hsz2 := hb.size
  have v2 := boxed_on hv hb
  have e2 := boxed_on he hb
  have f2 := boxed_on hf hb
  have row2 := kept_onS hrow hb
  have e1 : Boxed w1 (w.heap.size + 1 + 1) 3 (.int .i64 (endOf pre)) := (e2.alloc _).kept hgrow (e2.not_row (by decide) row2)
  have f1 : Boxed w1 (w.heap.size + 1 + 1 + 1) 9 (.string s) := (f2.alloc _).kept hgrow (fun h => hvb h.symm)
  obtain ⟨v1, v3, r3, k3, b3⟩ := v2.appended (by decide) row2 (by omega) (by omega) hown hgrow
  have e3 := e1.other (B' := w.heap.size + 1) (by omega) (.slice (some ⟨g, 0, none⟩) (pre.length + 1) cap)
  have f3 := f1.other (B' := w.heap.size + 1) (by omega) (.slice (some ⟨g, 0, none⟩) (pre.length + 1) cap)
  obtain ⟨W3, hW3⟩ : ∃ W3, w1.setCell ⟨w.heap.size + 1, 0, none⟩ (.slice (some ⟨g, 0, none⟩) (pre.length + 1) cap) = W3 := ⟨_, rfl⟩
  rw [hW3] at v3 r3 k3 b3 e3 f3 ⊢
  have bW : Below w.heap.size W (W3.setCell ⟨w.heap.size + 1 + 1, 0, none⟩ (.int .i64 (x.2 : Int))) := ((hb.mono hB.size).trans b3).setCell (p := ⟨w.heap.size + 1 + 1, 0, none⟩) (show w.heap.size ≤ w.heap.size + 1 + 1 by omega) _
  have f4 := f3.other (B' := w.heap.size + 1 + 1) (by omega) (.int .i64 (x.2 : Int))
  refine ⟨?_, ⟨bW, ?_⟩, ⟨⟨_, v3.other (by omega) _, ?_, ?_⟩, ?_, f4, hB.trans bW⟩, v1, e3⟩
  · exact (((KeepsOthers.of_grownBy (grown_of_below hb none) (fun j o ej => by cases ej)).trans k3).trans (KeepsOthers.setCell _ _ _)).from B
  · intro u hu
    have : Value.string s = u := by
      have h1 : W.heap[w.heap.size + 1 + 1 + 1]? = _ := hf
      have h2 : W.heap[w.heap.size + 1 + 1 + 1]? = _ := hu
      rw [h1] at h2
      simpa using h2
    rw [← this]
    exact f4
  · rw [recs_snoc, st_append]
    have := r3.kept (grownBy_setCell' W3 (w.heap.size + 1 + 1) (.int .i64 (x.2 : Int))) (.inr (e3.not_row (by decide) r3).symm)
    simpa [st] using this
  · intro h
    rcases hat with h2 | h2
    · exact hvb (by rw [h2]; exact h)
    · simp only [Value.ownBlock, Option.some.injEq] at h
      omega
  · rw [endOf_snoc]
    exact e3.set _

set_option maxRecDepth 1000000 in
set_option maxHeartbeats 2000000 in
theorem implUnframe_big (s : ByteArray) (h6 : 20000 < s.size) (w : World) : Calls Tryd.prog 5 #[.string s] w fun e w' => unframeAns s w e w' := by
  have HD : Hid (∀ w', Below w.heap.size w w' → w'.ownsRow w.heap.size 9 1 (.slice (some ⟨w.heap.size, 0, none⟩) 0 0) 0 [] → unframeAns s w (.returned (.tuple #[.slice (some ⟨w.heap.size, 0, none⟩) 0 0, .int .i64 0])) w') := by
    intro w' hb ho
    refine ⟨_, by rw [ufE, if_pos h6]; rfl, ?_, hb⟩
    rw [ufT, if_pos h6]
    exact ho
  go_enter Tryd.func5, Tryd.ntmps5
  go_wp2
  go_quiet (fail)
  go_wp2
  go_ret2
  have hb0 := ((((Below.refl w.heap.size w).alloc (Nat.le_refl _) (.cells #[] 9)).alloc (by simp) (.cells #[.slice (some ⟨w.heap.size, 0, none⟩) 0 0] 22)).alloc (by simp; omega) (.cells #[.int .i64 0] 3))
  have ho := (((World.ownsRow_made w (e := 9) (size := 1) #[] 0 (Nat.le_refl w.heap.size) (Nat.zero_le _) rfl).alloc (.cells #[.slice (some ⟨w.heap.size, 0, none⟩) 0 0] 22)).alloc (.cells #[.int .i64 0] 3))
  exact HD.out _ (below_drewN hb0 _) (ho.kept (grown_of_below (below_drewN (Below.refl _ _) _) none) (.inr (by simp [Value.ownBlock])))

set_option maxRecDepth 1000000 in
set_option maxHeartbeats 2000000 in
theorem implUnframe_small (s : ByteArray) (h6 : s.size ≤ 20000) (w : World) (ht : Steps w) : Calls Tryd.prog 5 #[.string s] w fun e w' => unframeAns s w e w' := by
  have hmx : Tryd.prog.follows .mixedOrders = true := by kernel_rfl
  obtain ⟨i0, hi, hz0, hz1, hz2⟩ := info_parts unframe_info9
  have hw0 : 0 < w.heap.size := World.block_lt_of_cell? w _ (Steps.cell ht 0 (by omega))
  have bO := ((Boxed.new (w.alloc (.cells #[] 9)) 22 (.slice (some ⟨w.heap.size, 0, none⟩) 0 0)).alloc (.cells #[.int .i64 0] 3)).alloc (.cells #[.string s] 9)
  have bE := (Boxed.new ((w.alloc (.cells #[] 9)).alloc (.cells #[.slice (some ⟨w.heap.size, 0, none⟩) 0 0] 22)) 3 (.int .i64 0)).alloc (.cells #[.string s] 9)
  have bN := Boxed.new (((w.alloc (.cells #[] 9)).alloc (.cells #[.slice (some ⟨w.heap.size, 0, none⟩) 0 0] 22)).alloc (.cells #[.int .i64 0] 3)) 9 (.string s)
  have hB0 : Below w.heap.size w ((((w.alloc (.cells #[] 9)).alloc (.cells #[.slice (some ⟨w.heap.size, 0, none⟩) 0 0] 22)).alloc (.cells #[.int .i64 0] 3)).alloc (.cells #[.string s] 9)) :=
    ((((Below.refl w.heap.size w).alloc (Nat.le_refl _) (.cells #[] 9)).alloc (by simp) (.cells #[.slice (some ⟨w.heap.size, 0, none⟩) 0 0] 22)).alloc (by simp; omega) (.cells #[.int .i64 0] 3)).alloc (by simp; omega) _
  have hR0 := (((World.ownsRow_made w (e := 9) (size := 1) #[] 0 (Nat.le_refl w.heap.size) (Nat.zero_le _) rfl).alloc (.cells #[.slice (some ⟨w.heap.size, 0, none⟩) 0 0] 22)).alloc (.cells #[.int .i64 0] 3)).alloc (.cells #[.string s] 9)
  have hsz0 : ((((w.alloc (.cells #[] 9)).alloc (.cells #[.slice (some ⟨w.heap.size, 0, none⟩) 0 0] 22)).alloc (.cells #[.int .i64 0] 3)).alloc (.cells #[.string s] 9)).heap.size = w.heap.size + 4 := by simp
  simp only [World.size_alloc] at bO bE bN
  refine (callsIn_wide (n := 3)).1 ?_
  refine callsIn_of_wp_marks Tryd.func5 rfl trivial ?_ rfl
  simp only [Tryd.ntmps5, List.size_toArray, List.length_cons, List.length_nil, Nat.reduceAdd, Nat.reduceSub, Array.replicate_succ, Array.replicate_zero, List.push_toArray, List.append_toArray, List.nil_append, List.cons_append]
  gi_wp2_with (refine ⟨trivial, ?_⟩; gi_at_call 11; refine (framesOf_in _ s _).mono ?_; rintro e w1 ⟨rfl, rfl⟩)
  obtain ⟨W0, hW0⟩ : ∃ W0, (((w.alloc (.cells #[] 9)).alloc (.cells #[.slice (some ⟨w.heap.size, 0, none⟩) 0 0] 22)).alloc (.cells #[.int .i64 0] 3)).alloc (.cells #[.string s] 9) = W0 := ⟨_, rfl⟩
  rw [hW0] at bO bE bN hB0 hR0 hsz0 ⊢
  clear hW0
  refine wpIn_rangeFunc_ownG rfl (by omega) (gf := 18) (lb := #[.pointer (some ⟨w.heap.size + 1 + 1 + 1, 0, none⟩)]) rfl trivial (enters_of Tryd.func18 (by kernel_rfl) rfl)
    (frames_stops _ (by omega) (w.heap.size + 1 + 1 + 1) w.heap.size hw0 s h6 W0 hB0.size bN (steps_via ht hB0 hw0))
    (fun h k => ⟨h.1.trans k.1, fun v hv => k.2 v (h.2 v hv)⟩)
    (fun W l o o' hl ho hc hk => ⟨belowK_b (w := W0) hB0.size W l o o' hl ho hc hk, fun v hv => hv.kept (grownBy_putObj' W l o') (fun e => by
      have : w.heap.size + 1 + 1 + 1 = l := by simpa using e
      omega)⟩)
    (Below.refl _ _) (fun _ => rfl) (UfI s w) (fun _ _ _ => False) (uf_own s w _ hB0.size) (fun _ _ _ _ _ hs _ _ => hs)
    ⟨⟨_, bO, hR0, by simp [Value.ownBlock]; omega⟩, bE, bN, hB0⟩
    (fun x => { tmps := #[.string s, undef, .slice none 0 0, .int .i64 0, .pointer (some ⟨w.heap.size + 1, 0, none⟩), .pointer (some ⟨w.heap.size + 1 + 1, 0, none⟩), .string (s.extract x.1 x.2), .int .i64 (x.2 : Int), .slice (some ⟨w.heap.size, 0, none⟩) 0 0, .string s, .int .i64 s.size, .bool (decide (20000 < (s.size : Int))), undef, undef, .string s, .func (.func 18) #[] #[.pointer (some ⟨w.heap.size + 1 + 1 + 1, 0, none⟩)], .string (s.extract x.1 x.2), .int .i64 (x.2 : Int), undef, undef, undef, undef, undef, undef, undef, undef], defers := [] }) ?assign ?body ?done ?stop
  case assign =>
    intro l x W K hK
    unfold frameOut
    gi_wp2
    exact hK
  case body =>
    rintro l pre x W ⟨⟨v, hv, hrow, hvb⟩, he, hf, hB⟩ hlt
    have hc := hv.cell
    obtain ⟨T, hT⟩ : ∃ T, s.extract x.1 x.2 = T := ⟨_, rfl⟩
    have hTl : T.size ≤ 140737488355328 := by rw [← hT, ByteArray.size_extract]; omega
    rw [hT]
    gi_wp2
    refine wpIn_region_any (by assumption) ?_
    change wpAnyIn _ _ _ _ _ _ _ _ _ (World.drew _)
    refine wpAnyIn_ready (rs := [0, 1]) (by kernel_rfl) (by simp) (AllReadyIn.cons rfl (fun K hK => ?_) (AllReadyIn.cons rfl (fun K hK => ?_) AllReadyIn.nil))
    · go_simp
      refine hK _ _ ?_
      clear hK K
      refine wpAnyIn_ready (rs := [1]) (by kernel_rfl) (by simp) (AllReadyIn.cons rfl (fun K hK => ?_) AllReadyIn.nil)
      go_simp
      refine hK _ _ ?_
      clear hK K
      refine wpAnyIn_ready (rs := [2]) (by kernel_rfl) (by simp) (AllReadyIn.cons rfl (fun K hK => ?_) AllReadyIn.nil)
      go_simp
      gi_wp2_with (refine ⟨trivial, ?_⟩; gi_at_call 12; refine (CallsIn.inRound l (callsIn_wide.2 (clone_any T hTl _))).mono ?_; rintro e w2 ⟨rfl, b2⟩)
      have b : Below W.heap.size W w2 := (below_drewN (Below.refl _ W) 1).trans b2
      have hc2 := (boxed_on hv b).cell
      have hc3 := ((boxed_on hv b).alloc (.cells #[.string T] 9)).cell
      refine wpAnyIn_ready (rs := [3]) (by kernel_rfl) (by simp) (AllReadyIn.cons rfl (fun K hK => ?_) AllReadyIn.nil)
      go_simp
      refine hK _ _ ?_
      clear hK K
      refine wpAnyIn_ready (rs := [4]) (by kernel_rfl) (by simp) (AllReadyIn.cons rfl (fun K hK => ?_) AllReadyIn.nil)
      refine stepIn_append_lies _ rfl (.tmp 18) (.tmp 21) 22 rfl w.heap.size 9 i0 (.string ByteArray.empty) 1 16 Tryd.underlying22 hi hz0 hz1 hz2 rfl (by decide) v pre.length (st (recs s pre)) rfl ((kept_onS hrow b).alloc _) ⟨w2.heap.size, 0, none⟩ 1 1 [.string T] rfl rfl (one_new _ _ _) (by intro u hu; simp at hu; subst hu; rfl) (by decide) (by unfold maxLen; omega) (by omega) (by have := hB.size; have := b.size; simp; omega) (w2.heap.size + 1) (by simp) ?_
      intro g cap w1 hown hgrow hat _
      refine hK _ _ ?_
      clear hK K
      obtain ⟨p1, p2, p3, p4, p5⟩ := uf_body hT hv hrow hvb he hf hB b hown hgrow hat W0.heap.size
      have c4 := p4.cell
      have z4 := p4.frozen
      have c5 := p5.cell
      have z5 := p5.frozen
      refine wpAnyIn_ready (rs := [5]) (by kernel_rfl) (by simp) (AllReadyIn.cons rfl (fun K hK => ?_) AllReadyIn.nil)
      go_simp
      refine hK _ _ ?_
      clear hK K
      refine wpAnyIn_done (by kernel_rfl) ?_ _
      gi_wp2
      exact ⟨p1, p2, p3⟩
    · go_simp
      refine hK _ _ ?_
      clear hK K
      refine wpAnyIn_ready (rs := [0, 2]) (by kernel_rfl) (by simp) (AllReadyIn.cons rfl (fun K hK => ?_) (AllReadyIn.cons rfl (fun K hK => ?_) AllReadyIn.nil))
      · go_simp
        refine hK _ _ ?_
        clear hK K
        refine wpAnyIn_ready (rs := [2]) (by kernel_rfl) (by simp) (AllReadyIn.cons rfl (fun K hK => ?_) AllReadyIn.nil)
        go_simp
        gi_wp2_with (refine ⟨trivial, ?_⟩; gi_at_call 12; refine (CallsIn.inRound l (callsIn_wide.2 (clone_any T hTl _))).mono ?_; rintro e w2 ⟨rfl, b2⟩)
        have b : Below W.heap.size W w2 := (below_drewN (Below.refl _ W) 1).trans b2
        have hc2 := (boxed_on hv b).cell
        have hc3 := ((boxed_on hv b).alloc (.cells #[.string T] 9)).cell
        refine wpAnyIn_ready (rs := [3]) (by kernel_rfl) (by simp) (AllReadyIn.cons rfl (fun K hK => ?_) AllReadyIn.nil)
        go_simp
        refine hK _ _ ?_
        clear hK K
        refine wpAnyIn_ready (rs := [4]) (by kernel_rfl) (by simp) (AllReadyIn.cons rfl (fun K hK => ?_) AllReadyIn.nil)
        refine stepIn_append_lies _ rfl (.tmp 18) (.tmp 21) 22 rfl w.heap.size 9 i0 (.string ByteArray.empty) 1 16 Tryd.underlying22 hi hz0 hz1 hz2 rfl (by decide) v pre.length (st (recs s pre)) rfl ((kept_onS hrow b).alloc _) ⟨w2.heap.size, 0, none⟩ 1 1 [.string T] rfl rfl (one_new _ _ _) (by intro u hu; simp at hu; subst hu; rfl) (by decide) (by unfold maxLen; omega) (by omega) (by have := hB.size; have := b.size; simp; omega) (w2.heap.size + 1) (by simp) ?_
        intro g cap w1 hown hgrow hat _
        refine hK _ _ ?_
        clear hK K
        obtain ⟨p1, p2, p3, p4, p5⟩ := uf_body hT hv hrow hvb he hf hB b hown hgrow hat W0.heap.size
        have c4 := p4.cell
        have z4 := p4.frozen
        have c5 := p5.cell
        have z5 := p5.frozen
        refine wpAnyIn_ready (rs := [5]) (by kernel_rfl) (by simp) (AllReadyIn.cons rfl (fun K hK => ?_) AllReadyIn.nil)
        go_simp
        refine hK _ _ ?_
        clear hK K
        refine wpAnyIn_done (by kernel_rfl) ?_ _
        gi_wp2
        exact ⟨p1, p2, p3⟩
      · go_simp
        gi_wp2_with (refine ⟨trivial, ?_⟩; gi_at_call 12; refine (CallsIn.inRound l (callsIn_wide.2 (clone_any T hTl _))).mono ?_; rintro e w2 ⟨rfl, b2⟩)
        have b : Below W.heap.size W w2 := (below_drewN (Below.refl _ W) 1).trans b2
        have hc2 := (boxed_on hv b).cell
        have hc3 := ((boxed_on hv b).alloc (.cells #[.string T] 9)).cell
        refine wpAnyIn_ready (rs := [0, 3]) (by kernel_rfl) (by simp) (AllReadyIn.cons rfl (fun K hK => ?_) (AllReadyIn.cons rfl (fun K hK => ?_) AllReadyIn.nil))
        · go_simp
          refine hK _ _ ?_
          clear hK K
          refine wpAnyIn_ready (rs := [3]) (by kernel_rfl) (by simp) (AllReadyIn.cons rfl (fun K hK => ?_) AllReadyIn.nil)
          go_simp
          refine hK _ _ ?_
          clear hK K
          refine wpAnyIn_ready (rs := [4]) (by kernel_rfl) (by simp) (AllReadyIn.cons rfl (fun K hK => ?_) AllReadyIn.nil)
          refine stepIn_append_lies _ rfl (.tmp 18) (.tmp 21) 22 rfl w.heap.size 9 i0 (.string ByteArray.empty) 1 16 Tryd.underlying22 hi hz0 hz1 hz2 rfl (by decide) v pre.length (st (recs s pre)) rfl ((kept_onS hrow b).alloc _) ⟨w2.heap.size, 0, none⟩ 1 1 [.string T] rfl rfl (one_new _ _ _) (by intro u hu; simp at hu; subst hu; rfl) (by decide) (by unfold maxLen; omega) (by omega) (by have := hB.size; have := b.size; simp; omega) (w2.heap.size + 1) (by simp) ?_
          intro g cap w1 hown hgrow hat _
          refine hK _ _ ?_
          clear hK K
          obtain ⟨p1, p2, p3, p4, p5⟩ := uf_body hT hv hrow hvb he hf hB b hown hgrow hat W0.heap.size
          have c4 := p4.cell
          have z4 := p4.frozen
          have c5 := p5.cell
          have z5 := p5.frozen
          refine wpAnyIn_ready (rs := [5]) (by kernel_rfl) (by simp) (AllReadyIn.cons rfl (fun K hK => ?_) AllReadyIn.nil)
          go_simp
          refine hK _ _ ?_
          clear hK K
          refine wpAnyIn_done (by kernel_rfl) ?_ _
          gi_wp2
          exact ⟨p1, p2, p3⟩
        · go_simp
          refine hK _ _ ?_
          clear hK K
          refine wpAnyIn_ready (rs := [0]) (by kernel_rfl) (by simp) (AllReadyIn.cons rfl (fun K hK => ?_) AllReadyIn.nil)
          go_simp
          refine hK _ _ ?_
          clear hK K
          refine wpAnyIn_ready (rs := [4]) (by kernel_rfl) (by simp) (AllReadyIn.cons rfl (fun K hK => ?_) AllReadyIn.nil)
          refine stepIn_append_lies _ rfl (.tmp 18) (.tmp 21) 22 rfl w.heap.size 9 i0 (.string ByteArray.empty) 1 16 Tryd.underlying22 hi hz0 hz1 hz2 rfl (by decide) v pre.length (st (recs s pre)) rfl ((kept_onS hrow b).alloc _) ⟨w2.heap.size, 0, none⟩ 1 1 [.string T] rfl rfl (one_new _ _ _) (by intro u hu; simp at hu; subst hu; rfl) (by decide) (by unfold maxLen; omega) (by omega) (by have := hB.size; have := b.size; simp; omega) (w2.heap.size + 1) (by simp) ?_
          intro g cap w1 hown hgrow hat _
          refine hK _ _ ?_
          clear hK K
          obtain ⟨p1, p2, p3, p4, p5⟩ := uf_body hT hv hrow hvb he hf hB b hown hgrow hat W0.heap.size
          have c4 := p4.cell
          have z4 := p4.frozen
          have c5 := p5.cell
          have z5 := p5.frozen
          refine wpAnyIn_ready (rs := [5]) (by kernel_rfl) (by simp) (AllReadyIn.cons rfl (fun K hK => ?_) AllReadyIn.nil)
          go_simp
          refine hK _ _ ?_
          clear hK K
          refine wpAnyIn_done (by kernel_rfl) ?_ _
          gi_wp2
          exact ⟨p1, p2, p3⟩
  case done =>
    rintro D ys W hD rfl ⟨⟨v, hv, hrow, hvb⟩, he, hf, hB⟩ hK
    have hc := hv.cell
    have hce := he.cell
    obtain ⟨k, hk⟩ : ∃ k, k = endOf (ufs s 0) := ⟨_, rfl⟩
    rw [← hk] at hce
    have hKd : W.drew.heap[D]? = some (.deferred (some [])) := hK
    have FIN := hid0 (unframe_done (w := w) (w' := W.drew.putObj D (.deferred none)) h6 rfl hk (ownsRow_putObj (hrow.kept (grown_of_below (below_drewN (Below.refl _ _) 1) none) (by cases v.ownBlock with | none => exact Or.inl rfl | some g => exact Or.inr (by simp))) _ hKd rfl) ((below_drewN hB 1).trans (belowK_b (w := w) (Nat.le_refl _) W.drew D _ _ (by omega) hKd rfl rfl)))
    clear hk
    gi_wp2
    gi_region_o
    all_goals gi_wp2
    all_goals refine ⟨by simp, .inl ⟨_, _, rfl, run_takeDeferred hKd, ?_⟩⟩
    all_goals refine ⟨_, results_tmp2 rfl _ _ _, ?_⟩
    all_goals exact FIN.out
  case stop =>
    rintro D c pre W _ _ h _
    exact h.elim

theorem implUnframe_any (s : ByteArray) (w : World) (ht : Steps w) : Calls Tryd.prog 5 #[.string s] w fun e w' => unframeAns s w e w' := by
  by_cases h : 20000 < s.size
  · exact implUnframe_big s h w
  · exact implUnframe_small s (by omega) w ht
end Go.Proofs.YtfkknmhokiacaabDoor
