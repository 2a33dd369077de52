/-
  The walk of impl.readJournal: a journal, told by the frames of a text.
  The walk of impl.readJournal for every number and text.
-/
import Derived.Test.YtbifkpkhpaellaaGreatDoorJoint59
import Derived.Test.YtbifkpkhpaellaaGreatDoorJoint62
import Derived.BigQuiet
namespace Go.Proofs.YtbifkpkhpaellaaGreatDoor
open Go.RowKit Go.Shelf
attribute [local go_sem] Oper.semAt_some

theorem told_any (b : Bool) (jd : JouD) (vo : Option Addr) (vc lo : Nat) (r : ByteArray) (hr : r.size ≤ 1048576) (hb : JouB jd 1048576) (hvc : jd.l.length ≤ vc) (w : World) (hlo : lo ≤ w.heap.size) (ho : OwnAt w 110 (entCells jd.l) jd.l.length vo lo w.heap.size) :
    Calls Tryz.prog 77 #[.agg #[.int .i64 jd.n, .int .i64 jd.tm, .int .i64 jd.vt, .int .i64 jd.s, .int .i64 jd.t, .slice vo jd.l.length vc], .string r, .bool b] w fun e w' => TellDid (tellOne b jd r) lo w e w' := by
  cases b with
  | true => exact told_first jd vo vc lo r hr w
  | false => exact told_more jd vo vc lo r hr hb.1 hb.2.1 hb.2.2 hvc w hlo ho

/-- a block under growth that touches no cells -/
theorem blk_kept {W W' : World} {row : Option Nat} {B g : Nat} {t : TypeId} {cs : List Value} (h : BlockIs W g t cs) (hg : W.grownBy W' row) (hr : ∀ r, row = some r → B ≤ r ∧ ∃ o : Obj, W.heap[r]? = some o ∧ o.isCells = false) : BlockIs W' g t cs := by
  refine (hg.block g h.lt ?_).trans h
  intro e
  obtain ⟨_, o, ho, hc⟩ := hr g e.symm
  have h2 : W.heap[g]? = some _ := h
  rw [h2] at ho
  cases ho
  cases hc
/-- between two rounds -/
def RJ (s : ByteArray) (w : World) (E : Nat) (G : JouD → Prop) (W : World) : Prop :=
  (∃ jd vo vc, BlockIs W (w.heap.size + 1) 30 [.int .i64 jd.n, .int .i64 jd.tm, .int .i64 jd.vt, .int .i64 jd.s, .int .i64 jd.t, .slice vo jd.l.length vc] ∧ jd.l.length ≤ vc ∧ OwnAt W 110 (entCells jd.l) jd.l.length vo w.heap.size W.heap.size ∧ G jd) ∧
    Boxed W (w.heap.size + 1 + 1) 3 (.int .i64 (E : Int)) ∧ Boxed W (w.heap.size + 1 + 1 + 1) 9 (.string s) ∧ BlockIs W w.heap.size 30 [.int .i64 0, .int .i64 0, .int .i64 0, .int .i64 0, .int .i64 0, .slice none 0 0] ∧ Below w.heap.size w W
theorem RJ.kept {s : ByteArray} {w W W' : World} {E B : Nat} {G : JouD → Prop} {row : Option Nat} (hB : w.heap.size ≤ B) (h : RJ s w E G W) (hg : W.grownBy W' row) (hr : ∀ r, row = some r → B ≤ r ∧ ∃ o : Obj, W.heap[r]? = some o ∧ o.isCells = false) : RJ s w E G W' := by
  obtain ⟨⟨jd, vo, vc, h1, h2, h3, h4⟩, h5, h6, h7, h8⟩ := h
  refine ⟨⟨jd, vo, vc, blk_kept h1 hg hr, h2, ?_, h4⟩, ?_, ?_, blk_kept h7 hg hr, ?_⟩
  · exact h3.imp id fun ⟨g, r, a, b, c, d⟩ => ⟨g, r, a, b, Nat.lt_of_lt_of_le c hg.size, blk_kept d hg hr⟩
  · exact (Own.from (boxed_own (β := Unit) (w.heap.size + 1 + 1) 3 (fun _ => .int .i64 (E : Int))) B) () W W' row h5 hg hr
  · exact (Own.from (boxed_own (β := Unit) (w.heap.size + 1 + 1 + 1) 9 (fun _ => .string s)) B) () W W' row h6 hg hr
  · exact (ownFrom_below (β := Unit) (Nat.le_refl _) hB) () W W' row h8 hg hr
def RJI (n : Int) (s : ByteArray) (w : World) (pre : List (Nat × Nat)) (W : World) : Prop := RJ s w (endOf pre) (fun jd => Tells n s pre jd ∧ JouB jd pre.length) W
def RJX (n : Int) (s : ByteArray) (w : World) (c : Code) (xs : List (Nat × Nat)) (W : World) : Prop := c = .exit 0 ∧ ∃ pre x, xs = pre ++ [x] ∧ RJ s w (endOf pre) (fun jd => Tells n s pre jd ∧ tellOne (decide (endOf pre = 0)) jd (s.extract x.1 x.2) = none) W
theorem rji_own (n : Int) (s : ByteArray) (w : World) (B : Nat) (hB : w.heap.size ≤ B) : OwnFrom B (RJI n s w) := fun _ _ _ _ h hg hr => RJ.kept hB h hg hr
theorem rjx_own (n : Int) (s : ByteArray) (w : World) (B : Nat) (hB : w.heap.size ≤ B) (c : Code) : OwnFrom B (RJX n s w c) := fun _ _ _ _ ⟨h1, pre, x, h2, h3⟩ hg hr => ⟨h1, pre, x, h2, RJ.kept hB h3 hg hr⟩
theorem RJI.below {n : Int} {s : ByteArray} {w W : World} {pre : List (Nat × Nat)} (h : RJI n s w pre W) : Below w.heap.size w W := h.2.2.2.2
theorem RJI.file {n : Int} {s : ByteArray} {w W : World} {pre : List (Nat × Nat)} (h : RJI n s w pre W) : Boxed W (w.heap.size + 1 + 1 + 1) 9 (.string s) := h.2.2.1
theorem blk_far {W : World} {g b j : Nat} {t : TypeId} {v : Value} {u : Value} (h : Boxed W g t v) (hne : b ≠ g) : Boxed (W.setCell ⟨b, j, none⟩ u) g t v := BlockIs.far (cs := [v]) h hne u

theorem put_block {V : World} {D g : Nat} {t : TypeId} {cs : List Value} {o : Obj} (h : BlockIs V g t cs) (hne : g ≠ D) : BlockIs (V.putObj D o) g t cs := ((grownBy_putObj' V D o).block g h.lt (by simpa using hne)).trans h
theorem rj_fin {w V : World} {D n : Nat} {vo : Option Addr} {cs : List Value} (hD : w.heap.size ≤ D) (hK : V.heap[D]? = some (.deferred (some []))) (hb : Below w.heap.size w V) (ho : OwnAt V 110 cs n vo w.heap.size V.heap.size) : OwnAt (V.putObj D (.deferred none)) 110 cs n vo w.heap.size (V.putObj D (.deferred none)).heap.size ∧ Below w.heap.size w (V.putObj D (.deferred none)) :=
  ⟨ho.imp id fun ⟨g, r, a, b, c, d⟩ => ⟨g, r, a, b, Nat.lt_of_lt_of_le c (grownBy_putObj' V D _).size, put_block d (by
    intro e
    subst e
    have h2 : V.heap[g]? = some _ := d
    rw [hK] at h2
    cases h2)⟩, hb.trans (belowK_b (w := w) (Nat.le_refl _) V D _ _ hD hK rfl rfl)⟩
theorem kept_def {W : World} {D g j : Nat} {v : Value} (_hne : g ≠ D) (h : W.heap[D]? = some (.deferred (some []))) : (W.setCell ⟨g, j, none⟩ v).heap[D]? = some (.deferred (some [])) := (KeepsOthers.setCell W ⟨g, j, none⟩ v).same D _ h rfl
theorem rj_pack {w V : World} {D n : Nat} {vo : Option Addr} {cs rs : List Value} {t : TypeId} (hD : w.heap.size ≤ D) (hne : w.heap.size ≠ D) (hK : V.heap[D]? = some (.deferred (some []))) (hb : Below w.heap.size w V) (ho : OwnAt V 110 cs n vo w.heap.size V.heap.size) (hR : BlockIs V w.heap.size t rs) :
    V.heap[D]? = some (.deferred (some [])) ∧ BlockIs (V.putObj D (.deferred none)) w.heap.size t rs ∧ OwnAt (V.putObj D (.deferred none)) 110 cs n vo w.heap.size (V.putObj D (.deferred none)).heap.size ∧ Below w.heap.size w (V.putObj D (.deferred none)) :=
  ⟨hK, put_block hR hne, rj_fin hD hK hb ho⟩
theorem rj_pack_d {w V : World} {D n : Nat} {vo : Option Addr} {cs rs : List Value} {t : TypeId} (hD : w.heap.size ≤ D) (hne : w.heap.size ≠ D) (hK : V.heap[D]? = some (.deferred (some []))) (hb : Below w.heap.size w V) (ho : OwnAt V 110 cs n vo w.heap.size V.heap.size) (hR : BlockIs V w.heap.size t rs) :
    V.drew.heap[D]? = some (.deferred (some [])) ∧ BlockIs (V.drew.putObj D (.deferred none)) w.heap.size t rs ∧ OwnAt (V.drew.putObj D (.deferred none)) 110 cs n vo w.heap.size (V.drew.putObj D (.deferred none)).heap.size ∧ Below w.heap.size w (V.drew.putObj D (.deferred none)) :=
  rj_pack (V := V.drew) hD hne hK hb.drew (own_to ho (Below.refl V.heap.size V).drew) (hR.on (Below.refl V.heap.size V).drew hR.lt)
/-- what readJournal answers -/
def rjIDid (z : Nat) (o : Option (JouD × Nat)) (w : World) (e : Ending) (w' : World) : Prop := match o with
  | none => ∃ c : Int, (c = 1 ∨ c = 3) ∧ e = .returned (.tuple #[.agg #[.int .i64 0, .int .i64 0, .int .i64 0, .int .i64 0, .int .i64 0, .slice none 0 0], .int .i64 0, .iface 89 (.agg #[.int .i64 c])]) ∧ Below w.heap.size w w'
  | some (j, k) => ∃ vo vc er, ((er = .nilIface ∧ ¬ k < z) ∨ (er = .iface 89 (.agg #[.int .i64 4]) ∧ k < z)) ∧ e = .returned (.tuple #[.agg #[.int .i64 j.n, .int .i64 j.tm, .int .i64 j.vt, .int .i64 j.s, .int .i64 j.t, .slice vo j.l.length vc], .int .i64 k, er]) ∧ j.l.length ≤ vc ∧ OwnAt w' 110 (entCells j.l) j.l.length vo w.heap.size w'.heap.size ∧ Below w.heap.size w w'

set_option maxRecDepth 1000000 in
set_option maxHeartbeats 2000000 in
theorem readJournal_small (n : Int) (s : ByteArray) (hn : within n 0 999 = true) (h6 : s.size ≤ 20000) (w : World) (ht : Steps w) : Calls Tryz.prog 50 #[.int .i64 n, .string s] w fun e w' => rjIDid s.size (readJ n s) w e w' := by
  have hmx : Tryz.prog.follows .mixedOrders = true := by kernel_rfl
  have hw0 : 2 < w.heap.size := World.block_lt_of_cell? w _ (Steps.cell ht 0 (by omega))
  obtain ⟨W0, hW0⟩ : ∃ W0, (((w.alloc (.cells #[.int .i64 0, .int .i64 0, .int .i64 0, .int .i64 0, .int .i64 0, .slice none 0 0] 30)).alloc (.cells #[.int .i64 n, .int .i64 0, .int .i64 0, .int .i64 0, .int .i64 0, .slice none 0 0] 30)).alloc (.cells #[.int .i64 0] 3)).alloc (.cells #[.string s] 9) = W0 := ⟨_, rfl⟩
  have hR0 : RJI n s w [] W0 := by
    rw [← hW0]
    have h2 := two_jour w (.cells #[.int .i64 0, .int .i64 0, .int .i64 0, .int .i64 0, .int .i64 0, .slice none 0 0] 30) (.cells #[.int .i64 n, .int .i64 0, .int .i64 0, .int .i64 0, .int .i64 0, .slice none 0 0] 30)
    have hb := below_more (below_more (Below.refl _ ((w.alloc (.cells #[.int .i64 0, .int .i64 0, .int .i64 0, .int .i64 0, .int .i64 0, .slice none 0 0] 30)).alloc (.cells #[.int .i64 n, .int .i64 0, .int .i64 0, .int .i64 0, .int .i64 0, .slice none 0 0] 30))) (.cells #[.int .i64 0] 3)) (.cells #[.string s] 9)
    have bE := (Boxed.new ((w.alloc (.cells #[.int .i64 0, .int .i64 0, .int .i64 0, .int .i64 0, .int .i64 0, .slice none 0 0] 30)).alloc (.cells #[.int .i64 n, .int .i64 0, .int .i64 0, .int .i64 0, .int .i64 0, .slice none 0 0] 30)) 3 (.int .i64 0)).alloc (.cells #[.string s] 9)
    have bF := Boxed.new (((w.alloc (.cells #[.int .i64 0, .int .i64 0, .int .i64 0, .int .i64 0, .int .i64 0, .slice none 0 0] 30)).alloc (.cells #[.int .i64 n, .int .i64 0, .int .i64 0, .int .i64 0, .int .i64 0, .slice none 0 0] 30)).alloc (.cells #[.int .i64 0] 3)) 9 (.string s)
    simp only [World.size_alloc] at bE bF
    have J0 : BlockIs _ (w.heap.size + 1) 30 [.int .i64 n, .int .i64 0, .int .i64 0, .int .i64 0, .int .i64 0, .slice none 0 0] := h2.2.2.2
    have R0 : BlockIs _ w.heap.size 30 [.int .i64 0, .int .i64 0, .int .i64 0, .int .i64 0, .int .i64 0, .slice none 0 0] := h2.2.2.1
    exact ⟨⟨⟨n, 0, 0, 0, 0, []⟩, none, 0, J0.on hb J0.lt, Nat.le_refl _, Or.inl rfl, tells_nil n s, ⟨(by decide : (-9223372036854775808 : Int) ≤ 0), (by decide : (0 : Int) ≤ 9223372036854775807)⟩, Nat.le_refl _, by intro f hf; cases hf⟩, bE, bF, R0.on hb R0.lt, below_via h2.1 hb⟩
  have HSZ : Hid (W0.heap.size = w.heap.size + 4) := by refine hid ?_; rw [← hW0]; simp
  refine (callsIn_wide (n := 3)).1 ?_
  refine callsIn_of_wp_marks Tryz.func50 rfl trivial ?_ rfl
  simp only [Tryz.ntmps50, List.size_toArray, List.length_cons, List.length_nil, Nat.reduceAdd, Nat.reduceSub, Array.replicate_succ, Array.replicate_zero, List.push_toArray, List.append_toArray, List.nil_append, List.cons_append]
  gi_wp2_with (refine ⟨trivial, ?_⟩; first | (gi_at_call 74; refine ((callsIn_wide.2 (numberOk_any n _))).mono ?_; rintro e w1 ⟨rfl, rfl⟩; rw [hn]) | (gi_at_call 76; refine (framesOf_in _ s _).mono ?_; rintro e w1 ⟨rfl, rfl⟩))
  clear hW0
  refine wpIn_rangeFunc_ownG rfl (by omega) (gf := 91) (lb := #[.pointer (some ⟨w.heap.size + 1 + 1 + 1, 0, none⟩)]) rfl trivial (enters_of Tryz.func91 (by kernel_rfl) rfl)
    (frames_stops _ (by omega) (w.heap.size + 1 + 1 + 1) w.heap.size hw0 s h6 W0 hR0.below.size hR0.file (steps_via ht hR0.below hw0))
    (fun h k => ⟨h.1.trans k.1, fun v hv => k.2 v (h.2 v hv)⟩)
    (fun W l o o' hl ho hc hk => ⟨belowK_b (w := W0) hR0.below.size W l o o' hl ho hc hk, fun v hv => hv.kept (grownBy_putObj' W l o') (fun e => by
      have : w.heap.size + 1 + 1 + 1 = l := by simpa using e
      have := HSZ.out
      omega)⟩)
    (Below.refl _ _) (fun _ => rfl) (RJI n s w) (RJX n s w) (rji_own n s w _ hR0.below.size) (rjx_own n s w _ hR0.below.size)
    hR0
    (fun x => { tmps := #[.int .i64 n, .string s, undef, undef, .pointer (some ⟨w.heap.size, 0, none⟩), .int .i64 0, .nilIface, .pointer (some ⟨w.heap.size + 1, 0, none⟩), .pointer (some ⟨w.heap.size + 1 + 1, 0, none⟩), .string (s.extract x.1 x.2), .int .i64 (x.2 : Int), undef, undef, .int .i64 n, .bool true, .bool false, .bool false, .string s, .int .i64 s.size, .bool (decide (20000 < (s.size : Int))), .bool (decide (20000 < (s.size : Int))), undef, undef, undef, .int .i64 n, .agg #[.int .i64 n, .int .i64 0, .int .i64 0, .int .i64 0, .int .i64 0, .slice none 0 0], .string s, .func (.func 91) #[] #[.pointer (some ⟨w.heap.size + 1 + 1 + 1, 0, none⟩)], .string (s.extract x.1 x.2), .int .i64 (x.2 : Int), undef, undef, undef, undef, undef, undef, undef, undef, undef, undef, undef, undef, undef, undef, undef, undef, undef, undef, undef, undef, undef, undef, undef, undef, undef, undef, undef], defers := [] }) ?assign ?body ?done ?stop
  case assign =>
    intro l x W K hK
    unfold frameOut
    gi_wp2
    exact hK
  case body =>
    rintro l pre x W ⟨⟨jd, vo, vc, hJ, hvc, ho, hT, hJB⟩, hE, hF, hR, hB⟩ hlt
    have hTl : (s.extract x.1 x.2).size ≤ 1048576 := by rw [ByteArray.size_extract]; omega
    have HT := hid hT
    have HJB := hid hJB
    clear hT hJB
    obtain ⟨T, hTe⟩ : ∃ T, s.extract x.1 x.2 = T := ⟨_, rfl⟩
    obtain ⟨E, hEe⟩ : ∃ E, endOf pre = E := ⟨_, rfl⟩
    rw [hTe] at hTl ⊢
    rw [hEe] at hE
    have c0 := hJ.cell (j := 0) rfl
    have c1 := hJ.cell (j := 1) rfl
    have c2 := hJ.cell (j := 2) rfl
    have c3 := hJ.cell (j := 3) rfl
    have c4 := hJ.cell (j := 4) rfl
    have c5 := hJ.cell (j := 5) rfl
    have ce := hE.cell
    have HEe := hid hEe
    have HTe := hid hTe
    clear hEe hTe
    have hbE : ((E : Int) == 0) = decide (E = 0) := by
      cases E with
      | zero => rfl
      | succ m => simp only [Nat.succ_ne_zero, decide_false]; exact beq_false_of_ne (by omega)
    have HbE := hid hbE
    have hle : w.heap.size ≤ w.heap.size + 1 := Nat.le_succ _
    have hle2 : w.heap.size ≤ w.heap.size + 1 + 1 := by omega
    have hvc' := hvc
    clear hbE
    gi_wp2_with fail
    refine ⟨trivial, ?_⟩
    refine (CallsIn.inRound l (callsIn_wide.2 (told_any ((E : Int) == 0) jd vo vc w.heap.size T hTl ⟨HJB.out.1, by have := HJB.out.2.1; omega, HJB.out.2.2⟩ hvc W hB.size ho))).mono ?_
    rintro e w2 ⟨k, po, pc, rfl, hpc, o2, b2, hk⟩
    have b3 := below_more b2 (.cells #[.int .i64 k.n, .int .i64 k.tm, .int .i64 k.vt, .int .i64 k.s, .int .i64 k.t, .slice po k.l.length pc] 30)
    have JX := hJ.on b3 hJ.lt
    have EX := boxed_on hE b3
    have FX := boxed_on hF b3
    have RX := hR.on b3 hR.lt
    have BX := below_via hB b3
    have KX : BlockIs (w2.alloc (.cells #[.int .i64 k.n, .int .i64 k.tm, .int .i64 k.vt, .int .i64 k.s, .int .i64 k.t, .slice po k.l.length pc] 30)) w2.heap.size 30 [.int .i64 k.n, .int .i64 k.tm, .int .i64 k.vt, .int .i64 k.s, .int .i64 k.t, .slice po k.l.length pc] := heap_alloc_new w2 _
    have OX := own_to o2 (below_more (Below.refl w2.heap.size w2) (.cells #[.int .i64 k.n, .int .i64 k.tm, .int .i64 k.vt, .int .i64 k.s, .int .i64 k.t, .slice po k.l.length pc] 30))
    have QX : KeepsOthers W (w2.alloc (.cells #[.int .i64 k.n, .int .i64 k.tm, .int .i64 k.vt, .int .i64 k.s, .int .i64 k.t, .slice po k.l.length pc] 30)) := KeepsOthers.of_grownBy (grown_of_below b3 none) (fun j o ej => by cases ej)
    have FW : ∀ v, Boxed W (w.heap.size + 1 + 1 + 1) 9 v → Boxed (w2.alloc (.cells #[.int .i64 k.n, .int .i64 k.tm, .int .i64 k.vt, .int .i64 k.s, .int .i64 k.t, .slice po k.l.length pc] 30)) (w.heap.size + 1 + 1 + 1) 9 v := fun v hv => boxed_on hv b3
    clear c0 c1 c2 c3 c4 c5 ce
    have d0 := JX.cell (j := 0) rfl
    have d1 := JX.cell (j := 1) rfl
    have d2 := JX.cell (j := 2) rfl
    have d3 := JX.cell (j := 3) rfl
    have d4 := JX.cell (j := 4) rfl
    have d5 := JX.cell (j := 5) rfl
    have g0 := JX.thaw 0
    have g1 := JX.thaw 1
    have g2 := JX.thaw 2
    have g3 := JX.thaw 3
    have g4 := JX.thaw 4
    have g5 := JX.thaw 5
    have m0 := KX.cell (j := 0) rfl
    have m1 := KX.cell (j := 1) rfl
    have m2 := KX.cell (j := 2) rfl
    have m3 := KX.cell (j := 3) rfl
    have m4 := KX.cell (j := 4) rfl
    have m5 := KX.cell (j := 5) rfl
    have ce := EX.cell
    have ge := EX.frozen
    have hne1 : w.heap.size + 1 ≠ w.heap.size := by omega
    have hne2 : w.heap.size + 1 ≠ w.heap.size + 1 + 1 := by omega
    have hne3 : w.heap.size + 1 ≠ w.heap.size + 1 + 1 + 1 := by omega
    have hne4 : w.heap.size + 1 + 1 ≠ w.heap.size + 1 := by omega
    have hne5 : w.heap.size + 1 + 1 ≠ w.heap.size := by omega
    have hne6 : w.heap.size + 1 + 1 ≠ w.heap.size + 1 + 1 + 1 := by omega
    cases hq : tellOne ((E : Int) == 0) jd T with
    | none =>
      rw [show (none : Option JouD).isSome = false from rfl]
      have OX2 := own_to ho b3
      have END : Hid (KeepsFrom W0.heap.size W (w2.alloc (.cells #[.int .i64 k.n, .int .i64 k.tm, .int .i64 k.vt, .int .i64 k.s, .int .i64 k.t, .slice po k.l.length pc] 30)) ∧ RJX n s w (.exit 0) (pre ++ [x]) (w2.alloc (.cells #[.int .i64 k.n, .int .i64 k.tm, .int .i64 k.vt, .int .i64 k.s, .int .i64 k.t, .slice po k.l.length pc] 30))) := by
        refine ⟨QX.from _, rfl, pre, x, rfl, ⟨jd, vo, vc, JX, hvc', OX2, HT.out, ?_⟩, ?_, FX, RX, BX⟩
        · rw [HEe.out, HTe.out, ← HbE.out]; exact hq
        · rw [HEe.out]; exact EX
      clear JX EX FX RX BX KX OX OX2 QX FW hq b2 b3 o2 hk hJ hE hF hR hB ho
      gi_wp2
      exact END.out
    | some k' =>
      rw [show (some k' : Option JouD).isSome = true from rfl]
      obtain rfl := hk k' hq
      have OX2 := own_past (b := w.heap.size + 1 + 1) (j := 0) (u := .int .i64 (x.2 : Int)) (own_past (j := 5) (u := .slice po k.l.length pc) (own_past (j := 4) (u := .int .i64 k.t) (own_past (j := 3) (u := .int .i64 k.s) (own_past (j := 2) (u := .int .i64 k.vt) (own_past (j := 1) (u := .int .i64 k.tm) (own_past (j := 0) (u := .int .i64 k.n) OX JX (by decide)) (JX.set 0 (.int .i64 k.n)) (by decide)) ((JX.set 0 (.int .i64 k.n)).set 1 (.int .i64 k.tm)) (by decide)) (((JX.set 0 (.int .i64 k.n)).set 1 (.int .i64 k.tm)).set 2 (.int .i64 k.vt)) (by decide)) ((((JX.set 0 (.int .i64 k.n)).set 1 (.int .i64 k.tm)).set 2 (.int .i64 k.vt)).set 3 (.int .i64 k.s)) (by decide)) (((((JX.set 0 (.int .i64 k.n)).set 1 (.int .i64 k.tm)).set 2 (.int .i64 k.vt)).set 3 (.int .i64 k.s)).set 4 (.int .i64 k.t)) (by decide)) (show BlockIs _ (w.heap.size + 1 + 1) 3 [.int .i64 (E : Int)] from (blk_far (j := 5) (u := .slice po k.l.length pc) (blk_far (j := 4) (u := .int .i64 k.t) (blk_far (j := 3) (u := .int .i64 k.s) (blk_far (j := 2) (u := .int .i64 k.vt) (blk_far (j := 1) (u := .int .i64 k.tm) (blk_far (j := 0) (u := .int .i64 k.n) EX hne2) hne2) hne2) hne2) hne2) hne2)) (by decide)
      have END := hid (And.intro (((((((QX.trans (KeepsOthers.setCell _ ⟨w.heap.size + 1, 0, none⟩ (.int .i64 k.n))).trans (KeepsOthers.setCell _ ⟨w.heap.size + 1, 1, none⟩ (.int .i64 k.tm))).trans (KeepsOthers.setCell _ ⟨w.heap.size + 1, 2, none⟩ (.int .i64 k.vt))).trans (KeepsOthers.setCell _ ⟨w.heap.size + 1, 3, none⟩ (.int .i64 k.s))).trans (KeepsOthers.setCell _ ⟨w.heap.size + 1, 4, none⟩ (.int .i64 k.t))).trans (KeepsOthers.setCell _ ⟨w.heap.size + 1, 5, none⟩ (.slice po k.l.length pc))).trans (KeepsOthers.setCell _ ⟨w.heap.size + 1 + 1, 0, none⟩ (.int .i64 (x.2 : Int))) |>.from W0.heap.size) (And.intro (And.intro ((((((((b3.mono hB.size).setCell (p := ⟨w.heap.size + 1, 0, none⟩) hle (.int .i64 k.n)).setCell (p := ⟨w.heap.size + 1, 1, none⟩) hle (.int .i64 k.tm)).setCell (p := ⟨w.heap.size + 1, 2, none⟩) hle (.int .i64 k.vt)).setCell (p := ⟨w.heap.size + 1, 3, none⟩) hle (.int .i64 k.s)).setCell (p := ⟨w.heap.size + 1, 4, none⟩) hle (.int .i64 k.t)).setCell (p := ⟨w.heap.size + 1, 5, none⟩) hle (.slice po k.l.length pc)).setCell (p := ⟨w.heap.size + 1 + 1, 0, none⟩) hle2 (.int .i64 (x.2 : Int))) (fun v hv => blk_far (b := w.heap.size + 1 + 1) (j := 0) (u := .int .i64 (x.2 : Int)) (blk_far (j := 5) (u := .slice po k.l.length pc) (blk_far (j := 4) (u := .int .i64 k.t) (blk_far (j := 3) (u := .int .i64 k.s) (blk_far (j := 2) (u := .int .i64 k.vt) (blk_far (j := 1) (u := .int .i64 k.tm) (blk_far (j := 0) (u := .int .i64 k.n) (FW v hv) hne3) hne3) hne3) hne3) hne3) hne3) hne6))
        (show RJI n s w (pre ++ [x]) _ from ⟨⟨k, po, pc, BlockIs.far (b := w.heap.size + 1 + 1) (j := 0) ((((((JX.set 0 (.int .i64 k.n)).set 1 (.int .i64 k.tm)).set 2 (.int .i64 k.vt)).set 3 (.int .i64 k.s)).set 4 (.int .i64 k.t)).set 5 (.slice po k.l.length pc)) hne4 (.int .i64 (x.2 : Int)), hpc, OX2, tells_more hn h6 HT.out (by rw [HEe.out, HTe.out, ← HbE.out]; exact hq), by rw [List.length_append]; exact bounds_more hTl HJB.out hq⟩, by rw [endOf_snoc]; exact (blk_far (j := 5) (u := .slice po k.l.length pc) (blk_far (j := 4) (u := .int .i64 k.t) (blk_far (j := 3) (u := .int .i64 k.s) (blk_far (j := 2) (u := .int .i64 k.vt) (blk_far (j := 1) (u := .int .i64 k.tm) (blk_far (j := 0) (u := .int .i64 k.n) EX hne2) hne2) hne2) hne2) hne2) hne2).set _, blk_far (b := w.heap.size + 1 + 1) (j := 0) (u := .int .i64 (x.2 : Int)) (blk_far (j := 5) (u := .slice po k.l.length pc) (blk_far (j := 4) (u := .int .i64 k.t) (blk_far (j := 3) (u := .int .i64 k.s) (blk_far (j := 2) (u := .int .i64 k.vt) (blk_far (j := 1) (u := .int .i64 k.tm) (blk_far (j := 0) (u := .int .i64 k.n) FX hne3) hne3) hne3) hne3) hne3) hne3) hne6, ((((((RX.far (b := w.heap.size + 1) (j := 0) hne1 (.int .i64 k.n)).far (b := w.heap.size + 1) (j := 1) hne1 (.int .i64 k.tm)).far (b := w.heap.size + 1) (j := 2) hne1 (.int .i64 k.vt)).far (b := w.heap.size + 1) (j := 3) hne1 (.int .i64 k.s)).far (b := w.heap.size + 1) (j := 4) hne1 (.int .i64 k.t)).far (b := w.heap.size + 1) (j := 5) hne1 (.slice po k.l.length pc)).far (b := w.heap.size + 1 + 1) (j := 0) hne5 (.int .i64 (x.2 : Int)), ((((((BX.setCell (p := ⟨w.heap.size + 1, 0, none⟩) hle (.int .i64 k.n)).setCell (p := ⟨w.heap.size + 1, 1, none⟩) hle (.int .i64 k.tm)).setCell (p := ⟨w.heap.size + 1, 2, none⟩) hle (.int .i64 k.vt)).setCell (p := ⟨w.heap.size + 1, 3, none⟩) hle (.int .i64 k.s)).setCell (p := ⟨w.heap.size + 1, 4, none⟩) hle (.int .i64 k.t)).setCell (p := ⟨w.heap.size + 1, 5, none⟩) hle (.slice po k.l.length pc)).setCell (p := ⟨w.heap.size + 1 + 1, 0, none⟩) hle2 (.int .i64 (x.2 : Int))⟩)))
      clear JX EX FX RX BX KX OX OX2 QX FW hq b2 b3 o2 hk hJ hE hF hR hB ho
      gi_wp2
      exact END.out
  case done =>
    rintro D ys W hD rfl ⟨⟨jd, vo, vc, hJ, hvc, ho, hT, _⟩, hE, hF, hR, hB⟩ hK
    have hRd := tells_done h6 hT
    obtain ⟨E, hEe⟩ : ∃ E, endOf (ufs s 0) = E := ⟨_, rfl⟩
    rw [hEe] at hE hRd
    clear hEe hT
    have c0 := hJ.cell (j := 0) rfl
    have r0 := hR.cell (j := 0) rfl
    have f0 := hR.thaw 0
    have c1 := hJ.cell (j := 1) rfl
    have r1 := hR.cell (j := 1) rfl
    have f1 := hR.thaw 1
    have c2 := hJ.cell (j := 2) rfl
    have r2 := hR.cell (j := 2) rfl
    have f2 := hR.thaw 2
    have c3 := hJ.cell (j := 3) rfl
    have r3 := hR.cell (j := 3) rfl
    have f3 := hR.thaw 3
    have c4 := hJ.cell (j := 4) rfl
    have r4 := hR.cell (j := 4) rfl
    have f4 := hR.thaw 4
    have c5 := hJ.cell (j := 5) rfl
    have r5 := hR.cell (j := 5) rfl
    have f5 := hR.thaw 5
    have ce := hE.cell
    have hDw : w.heap.size ≤ D := Nat.le_trans hR0.below.size hD
    have hDn : w.heap.size ≠ D := by have := HSZ.out; omega
    rcases hRd with ⟨hE0, hno⟩ | ⟨hE1, hso⟩
    · subst hE0
      have O_0 := own_past (j := 0) (u := .int .i64 0) ho hR (by decide)
      have R_0 := hR.set 0 (.int .i64 0)
      have B_0 := hB.setCell (p := ⟨w.heap.size, 0, none⟩) (Nat.le_refl _) (.int .i64 0)
      have K_0 := kept_def (v := .int .i64 0) (j := 0) hDn hK
      clear ho hR hB hK
      have O_1 := own_past (j := 1) (u := .int .i64 0) O_0 R_0 (by decide)
      have R_1 := R_0.set 1 (.int .i64 0)
      have B_1 := B_0.setCell (p := ⟨w.heap.size, 1, none⟩) (Nat.le_refl _) (.int .i64 0)
      have K_1 := kept_def (v := .int .i64 0) (j := 1) hDn K_0
      clear O_0 R_0 B_0 K_0
      have O_2 := own_past (j := 2) (u := .int .i64 0) O_1 R_1 (by decide)
      have R_2 := R_1.set 2 (.int .i64 0)
      have B_2 := B_1.setCell (p := ⟨w.heap.size, 2, none⟩) (Nat.le_refl _) (.int .i64 0)
      have K_2 := kept_def (v := .int .i64 0) (j := 2) hDn K_1
      clear O_1 R_1 B_1 K_1
      have O_3 := own_past (j := 3) (u := .int .i64 0) O_2 R_2 (by decide)
      have R_3 := R_2.set 3 (.int .i64 0)
      have B_3 := B_2.setCell (p := ⟨w.heap.size, 3, none⟩) (Nat.le_refl _) (.int .i64 0)
      have K_3 := kept_def (v := .int .i64 0) (j := 3) hDn K_2
      clear O_2 R_2 B_2 K_2
      have O_4 := own_past (j := 4) (u := .int .i64 0) O_3 R_3 (by decide)
      have R_4 := R_3.set 4 (.int .i64 0)
      have B_4 := B_3.setCell (p := ⟨w.heap.size, 4, none⟩) (Nat.le_refl _) (.int .i64 0)
      have K_4 := kept_def (v := .int .i64 0) (j := 4) hDn K_3
      clear O_3 R_3 B_3 K_3
      have O_5 := own_past (j := 5) (u := .slice none 0 0) O_4 R_4 (by decide)
      have R_5 := R_4.set 5 (.slice none 0 0)
      have B_5 := B_4.setCell (p := ⟨w.heap.size, 5, none⟩) (Nat.le_refl _) (.slice none 0 0)
      have K_5 := kept_def (v := .slice none 0 0) (j := 5) hDn K_4
      clear O_4 R_4 B_4 K_4
      have R_6 : BlockIs _ w.heap.size 30 [.int .i64 0, .int .i64 0, .int .i64 0, .int .i64 0, .int .i64 0, .slice none 0 0] := R_5
      have PK := rj_pack hDw hDn K_5 B_5 O_5 R_6
      have KV := hid PK.1
      have FN := hid PK.2.2
      have RVh := hid PK.2.1
      clear PK R_5 R_6 K_5 B_5 O_5 hJ hE hF
      gi_wp2
      refine ⟨by simp, .inl ⟨_, _, rfl, run_takeDeferred KV.out, ?_⟩⟩
      have RV := RVh.out
      have z0 := RV.cell (j := 0) rfl
      have z1 := RV.cell (j := 1) rfl
      have z2 := RV.cell (j := 2) rfl
      have z3 := RV.cell (j := 3) rfl
      have z4 := RV.cell (j := 4) rfl
      have z5 := RV.cell (j := 5) rfl
      refine ⟨.tuple #[.agg #[.int .i64 0, .int .i64 0, .int .i64 0, .int .i64 0, .int .i64 0, .slice none 0 0], .int .i64 0, .iface 89 (.agg #[.int .i64 3])], by simp [results, Tryz.results50, go_sem, z0, z1, z2, z3, z4, z5], ?_⟩
      rw [hno]
      exact ⟨3, Or.inr rfl, rfl, FN.out.2⟩
    · have hE1' : ¬ (E : Int) = 0 := by omega
      by_cases h7 : E < s.size
      · have h7' : (E : Int) < s.size := by omega
        gi_wp2
        gi_region_o
        all_goals gi_wp2
        all_goals
          have O_0 := own_past (j := 0) (u := .int .i64 jd.n) ho hR (by decide)
          have R_0 := hR.set 0 (.int .i64 jd.n)
          have B_0 := hB.setCell (p := ⟨w.heap.size, 0, none⟩) (Nat.le_refl _) (.int .i64 jd.n)
          have K_0 := kept_def (v := .int .i64 jd.n) (j := 0) hDn hK
          clear ho hR hB hK
          have O_1 := own_past (j := 1) (u := .int .i64 jd.tm) O_0 R_0 (by decide)
          have R_1 := R_0.set 1 (.int .i64 jd.tm)
          have B_1 := B_0.setCell (p := ⟨w.heap.size, 1, none⟩) (Nat.le_refl _) (.int .i64 jd.tm)
          have K_1 := kept_def (v := .int .i64 jd.tm) (j := 1) hDn K_0
          clear O_0 R_0 B_0 K_0
          have O_2 := own_past (j := 2) (u := .int .i64 jd.vt) O_1 R_1 (by decide)
          have R_2 := R_1.set 2 (.int .i64 jd.vt)
          have B_2 := B_1.setCell (p := ⟨w.heap.size, 2, none⟩) (Nat.le_refl _) (.int .i64 jd.vt)
          have K_2 := kept_def (v := .int .i64 jd.vt) (j := 2) hDn K_1
          clear O_1 R_1 B_1 K_1
          have O_3 := own_past (j := 3) (u := .int .i64 jd.s) O_2 R_2 (by decide)
          have R_3 := R_2.set 3 (.int .i64 jd.s)
          have B_3 := B_2.setCell (p := ⟨w.heap.size, 3, none⟩) (Nat.le_refl _) (.int .i64 jd.s)
          have K_3 := kept_def (v := .int .i64 jd.s) (j := 3) hDn K_2
          clear O_2 R_2 B_2 K_2
          have O_4 := own_past (j := 4) (u := .int .i64 jd.t) O_3 R_3 (by decide)
          have R_4 := R_3.set 4 (.int .i64 jd.t)
          have B_4 := B_3.setCell (p := ⟨w.heap.size, 4, none⟩) (Nat.le_refl _) (.int .i64 jd.t)
          have K_4 := kept_def (v := .int .i64 jd.t) (j := 4) hDn K_3
          clear O_3 R_3 B_3 K_3
          have O_5 := own_past (j := 5) (u := .slice vo jd.l.length vc) O_4 R_4 (by decide)
          have R_5 := R_4.set 5 (.slice vo jd.l.length vc)
          have B_5 := B_4.setCell (p := ⟨w.heap.size, 5, none⟩) (Nat.le_refl _) (.slice vo jd.l.length vc)
          have K_5 := kept_def (v := .slice vo jd.l.length vc) (j := 5) hDn K_4
          clear O_4 R_4 B_4 K_4
          have R_6 : BlockIs _ w.heap.size 30 [.int .i64 jd.n, .int .i64 jd.tm, .int .i64 jd.vt, .int .i64 jd.s, .int .i64 jd.t, .slice vo jd.l.length vc] := R_5
          have PK := rj_pack_d hDw hDn K_5 B_5 O_5 R_6
          have KV := hid PK.1
          have FN := hid PK.2.2
          have RVh := hid PK.2.1
          clear PK R_5 R_6 K_5 B_5 O_5 hJ hE hF
          refine ⟨by simp, .inl ⟨_, _, rfl, run_takeDeferred KV.out, ?_⟩⟩
          have RV := RVh.out
          have z0 := RV.cell (j := 0) rfl
          have z1 := RV.cell (j := 1) rfl
          have z2 := RV.cell (j := 2) rfl
          have z3 := RV.cell (j := 3) rfl
          have z4 := RV.cell (j := 4) rfl
          have z5 := RV.cell (j := 5) rfl
          refine ⟨.tuple #[.agg #[.int .i64 jd.n, .int .i64 jd.tm, .int .i64 jd.vt, .int .i64 jd.s, .int .i64 jd.t, .slice vo jd.l.length vc], .int .i64 E, .iface 89 (.agg #[.int .i64 4])], by simp [results, Tryz.results50, go_sem, z0, z1, z2, z3, z4, z5], ?_⟩
          rw [hso]
          exact ⟨vo, vc, _, Or.inr ⟨rfl, h7⟩, rfl, hvc, FN.out.1, FN.out.2⟩
      · have h7' : ¬ (E : Int) < s.size := by omega
        gi_wp2
        gi_region_o
        all_goals gi_wp2
        all_goals
          have O_0 := own_past (j := 0) (u := .int .i64 jd.n) ho hR (by decide)
          have R_0 := hR.set 0 (.int .i64 jd.n)
          have B_0 := hB.setCell (p := ⟨w.heap.size, 0, none⟩) (Nat.le_refl _) (.int .i64 jd.n)
          have K_0 := kept_def (v := .int .i64 jd.n) (j := 0) hDn hK
          clear ho hR hB hK
          have O_1 := own_past (j := 1) (u := .int .i64 jd.tm) O_0 R_0 (by decide)
          have R_1 := R_0.set 1 (.int .i64 jd.tm)
          have B_1 := B_0.setCell (p := ⟨w.heap.size, 1, none⟩) (Nat.le_refl _) (.int .i64 jd.tm)
          have K_1 := kept_def (v := .int .i64 jd.tm) (j := 1) hDn K_0
          clear O_0 R_0 B_0 K_0
          have O_2 := own_past (j := 2) (u := .int .i64 jd.vt) O_1 R_1 (by decide)
          have R_2 := R_1.set 2 (.int .i64 jd.vt)
          have B_2 := B_1.setCell (p := ⟨w.heap.size, 2, none⟩) (Nat.le_refl _) (.int .i64 jd.vt)
          have K_2 := kept_def (v := .int .i64 jd.vt) (j := 2) hDn K_1
          clear O_1 R_1 B_1 K_1
          have O_3 := own_past (j := 3) (u := .int .i64 jd.s) O_2 R_2 (by decide)
          have R_3 := R_2.set 3 (.int .i64 jd.s)
          have B_3 := B_2.setCell (p := ⟨w.heap.size, 3, none⟩) (Nat.le_refl _) (.int .i64 jd.s)
          have K_3 := kept_def (v := .int .i64 jd.s) (j := 3) hDn K_2
          clear O_2 R_2 B_2 K_2
          have O_4 := own_past (j := 4) (u := .int .i64 jd.t) O_3 R_3 (by decide)
          have R_4 := R_3.set 4 (.int .i64 jd.t)
          have B_4 := B_3.setCell (p := ⟨w.heap.size, 4, none⟩) (Nat.le_refl _) (.int .i64 jd.t)
          have K_4 := kept_def (v := .int .i64 jd.t) (j := 4) hDn K_3
          clear O_3 R_3 B_3 K_3
          have O_5 := own_past (j := 5) (u := .slice vo jd.l.length vc) O_4 R_4 (by decide)
          have R_5 := R_4.set 5 (.slice vo jd.l.length vc)
          have B_5 := B_4.setCell (p := ⟨w.heap.size, 5, none⟩) (Nat.le_refl _) (.slice vo jd.l.length vc)
          have K_5 := kept_def (v := .slice vo jd.l.length vc) (j := 5) hDn K_4
          clear O_4 R_4 B_4 K_4
          have R_6 : BlockIs _ w.heap.size 30 [.int .i64 jd.n, .int .i64 jd.tm, .int .i64 jd.vt, .int .i64 jd.s, .int .i64 jd.t, .slice vo jd.l.length vc] := R_5
          have PK := rj_pack_d hDw hDn K_5 B_5 O_5 R_6
          have KV := hid PK.1
          have FN := hid PK.2.2
          have RVh := hid PK.2.1
          clear PK R_5 R_6 K_5 B_5 O_5 hJ hE hF
          refine ⟨by simp, .inl ⟨_, _, rfl, run_takeDeferred KV.out, ?_⟩⟩
          have RV := RVh.out
          have z0 := RV.cell (j := 0) rfl
          have z1 := RV.cell (j := 1) rfl
          have z2 := RV.cell (j := 2) rfl
          have z3 := RV.cell (j := 3) rfl
          have z4 := RV.cell (j := 4) rfl
          have z5 := RV.cell (j := 5) rfl
          refine ⟨.tuple #[.agg #[.int .i64 jd.n, .int .i64 jd.tm, .int .i64 jd.vt, .int .i64 jd.s, .int .i64 jd.t, .slice vo jd.l.length vc], .int .i64 E, .nilIface], by simp [results, Tryz.results50, go_sem, z0, z1, z2, z3, z4, z5], ?_⟩
          rw [hso]
          exact ⟨vo, vc, _, Or.inl ⟨rfl, h7⟩, rfl, hvc, FN.out.1, FN.out.2⟩
  case stop =>
    rintro D c xs W hD hp ⟨rfl, pre, x, rfl, ⟨jd, vo, vc, hJ, hvc, ho, hT, hm⟩, hE, hF, hR, hB⟩ hK
    have hRd := tells_stop h6 hT hm hp
    obtain ⟨E, hEe⟩ : ∃ E, endOf pre = E := ⟨_, rfl⟩
    rw [hEe] at hE hRd
    clear hEe hT hm hp
    have c0 := hJ.cell (j := 0) rfl
    have r0 := hR.cell (j := 0) rfl
    have f0 := hR.thaw 0
    have c1 := hJ.cell (j := 1) rfl
    have r1 := hR.cell (j := 1) rfl
    have f1 := hR.thaw 1
    have c2 := hJ.cell (j := 2) rfl
    have r2 := hR.cell (j := 2) rfl
    have f2 := hR.thaw 2
    have c3 := hJ.cell (j := 3) rfl
    have r3 := hR.cell (j := 3) rfl
    have f3 := hR.thaw 3
    have c4 := hJ.cell (j := 4) rfl
    have r4 := hR.cell (j := 4) rfl
    have f4 := hR.thaw 4
    have c5 := hJ.cell (j := 5) rfl
    have r5 := hR.cell (j := 5) rfl
    have f5 := hR.thaw 5
    have ce := hE.cell
    have hDw : w.heap.size ≤ D := Nat.le_trans hR0.below.size hD
    have hDn : w.heap.size ≠ D := by have := HSZ.out; omega
    rcases hRd with ⟨hE0, hno⟩ | ⟨hE1, hso⟩
    · subst hE0
      have O_0 := own_past (j := 0) (u := .int .i64 0) ho hR (by decide)
      have R_0 := hR.set 0 (.int .i64 0)
      have B_0 := hB.setCell (p := ⟨w.heap.size, 0, none⟩) (Nat.le_refl _) (.int .i64 0)
      have K_0 := kept_def (v := .int .i64 0) (j := 0) hDn hK
      clear ho hR hB hK
      have O_1 := own_past (j := 1) (u := .int .i64 0) O_0 R_0 (by decide)
      have R_1 := R_0.set 1 (.int .i64 0)
      have B_1 := B_0.setCell (p := ⟨w.heap.size, 1, none⟩) (Nat.le_refl _) (.int .i64 0)
      have K_1 := kept_def (v := .int .i64 0) (j := 1) hDn K_0
      clear O_0 R_0 B_0 K_0
      have O_2 := own_past (j := 2) (u := .int .i64 0) O_1 R_1 (by decide)
      have R_2 := R_1.set 2 (.int .i64 0)
      have B_2 := B_1.setCell (p := ⟨w.heap.size, 2, none⟩) (Nat.le_refl _) (.int .i64 0)
      have K_2 := kept_def (v := .int .i64 0) (j := 2) hDn K_1
      clear O_1 R_1 B_1 K_1
      have O_3 := own_past (j := 3) (u := .int .i64 0) O_2 R_2 (by decide)
      have R_3 := R_2.set 3 (.int .i64 0)
      have B_3 := B_2.setCell (p := ⟨w.heap.size, 3, none⟩) (Nat.le_refl _) (.int .i64 0)
      have K_3 := kept_def (v := .int .i64 0) (j := 3) hDn K_2
      clear O_2 R_2 B_2 K_2
      have O_4 := own_past (j := 4) (u := .int .i64 0) O_3 R_3 (by decide)
      have R_4 := R_3.set 4 (.int .i64 0)
      have B_4 := B_3.setCell (p := ⟨w.heap.size, 4, none⟩) (Nat.le_refl _) (.int .i64 0)
      have K_4 := kept_def (v := .int .i64 0) (j := 4) hDn K_3
      clear O_3 R_3 B_3 K_3
      have O_5 := own_past (j := 5) (u := .slice none 0 0) O_4 R_4 (by decide)
      have R_5 := R_4.set 5 (.slice none 0 0)
      have B_5 := B_4.setCell (p := ⟨w.heap.size, 5, none⟩) (Nat.le_refl _) (.slice none 0 0)
      have K_5 := kept_def (v := .slice none 0 0) (j := 5) hDn K_4
      clear O_4 R_4 B_4 K_4
      have R_6 : BlockIs _ w.heap.size 30 [.int .i64 0, .int .i64 0, .int .i64 0, .int .i64 0, .int .i64 0, .slice none 0 0] := R_5
      have PK := rj_pack hDw hDn K_5 B_5 O_5 R_6
      have KV := hid PK.1
      have FN := hid PK.2.2
      have RVh := hid PK.2.1
      clear PK R_5 R_6 K_5 B_5 O_5 hJ hE hF
      gi_wp2
      refine ⟨by simp, .inl ⟨_, _, rfl, run_takeDeferred KV.out, ?_⟩⟩
      have RV := RVh.out
      have z0 := RV.cell (j := 0) rfl
      have z1 := RV.cell (j := 1) rfl
      have z2 := RV.cell (j := 2) rfl
      have z3 := RV.cell (j := 3) rfl
      have z4 := RV.cell (j := 4) rfl
      have z5 := RV.cell (j := 5) rfl
      refine ⟨.tuple #[.agg #[.int .i64 0, .int .i64 0, .int .i64 0, .int .i64 0, .int .i64 0, .slice none 0 0], .int .i64 0, .iface 89 (.agg #[.int .i64 3])], by simp [results, Tryz.results50, go_sem, z0, z1, z2, z3, z4, z5], ?_⟩
      rw [hno]
      exact ⟨3, Or.inr rfl, rfl, FN.out.2⟩
    · have hE1' : ¬ (E : Int) = 0 := by omega
      by_cases h7 : E < s.size
      · have h7' : (E : Int) < s.size := by omega
        gi_wp2
        gi_region_o
        all_goals gi_wp2
        all_goals
          have O_0 := own_past (j := 0) (u := .int .i64 jd.n) ho hR (by decide)
          have R_0 := hR.set 0 (.int .i64 jd.n)
          have B_0 := hB.setCell (p := ⟨w.heap.size, 0, none⟩) (Nat.le_refl _) (.int .i64 jd.n)
          have K_0 := kept_def (v := .int .i64 jd.n) (j := 0) hDn hK
          clear ho hR hB hK
          have O_1 := own_past (j := 1) (u := .int .i64 jd.tm) O_0 R_0 (by decide)
          have R_1 := R_0.set 1 (.int .i64 jd.tm)
          have B_1 := B_0.setCell (p := ⟨w.heap.size, 1, none⟩) (Nat.le_refl _) (.int .i64 jd.tm)
          have K_1 := kept_def (v := .int .i64 jd.tm) (j := 1) hDn K_0
          clear O_0 R_0 B_0 K_0
          have O_2 := own_past (j := 2) (u := .int .i64 jd.vt) O_1 R_1 (by decide)
          have R_2 := R_1.set 2 (.int .i64 jd.vt)
          have B_2 := B_1.setCell (p := ⟨w.heap.size, 2, none⟩) (Nat.le_refl _) (.int .i64 jd.vt)
          have K_2 := kept_def (v := .int .i64 jd.vt) (j := 2) hDn K_1
          clear O_1 R_1 B_1 K_1
          have O_3 := own_past (j := 3) (u := .int .i64 jd.s) O_2 R_2 (by decide)
          have R_3 := R_2.set 3 (.int .i64 jd.s)
          have B_3 := B_2.setCell (p := ⟨w.heap.size, 3, none⟩) (Nat.le_refl _) (.int .i64 jd.s)
          have K_3 := kept_def (v := .int .i64 jd.s) (j := 3) hDn K_2
          clear O_2 R_2 B_2 K_2
          have O_4 := own_past (j := 4) (u := .int .i64 jd.t) O_3 R_3 (by decide)
          have R_4 := R_3.set 4 (.int .i64 jd.t)
          have B_4 := B_3.setCell (p := ⟨w.heap.size, 4, none⟩) (Nat.le_refl _) (.int .i64 jd.t)
          have K_4 := kept_def (v := .int .i64 jd.t) (j := 4) hDn K_3
          clear O_3 R_3 B_3 K_3
          have O_5 := own_past (j := 5) (u := .slice vo jd.l.length vc) O_4 R_4 (by decide)
          have R_5 := R_4.set 5 (.slice vo jd.l.length vc)
          have B_5 := B_4.setCell (p := ⟨w.heap.size, 5, none⟩) (Nat.le_refl _) (.slice vo jd.l.length vc)
          have K_5 := kept_def (v := .slice vo jd.l.length vc) (j := 5) hDn K_4
          clear O_4 R_4 B_4 K_4
          have R_6 : BlockIs _ w.heap.size 30 [.int .i64 jd.n, .int .i64 jd.tm, .int .i64 jd.vt, .int .i64 jd.s, .int .i64 jd.t, .slice vo jd.l.length vc] := R_5
          have PK := rj_pack_d hDw hDn K_5 B_5 O_5 R_6
          have KV := hid PK.1
          have FN := hid PK.2.2
          have RVh := hid PK.2.1
          clear PK R_5 R_6 K_5 B_5 O_5 hJ hE hF
          refine ⟨by simp, .inl ⟨_, _, rfl, run_takeDeferred KV.out, ?_⟩⟩
          have RV := RVh.out
          have z0 := RV.cell (j := 0) rfl
          have z1 := RV.cell (j := 1) rfl
          have z2 := RV.cell (j := 2) rfl
          have z3 := RV.cell (j := 3) rfl
          have z4 := RV.cell (j := 4) rfl
          have z5 := RV.cell (j := 5) rfl
          refine ⟨.tuple #[.agg #[.int .i64 jd.n, .int .i64 jd.tm, .int .i64 jd.vt, .int .i64 jd.s, .int .i64 jd.t, .slice vo jd.l.length vc], .int .i64 E, .iface 89 (.agg #[.int .i64 4])], by simp [results, Tryz.results50, go_sem, z0, z1, z2, z3, z4, z5], ?_⟩
          rw [hso]
          exact ⟨vo, vc, _, Or.inr ⟨rfl, h7⟩, rfl, hvc, FN.out.1, FN.out.2⟩
      · have h7' : ¬ (E : Int) < s.size := by omega
        gi_wp2
        gi_region_o
        all_goals gi_wp2
        all_goals
          have O_0 := own_past (j := 0) (u := .int .i64 jd.n) ho hR (by decide)
          have R_0 := hR.set 0 (.int .i64 jd.n)
          have B_0 := hB.setCell (p := ⟨w.heap.size, 0, none⟩) (Nat.le_refl _) (.int .i64 jd.n)
          have K_0 := kept_def (v := .int .i64 jd.n) (j := 0) hDn hK
          clear ho hR hB hK
          have O_1 := own_past (j := 1) (u := .int .i64 jd.tm) O_0 R_0 (by decide)
          have R_1 := R_0.set 1 (.int .i64 jd.tm)
          have B_1 := B_0.setCell (p := ⟨w.heap.size, 1, none⟩) (Nat.le_refl _) (.int .i64 jd.tm)
          have K_1 := kept_def (v := .int .i64 jd.tm) (j := 1) hDn K_0
          clear O_0 R_0 B_0 K_0
          have O_2 := own_past (j := 2) (u := .int .i64 jd.vt) O_1 R_1 (by decide)
          have R_2 := R_1.set 2 (.int .i64 jd.vt)
          have B_2 := B_1.setCell (p := ⟨w.heap.size, 2, none⟩) (Nat.le_refl _) (.int .i64 jd.vt)
          have K_2 := kept_def (v := .int .i64 jd.vt) (j := 2) hDn K_1
          clear O_1 R_1 B_1 K_1
          have O_3 := own_past (j := 3) (u := .int .i64 jd.s) O_2 R_2 (by decide)
          have R_3 := R_2.set 3 (.int .i64 jd.s)
          have B_3 := B_2.setCell (p := ⟨w.heap.size, 3, none⟩) (Nat.le_refl _) (.int .i64 jd.s)
          have K_3 := kept_def (v := .int .i64 jd.s) (j := 3) hDn K_2
          clear O_2 R_2 B_2 K_2
          have O_4 := own_past (j := 4) (u := .int .i64 jd.t) O_3 R_3 (by decide)
          have R_4 := R_3.set 4 (.int .i64 jd.t)
          have B_4 := B_3.setCell (p := ⟨w.heap.size, 4, none⟩) (Nat.le_refl _) (.int .i64 jd.t)
          have K_4 := kept_def (v := .int .i64 jd.t) (j := 4) hDn K_3
          clear O_3 R_3 B_3 K_3
          have O_5 := own_past (j := 5) (u := .slice vo jd.l.length vc) O_4 R_4 (by decide)
          have R_5 := R_4.set 5 (.slice vo jd.l.length vc)
          have B_5 := B_4.setCell (p := ⟨w.heap.size, 5, none⟩) (Nat.le_refl _) (.slice vo jd.l.length vc)
          have K_5 := kept_def (v := .slice vo jd.l.length vc) (j := 5) hDn K_4
          clear O_4 R_4 B_4 K_4
          have R_6 : BlockIs _ w.heap.size 30 [.int .i64 jd.n, .int .i64 jd.tm, .int .i64 jd.vt, .int .i64 jd.s, .int .i64 jd.t, .slice vo jd.l.length vc] := R_5
          have PK := rj_pack_d hDw hDn K_5 B_5 O_5 R_6
          have KV := hid PK.1
          have FN := hid PK.2.2
          have RVh := hid PK.2.1
          clear PK R_5 R_6 K_5 B_5 O_5 hJ hE hF
          refine ⟨by simp, .inl ⟨_, _, rfl, run_takeDeferred KV.out, ?_⟩⟩
          have RV := RVh.out
          have z0 := RV.cell (j := 0) rfl
          have z1 := RV.cell (j := 1) rfl
          have z2 := RV.cell (j := 2) rfl
          have z3 := RV.cell (j := 3) rfl
          have z4 := RV.cell (j := 4) rfl
          have z5 := RV.cell (j := 5) rfl
          refine ⟨.tuple #[.agg #[.int .i64 jd.n, .int .i64 jd.tm, .int .i64 jd.vt, .int .i64 jd.s, .int .i64 jd.t, .slice vo jd.l.length vc], .int .i64 E, .nilIface], by simp [results, Tryz.results50, go_sem, z0, z1, z2, z3, z4, z5], ?_⟩
          rw [hso]
          exact ⟨vo, vc, _, Or.inl ⟨rfl, h7⟩, rfl, hvc, FN.out.1, FN.out.2⟩
end Go.Proofs.YtbifkpkhpaellaaGreatDoor

namespace Go.Proofs.YtbifkpkhpaellaaGreatDoor
open Go.RowKit

theorem readJ_big {n : Int} {s : ByteArray} (h : 20000 < s.size) : readJ n s = none := readJ_nil (by rw [ufT, if_pos h])
set_option maxRecDepth 1000000 in
set_option maxHeartbeats 2000000 in
theorem readJournal_bad (n : Int) (s : ByteArray) (hs : s.size ≤ 1048576) (hbad : within n 0 999 = false ∨ 20000 < s.size) (w : World) : Calls Tryz.prog 50 #[.int .i64 n, .string s] w fun e w' => rjIDid s.size (readJ n s) w e w' := by
  have HN : Hid (readJ n s = none) := by
    rcases hbad with h | h
    · exact readJ_n h
    · exact readJ_big h
  have R0 : BlockIs (w.alloc (.cells #[.int .i64 0, .int .i64 0, .int .i64 0, .int .i64 0, .int .i64 0, .slice none 0 0] 30)) w.heap.size 30 [.int .i64 0, .int .i64 0, .int .i64 0, .int .i64 0, .int .i64 0, .slice none 0 0] := heap_alloc_new w _
  have BL := hid (((((((below_more (Below.refl w.heap.size w) (.cells #[.int .i64 0, .int .i64 0, .int .i64 0, .int .i64 0, .int .i64 0, .slice none 0 0] 30)).setCell (p := ⟨w.heap.size, 0, none⟩) (Nat.le_refl _) (.int .i64 0)).setCell (p := ⟨w.heap.size, 1, none⟩) (Nat.le_refl _) (.int .i64 0)).setCell (p := ⟨w.heap.size, 2, none⟩) (Nat.le_refl _) (.int .i64 0)).setCell (p := ⟨w.heap.size, 3, none⟩) (Nat.le_refl _) (.int .i64 0)).setCell (p := ⟨w.heap.size, 4, none⟩) (Nat.le_refl _) (.int .i64 0)).setCell (p := ⟨w.heap.size, 5, none⟩) (Nat.le_refl _) (.slice none 0 0))
  have HR0 := hid R0
  clear R0
  obtain ⟨W, hW⟩ : ∃ W, w.alloc (.cells #[.int .i64 0, .int .i64 0, .int .i64 0, .int .i64 0, .int .i64 0, .slice none 0 0] 30) = W := ⟨_, rfl⟩
  rw [hW] at BL HR0
  have z0 := HR0.out.cell (j := 0) rfl
  have z1 := HR0.out.cell (j := 1) rfl
  have z2 := HR0.out.cell (j := 2) rfl
  have z3 := HR0.out.cell (j := 3) rfl
  have z4 := HR0.out.cell (j := 4) rfl
  have z5 := HR0.out.cell (j := 5) rfl
  have q0 := HR0.out.thaw 0
  have q1 := HR0.out.thaw 1
  have q2 := HR0.out.thaw 2
  have q3 := HR0.out.thaw 3
  have q4 := HR0.out.thaw 4
  have q5 := HR0.out.thaw 5
  go_enter Tryz.func50, Tryz.ntmps50
  go_wp2_with fail
  refine (numberOk_any n _).mono ?_
  rintro e w1 ⟨rfl, hw⟩
  rw [hw]
  clear hw w1
  cases hn : within n 0 999 with
  | false =>
    clear hbad hn
    go_wp2
    refine bodyPost_ret (v := .tuple #[.agg #[.int .i64 0, .int .i64 0, .int .i64 0, .int .i64 0, .int .i64 0, .slice none 0 0], .int .i64 0, .iface 89 (.agg #[.int .i64 1])]) (by simp [results, Tryz.results50, go_sem, z0, z1, z2, z3, z4, z5]) rfl ?_
    rw [HN.out]
    exact ⟨1, Or.inl rfl, rfl, BL.out⟩
  | true =>
    have h7 : 20000 < s.size := by
      rcases hbad with h | h
      · rw [hn] at h; cases h
      · exact h
    have h7' : (20000 : Int) < s.size := by omega
    clear hbad hn
    go_wp2
    refine bodyPost_ret (v := .tuple #[.agg #[.int .i64 0, .int .i64 0, .int .i64 0, .int .i64 0, .int .i64 0, .slice none 0 0], .int .i64 0, .iface 89 (.agg #[.int .i64 1])]) (by simp [results, Tryz.results50, go_sem, z0, z1, z2, z3, z4, z5]) rfl ?_
    rw [HN.out]
    exact ⟨1, Or.inl rfl, rfl, BL.out⟩
theorem readJournal_any (n : Int) (s : ByteArray) (hs : s.size ≤ 1048576) (w : World) (ht : Steps w) : Calls Tryz.prog 50 #[.int .i64 n, .string s] w fun e w' => rjIDid s.size (readJ n s) w e w' := by
  cases hn : within n 0 999 with
  | false => exact readJournal_bad n s hs (Or.inl hn) w
  | true =>
    by_cases h : 20000 < s.size
    · exact readJournal_bad n s hs (Or.inr h) w
    · exact readJournal_small n s hn (by omega) w ht
end Go.Proofs.YtbifkpkhpaellaaGreatDoor
