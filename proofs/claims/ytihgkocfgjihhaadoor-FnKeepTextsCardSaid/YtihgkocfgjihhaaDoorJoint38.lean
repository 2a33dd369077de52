/-
  The walk of impl.textReader's method keep.
-/
import Derived.Test.YtihgkocfgjihhaaDoorJoint28
import Derived.Test.YtihgkocfgjihhaaDoorJoint36
import Derived.Test.YtihgkocfgjihhaaDoorJoint1
import Derived.Test.YtihgkocfgjihhaaDoorJoint10
import Derived.Deep.LoopGhost
namespace Go.Proofs.YtihgkocfgjihhaaDoor
open Go.RowKit Go.Sort

def keepAtDid (o : Option ((List SessionD × List ItemD) × Nat)) (s : ByteArray) (b : Nat) (w : World) (e : Ending) (w' : World) : Prop := match o with
  | none => e = .panicked [misreadP] ∧ w.grownBy w' (some b)
  | some (p, k) => ∃ va vc vb vd, e = .returned (.agg #[.slice va p.1.length vc, .slice vb p.2.length vd]) ∧ KRows w' w.heap.size (.slice va p.1.length vc) (.slice vb p.2.length vd) p.1 p.2 ∧ RdIs w' b s k ∧ w.grownBy w' (some b)
theorem grown_rowK {w x y : World} {r o : Option Nat} (h : w.grownBy x r) (hg : x.grownBy y o) (ho : ∀ g, o = some g → w.heap.size ≤ g) : w.grownBy y r :=
  ⟨hg.os.trans h.os, hg.tape.trans h.tape, hg.output.trans h.output, Nat.le_trans h.size hg.size, fun k hk hr => (hg.block k (Nat.lt_of_lt_of_le hk h.size) (fun e => by have := ho k e.symm; omega)).trans (h.block k hk hr)⟩
theorem row_low {w : World} {base size n g : Nat} {t : TypeId} {v : Value} {xs : List Value} (h : w.ownsRow base t size v n xs) (hv : v.ownBlock = some g) : base ≤ g := by
  obtain ⟨_, _, hb⟩ := row_block h hv
  exact hb
/-- where a loop stands: the reader, the keep's box, the answer's box, the row that grows -/
def KIn (w W : World) (b : Nat) (s : ByteArray) (k : Nat) (a c : Value) : Prop := RdIs W b s k ∧ BlockIs W (w.heap.size + 1) 27 [a, c] ∧ BlockIs W w.heap.size 27 [.slice none 0 0, .slice none 0 0] ∧ w.grownBy W (some b)
set_option maxRecDepth 1000000 in
set_option maxHeartbeats 8000000 in
theorem keep_at (b : Nat) (s : ByteArray) (hs : s.size ≤ 1048576) (w : World) (hr : RdIs w b s 0) :
    Calls Tryd.prog 26 #[.pointer (some ⟨b, 0, none⟩)] w fun e w' => keepAtDid (keepAt s) s b w e w' := by
  have h2 := two_blocks w (.cells #[.slice none 0 0, .slice none 0 0] 27) (.cells #[.slice none 0 0, .slice none 0 0] 27)
  have hb := BlockIs.lt hr
  have K0 : Hid (KIn w ((w.alloc (.cells #[.slice none 0 0, .slice none 0 0] 27)).alloc (.cells #[.slice none 0 0, .slice none 0 0] 27)) b s 0 (.slice none 0 0) (.slice none 0 0)) := ⟨BlockIs.on hr h2.1 hb, h2.2.2.2, h2.2.2.1, grown_of_below h2.1 (some b)⟩
  clear h2 hr
  go_enter Tryd.func26, Tryd.ntmps26
  go_wp2_with fail
  refine (number_at b s 0 3 hs (Nat.zero_le _) _ K0.out.1 _ rfl).mono ?_
  intro e w1 hd
  cases h0 : numAt s 3 0 with
  | none =>
    rw [h0] at hd
    obtain ⟨rfl, hg⟩ := hd
    have HR : Hid (keepAt s = none) := (show _ = _ by simp [keepAt, h0])
    clear h0
    go_wp2
    rw [HR.out]
    exact And.intro rfl (And.intro rfl (K0.out.2.2.2.trans hg))
  | some p =>
  obtain ⟨n, k1⟩ := p
  rw [h0] at hd
  obtain ⟨rfl, hr, hg⟩ := hd
  have hf0 := numAt_fits (Nat.zero_le _) h0
  have hn3 := hf0.1
  have hk1 := hf0.2.2.2.1
  have K1 : Hid (KIn w w1 b s k1 (.slice none 0 0) (.slice none 0 0)) := ⟨hr, blk_grown K0.out.2.1 hg (by omega), blk_grown K0.out.2.2.1 hg (by omega), K0.out.2.2.2.trans hg⟩
  have H0 := hid h0
  clear h0 hf0 hr hg K0
  go_wp2
  go_loopg [7] n (fun g i wr => ∃ (k : Nat) (L : List SessionD) (kk : Nat) (va : Option Addr) (vc : Nat), L.length + g = n ∧ k = L.length ∧ i = .int .i64 k ∧ kk ≤ s.size ∧ Hid (KIn w wr b s kk (.slice va L.length vc) (.slice none 0 0)) ∧ Hid (wr.ownsRow w.heap.size 55 3 (.slice va L.length vc) L.length (sessionCells L)) ∧ Hid (rowAt (sessionAt s) n k1 = (rowAt (sessionAt s) g kk).map fun q => (L ++ q.1, q.2)))
  case atStart => exact ⟨0, [], k1, none, 0, by simp, rfl, rfl, hk1, K1.out, (show World.ownsRow _ _ _ _ _ _ _ from ⟨rfl, Or.inl ⟨rfl, rfl⟩⟩), (show _ = _ by cases rowAt (sessionAt s) n k1 <;> simp)⟩
  case round =>
    obtain ⟨k, L, kk, va, vc, hkg, rfl, rfl, hkk, KR, RR, HE⟩ := hrel
    clear K1
    cases gk with
    | succ g =>
      have hlt : (L.length : Int) < (n : Int) := by omega
      have hltn : L.length < n := by omega
      have hltd : decide ((L.length : Int) < (n : Int)) = true := by simp; omega
      have k0 := KR.out.2.1.cell (j := 0) rfl
      have k1' := KR.out.2.1.cell (j := 1) rfl
      have hbl := BlockIs.lt KR.out.1
      cases hsa : sessionAt s kk with
      | none =>
        have HR : Hid (keepAt s = none) := (show _ = _ by have := HE.out; rw [rowAt, hsa] at this; simp only [Option.bind_none, Option.map_none] at this; simp [keepAt, H0.out, this])
        have cN := hid (fun W (h : RdIs W b s kk) => session_at b s kk hs hkk W h)
        rw [hsa] at cN
        have hown := BlockIs.lt KR.out.2.1
        clear hsa
        go_wp2
        refine wp_region_any (by kernel_rfl) ?_
        refine wpAny_take (i := 0) (v := (.pointer (some ⟨w.heap.size + 1, 0, none⟩))) rfl (by kernel_rfl) (by kernel_rfl) (by kernel_rfl) (fun _ _ _ h => h) (Or.inl ⟨by rfl, by intro w; go_simp⟩) ?_
        refine wpAny_take (i := 2) (v := (.pointer (some ⟨b, 0, none⟩))) rfl (by kernel_rfl) (by kernel_rfl) (by kernel_rfl) (fun _ _ _ h => h) (Or.inl ⟨by rfl, by intro w; go_simp⟩) ?_
        refine wpAny_ready (rs := [1, 3]) (by kernel_rfl) (by simp) (AllReady.cons rfl (fun K hK => ?_) (AllReady.cons rfl (fun K hK => ?_) AllReady.nil))
        · go_simp
          refine hK _ _ ?_
          clear hK K
          refine wpAny_ready (rs := [3]) (by kernel_rfl) (by simp) (AllReady.cons rfl (fun K hK => ?_) AllReady.nil)
          go_simp
          refine (cN.out wr.drew KR.out.1).mono ?_
          rintro e w4 ⟨rfl, hg⟩
          exact And.intro rfl (show keepAtDid (keepAt s) s b w _ _ by rw [HR.out]; exact And.intro rfl (KR.out.2.2.2.trans ((grown_draws _ _ 1).trans hg)))
        · go_simp
          refine (cN.out wr.drew KR.out.1).mono ?_
          rintro e w4 ⟨rfl, hg⟩
          exact And.intro rfl (show keepAtDid (keepAt s) s b w _ _ by rw [HR.out]; exact And.intro rfl (KR.out.2.2.2.trans ((grown_draws _ _ 1).trans hg)))
      | some p =>
        obtain ⟨d, k'⟩ := p
        have hk' := sessionAt_fits hkk hsa
        have HN : Hid (rowAt (sessionAt s) n k1 = (rowAt (sessionAt s) g k').map fun q => ((L ++ [d]) ++ q.1, q.2)) := (show _ = _ by rw [HE.out, rowAt, hsa]; simp only [Option.bind_some]; cases rowAt (sessionAt s) g k' <;> simp)
        have cN := hid (fun W (h : RdIs W b s kk) => session_at b s kk hs hkk W h)
        rw [hsa] at cN
        clear hsa HE
        go_wp2
        refine wp_region_from (N := 34) (by kernel_rfl) (by kernel_rfl) rfl (by kernel_rfl) (fun W => BlockIs W w.heap.size 27 [.slice none 0 0, .slice none 0 0] ∧ w.grownBy W (some b)) (fun j v u W => match j with | 0 => v = .pointer (some ⟨w.heap.size + 1, 0, none⟩) | 1 => v = .slice va L.length vc | 2 => v = .pointer (some ⟨b, 0, none⟩) | 3 => v = .agg #[.int .i64 d.token, .int .i64 d.last, .string d.reply] ∧ RdIs W b s k' | 4 => ∃ g : Nat, v = .slice (some ⟨g, 0, none⟩) 1 1 ∧ w.heap.size ≤ g ∧ BlockIs W g 55 [.int .i64 d.token, .int .i64 d.last, .string d.reply] | 5 => ∃ (va' : Option Addr) (vc' : Nat), v = .slice va' (L.length + 1) vc' ∧ W.ownsRow w.heap.size 55 3 (.slice va' (L.length + 1) vc') (L.length + 1) (sessionCells (L ++ [d])) | 6 => v = .pointer (some ⟨w.heap.size + 1, 0, none⟩) | 7 => ∃ (va' : Option Addr) (vc' : Nat), u = .slice va' (L.length + 1) vc' ∧ W.ownsRow w.heap.size 55 3 (.slice va' (L.length + 1) vc') (L.length + 1) (sessionCells (L ++ [d])) ∧ BlockIs W (w.heap.size + 1) 27 [.slice va' (L.length + 1) vc', .slice none 0 0] | _ => True) (fun i => if i = 7 then 5 else i) (fun j i => decide ((j, i) ∈ ([(4, 5)] : List (Nat × Nat)))) (fun i x y => x.heap.size ≤ y.heap.size ∧ ∀ g ty cs, BlockIs x g ty cs → (i = 5 → ty ≠ 55) → (i = 7 → ty ≠ 27) → (i = 3 → ty ≠ 103) → BlockIs y g ty cs) (fun q9 W => match q9 with | 0 => W.ownsRow w.heap.size 55 3 (.slice va L.length vc) L.length (sessionCells L) | 1 => BlockIs W (w.heap.size + 1) 27 [.slice va L.length vc, .slice none 0 0] | 2 => RdIs W b s kk | _ => True) (fun m k => decide ((m, k) ∈ ([(0, 5), (1, 7), (2, 3)] : List (Nat × Nat)))) ?_ (fun i => if i = 7 then 14 else 0) (by kernel_rfl) (fun i hi => by have : 8 ≤ i := hi; simp; omega) ?_ ⟨KR.out.2.2.1, KR.out.2.2.2.trans (grown_draws _ _ 1)⟩ (fun q9 => match q9 with | 0 => RR.out | 1 => KR.out.2.1 | 2 => KR.out.1 | _ + 3 => trivial) ?_ ?_
        · intro i m x y hen hxy hm
          match m, hen, hm with
          | 0, hen, hm =>
            simp at hen
            exact row_ext hm fun g cs hg => hxy.2 _ _ _ hg (fun e => absurd e hen) (fun _ => by decide) (fun _ => by decide)
          | 1, hen, hm =>
            simp at hen
            exact hxy.2 _ _ _ hm (fun _ => by decide) (fun e => absurd e hen) (fun _ => by decide)
          | 2, hen, hm =>
            simp at hen
            exact hxy.2 _ _ _ hm (fun _ => by decide) (fun _ => by decide) (fun e => absurd e hen)
          | n + 3, _, _ => exact trivial
        · intro i j v u x y hij hdd hwt hxy hg
          match j, hg with
          | 0, hg => exact hg
          | 1, hg => exact hg
          | 2, hg => exact hg
          | 3, hg =>
            obtain ⟨e1, e2⟩ := hg
            exact ⟨e1, hxy.2 _ _ _ e2 (fun _ => by decide) (fun _ => by decide) (fun e => absurd e hij)⟩
          | 4, hg =>
            obtain ⟨g, e1, e2, e3⟩ := hg
            simp at hdd
            exact ⟨g, e1, e2, hxy.2 _ _ _ e3 (fun e => absurd e hdd) (fun _ => by decide) (fun _ => by decide)⟩
          | 5, hg =>
            obtain ⟨va', vc', e1, e2⟩ := hg
            exact ⟨va', vc', e1, row_ext e2 fun g cs hg => hxy.2 _ _ _ hg (fun e => absurd e hij) (fun _ => by decide) (fun _ => by decide)⟩
          | 6, hg => exact hg
          | 7, hg =>
            obtain ⟨va', vc', e1, e2, e3⟩ := hg
            have h6 : i ≠ 5 := by rintro rfl; exact Bool.noConfusion (hwt.symm.trans (by kernel_rfl : waitsB _ 7 5 = true))
            exact ⟨va', vc', e1, row_ext e2 fun g cs hg => hxy.2 _ _ _ hg (fun e => absurd e h6) (fun _ => by decide) (fun _ => by decide), hxy.2 _ _ _ e3 (fun _ => by decide) (fun e => absurd e hij) (fun _ => by decide)⟩
          | n + 8, _ => exact trivial
        · refine ⟨?_, ?_, ?_, ?_, ?_, ?_, ?_, ?_, trivial⟩
          · intro A W hC hI hg hb
            have h3 : A.eval (.tmp 3) = .pointer (some ⟨w.heap.size + 1, 0, none⟩) := hb 3 (base_of (by kernel_rfl))
            exact does_value (v := .pointer (some ⟨w.heap.size + 1, 0, none⟩)) (w' := W) (by simp only [execOp, h3]; simp [go_sem]) ⟨rfl, hC, Nat.le_refl _, fun _ _ _ h _ _ _ => h⟩
          · intro A W hC hI hg hb
            have h9 : A.eval (.tmp 9) = .pointer (some ⟨w.heap.size + 1, 0, none⟩) := hg 0 9 (by decide) rfl (by simp [Op.operands]) (by kernel_rfl) rfl
            have hb1 : BlockIs W (w.heap.size + 1) 27 [.slice va L.length vc, .slice none 0 0] := hI 1 (by kernel_rfl)
            have hc := hb1.cell (j := 0) rfl
            exact does_value (v := .slice va L.length vc) (w' := W) (by simp only [execOp, h9]; simp [go_sem, hc]) ⟨rfl, hC, Nat.le_refl _, fun _ _ _ h _ _ _ => h⟩
          · intro A W hC hI hg hb
            have h0 : A.eval (.tmp 0) = .pointer (some ⟨b, 0, none⟩) := hb 0 (base_of (by kernel_rfl))
            exact does_value (v := .pointer (some ⟨b, 0, none⟩)) (w' := W) (by simp only [execOp, h0]; simp [go_sem]) ⟨rfl, hC, Nat.le_refl _, fun _ _ _ h _ _ _ => h⟩
          · intro A W hC hI hg hb
            have h11 : A.eval (.tmp 11) = .pointer (some ⟨b, 0, none⟩) := hg 2 11 (by decide) rfl (by simp [Op.operands, Call.operands]) (by kernel_rfl) rfl
            have hrd : RdIs W b s kk := hI 2 (by kernel_rfl)
            simp [go_sem] at h11
            refine does_enter (f := 56) (args := #[.pointer (some ⟨b, 0, none⟩)]) (w' := W) (by simp [go_sem, h11]) ?_
            refine (cN.out W hrd).mono ?_
            rintro e W' ⟨rfl, hr', hg'⟩
            have hfb : ∀ p ty cs, BlockIs W p ty cs → ty ≠ 103 → BlockIs W' p ty cs := fun p ty cs hp hne => blk_grown hp hg' (fun e => by subst e; exact hne (block_one hp hrd).1)
            exact ⟨_, rfl, ⟨rfl, hr'⟩, ⟨hfb _ _ _ hC.1 (by decide), hC.2.trans hg'⟩, hg'.size, fun p ty cs hp _ _ hne => hfb p ty cs hp (hne rfl)⟩
          · intro A W hC hI hg hb
            have g3 := hg 3 12 (by decide) rfl (by simp [Op.operands]) (by kernel_rfl) rfl
            obtain ⟨h12, _⟩ := g3
            simp [go_sem] at h12
            have ba := below_more (Below.refl W.heap.size W) (.cells #[.int .i64 d.token, .int .i64 d.last, .string d.reply] 55)
            have hsz : w.heap.size ≤ W.heap.size := hC.2.size
            exact does_value (v := .slice (some ⟨W.heap.size, 0, none⟩) 1 1) (w' := W.alloc (.cells #[.int .i64 d.token, .int .i64 d.last, .string d.reply] 55)) (by simp [execOp, go_sem, h12]) ⟨⟨_, rfl, hsz, heap_alloc_new W _⟩, ⟨hC.1.on ba hC.1.lt, grown_new hC.2 _⟩, ba.size, fun p ty cs hp _ _ _ => hp.on ba hp.lt⟩
          · intro A W hC hI hg hb
            have h10 : A.eval (.tmp 10) = .slice va L.length vc := hg 1 10 (by decide) rfl (by simp [Op.operands, Call.operands]) (by kernel_rfl) rfl
            have g4 := hg 4 13 (by decide) rfl (by simp [Op.operands, Call.operands]) (by kernel_rfl) rfl
            obtain ⟨g, h13, hgl, hbl⟩ := g4
            have hrow : W.ownsRow w.heap.size 55 3 (.slice va L.length vc) L.length (sessionCells L) := hI 0 (by kernel_rfl)
            have hM : SessionsAt W (some ⟨g, 0, none⟩) [d] := sessionsAt_of (r := []) hbl
            have hsz : w.heap.size ≤ W.heap.size := hC.2.size
            obtain ⟨v', W', hrn, h2, h3⟩ := append_sessions (c := 1) (M := [d]) (by simp; omega) hsz hrow hM
            rw [List.length_append] at h2
            obtain ⟨va', vc', rfl⟩ := row_shape h2
            simp only [List.length_singleton] at h2 hrn
            have hfb : ∀ p ty cs, BlockIs W p ty cs → ty ≠ 55 → BlockIs W' p ty cs := fun p ty cs hp hne => block_grown hp hrow h3 hne
            refine does_value (v := .slice va' (L.length + 1) vc') (w' := W') (by simp only [execOp, resolve, invoke, builtin, Sem.run_bind, Sem.run_pure, Result.andThen_ok, List.map_toArray, List.map_cons, List.map_nil, h10, h13, hrn]) ⟨⟨va', vc', rfl, h2⟩, ⟨hfb _ _ _ hC.1 (by decide), grown_rowK hC.2 h3 (fun g hg => row_low hrow hg)⟩, h3.size, fun p ty cs hp hne _ _ => hfb p ty cs hp (hne rfl)⟩
          · intro A W hC hI hg hb
            have h3 : A.eval (.tmp 3) = .pointer (some ⟨w.heap.size + 1, 0, none⟩) := hb 3 (base_of (by kernel_rfl))
            exact does_value (v := .pointer (some ⟨w.heap.size + 1, 0, none⟩)) (w' := W) (by simp only [execOp, h3]; simp [go_sem]) ⟨rfl, hC, Nat.le_refl _, fun _ _ _ h _ _ _ => h⟩
          · intro A W hC hI hg hb
            have h15 : A.eval (.tmp 15) = .pointer (some ⟨w.heap.size + 1, 0, none⟩) := hg 6 15 (by decide) rfl (by simp [Op.operands]) (by kernel_rfl) rfl
            have g5 := hg 5 14 (by decide) rfl (by simp [Op.operands]) (by kernel_rfl) rfl
            obtain ⟨va', vc', h14, hrow⟩ := g5
            have hb1 : BlockIs W (w.heap.size + 1) 27 [.slice va L.length vc, .slice none 0 0] := hI 1 (by kernel_rfl)
            have c2 := hb1.cell (j := 0) rfl
            have f2 := hb1.thaw 0
            have hfb : ∀ p ty cs, BlockIs W p ty cs → ty ≠ 27 → BlockIs (W.setCell ⟨w.heap.size + 1, 0, none⟩ (.slice va' (L.length + 1) vc')) p ty cs := fun p ty cs hp hne => hp.far (by intro e; subst e; exact hne (block_one hp hb1).1) _
            exact does_skip (w' := W.setCell ⟨w.heap.size + 1, 0, none⟩ (.slice va' (L.length + 1) vc')) (by simp only [execOp, h15, h14]; simp [go_sem, c2, f2]) ⟨⟨va', vc', h14, row_ext hrow fun g cs hg => hfb g _ cs hg (by decide), hb1.set 0 _⟩, ⟨hC.1.far (by omega) _, grown_put hC.2 (Nat.le_succ _) _⟩, by simp [World.size_setCell], fun p ty cs hp _ hne _ => hfb p ty cs hp (hne rfl)⟩
        intro vs wE hC _ hg
        obtain ⟨va', vc', hu, ho, hb9⟩ := hg 7 (by decide) (fun k => by simp)
        change vs 5 = _ at hu
        have hrd := (hg 3 (by decide) (fun k => by simp)).2
        clear hg
        have KN : Hid (KIn w wE b s k' _ _) := ⟨hrd, hb9, hC.1, hC.2⟩
        have RN := hid ho
        clear hrd hb9 ho hC k0 k1' KR RR cN hbl
        change Exit.inBlock _ _ _ (laidBy _ vs _ 8 _) wE
        simp only [laidBy, if_true, dstAt, List.getElem?_toArray, List.getElem?_cons_succ, List.getElem?_cons_zero, Option.bind_some]
        simp only [Act.put, List.setIfInBounds_toArray, List.set_cons_succ, List.set_cons_zero]
        try rw [hu]
        clear hu
        have hL1 : L.length + 1 = (L ++ [d]).length := by simp
        go_wp2
        go_roundg g
        case measure => omega
        case rel =>
          have RN2 : Hid (wE.ownsRow w.heap.size 55 3 (.slice va' (L ++ [d]).length vc') (L ++ [d]).length (sessionCells (L ++ [d]))) := (show World.ownsRow _ _ _ _ _ _ _ by rw [← hL1]; exact RN.out)
          have KN2 : Hid (KIn w wE b s k' (.slice va' (L ++ [d]).length vc') (.slice none 0 0)) := (show KIn _ _ _ _ _ _ _ by rw [← hL1]; exact KN.out)
          exact ⟨_, L ++ [d], k', va', vc', by simp; omega, rfl, by rw [← hL1]; exact (show Value.int IntKind.i64 ((L.length : Int) + 1) = Value.int IntKind.i64 ((L.length + 1 : Nat) : Int) from rfl), hk', KN2.out, RN2.out, HN.out⟩
    | zero =>
      have hlt : ¬ (L.length : Int) < (n : Int) := by omega
      have hlt0 : ¬ L.length < n := by omega
      have hltd : decide (L.length < n) = false := by simp; omega
      have HQ : Hid (rowAt (sessionAt s) n k1 = some (L, kk)) := (show _ = _ by have := HE.out; rw [rowAt] at this; simpa using this)
      clear HE
      have RS := RR
      obtain ⟨ls, hls⟩ : ∃ l, L = l := ⟨_, rfl⟩
      rw [hls] at KR RR RS HQ hkg hlt hlt0 hltd
      obtain ⟨sa, hsa⟩ : ∃ a, va = a := ⟨_, rfl⟩
      obtain ⟨sc, hsc⟩ : ∃ a, vc = a := ⟨_, rfl⟩
      rw [hsa, hsc] at KR RS
      have HQS := HQ
      clear HQ
      go_wp2_with fail
      refine (number_at b s kk 8 hs hkk _ KR.out.1 _ rfl).mono ?_
      intro e w5 hd
      cases h2 : numAt s 8 kk with
      | none =>
        rw [h2] at hd
        obtain ⟨rfl, hg⟩ := hd
        have HR : Hid (keepAt s = none) := (show _ = _ by simp [keepAt, H0.out, HQS.out, h2])
        clear h2
        go_wp2
        rw [HR.out]
        exact And.intro rfl (And.intro rfl (KR.out.2.2.2.trans hg))
      | some p =>
        obtain ⟨m, k3⟩ := p
        rw [h2] at hd
        obtain ⟨rfl, hr, hg⟩ := hd
        have hf2 := numAt_fits hkk h2
        have hm8 := hf2.1
        have hk3 := hf2.2.2.2.1
        have hbl := BlockIs.lt KR.out.1
        have K5 : Hid (KIn w w5 b s k3 (.slice sa ls.length sc) (.slice none 0 0)) := ⟨hr, blk_grown KR.out.2.1 hg (fun e => by have h9 := KR.out.2.1; rw [e] at h9; exact absurd (block_one h9 KR.out.1).1 (by decide)), blk_grown KR.out.2.2.1 hg (fun e => by have h9 := KR.out.2.2.1; rw [e] at h9; exact absurd (block_one h9 KR.out.1).1 (by decide)), KR.out.2.2.2.trans hg⟩
        have R5 : Hid (w5.ownsRow w.heap.size 55 3 (.slice sa ls.length sc) ls.length (sessionCells ls)) := (row_ext RS.out fun g cs h9 => blk_grown h9 hg (fun e => by rw [e] at h9; exact absurd (block_one h9 KR.out.1).1 (by decide)))
        have hls3 : ls.length ≤ 3 := by omega
        have H2 := hid h2
        clear h2 hf2 hr hg KR RS RR hls hsa hsc hlt hlt0 hltd hbl hkg
        go_wp2
        go_loopg [19] m (fun g i wr => ∃ (k : Nat) (L : List ItemD) (kk : Nat) (va : Option Addr) (vc : Nat), L.length + g = m ∧ k = L.length ∧ i = .int .i64 k ∧ kk ≤ s.size ∧ Hid (KIn w wr b s kk (.slice sa ls.length sc) (.slice va L.length vc)) ∧ Hid (wr.ownsRow w.heap.size 58 3 (.slice va L.length vc) L.length (itemCells L)) ∧ Hid (rowAt (itemAt s) m k3 = (rowAt (itemAt s) g kk).map fun q => (L ++ q.1, q.2)) ∧ Hid (wr.ownsRow w.heap.size 55 3 (.slice sa ls.length sc) ls.length (sessionCells ls)))
        case atStart => exact ⟨0, [], k3, none, 0, by simp, rfl, rfl, hk3, K5.out, (show World.ownsRow _ _ _ _ _ _ _ from ⟨rfl, Or.inl ⟨rfl, rfl⟩⟩), (show _ = _ by cases rowAt (itemAt s) m k3 <;> simp), R5.out⟩
        case round =>
          obtain ⟨k, L, kk, va, vc, hkg, rfl, rfl, hkk, KR, RR, HE, RO⟩ := hrel
          clear K5 R5
          cases gk with
          | succ g =>
            have hlt : (L.length : Int) < (m : Int) := by omega
            have hltn : L.length < m := by omega
            have hltd : decide ((L.length : Int) < (m : Int)) = true := by simp; omega
            have k0 := KR.out.2.1.cell (j := 0) rfl
            have k1' := KR.out.2.1.cell (j := 1) rfl
            have hbl := BlockIs.lt KR.out.1
            cases hsa : itemAt s kk with
            | none =>
              have HR : Hid (keepAt s = none) := (show _ = _ by have := HE.out; rw [rowAt, hsa] at this; simp only [Option.bind_none, Option.map_none] at this; simp [keepAt, H0.out, HQS.out, H2.out, this])
              have cN := hid (fun W (h : RdIs W b s kk) => item_at b s kk hs hkk W h)
              rw [hsa] at cN
              have hown := BlockIs.lt KR.out.2.1
              clear hsa
              go_wp2
              refine wp_region_any (by kernel_rfl) ?_
              refine wpAny_take (i := 0) (v := (.pointer (some ⟨w.heap.size + 1, 1, none⟩))) rfl (by kernel_rfl) (by kernel_rfl) (by kernel_rfl) (fun _ _ _ h => h) (Or.inl ⟨by rfl, by intro w; go_simp⟩) ?_
              refine wpAny_take (i := 2) (v := (.pointer (some ⟨b, 0, none⟩))) rfl (by kernel_rfl) (by kernel_rfl) (by kernel_rfl) (fun _ _ _ h => h) (Or.inl ⟨by rfl, by intro w; go_simp⟩) ?_
              refine wpAny_ready (rs := [1, 3]) (by kernel_rfl) (by simp) (AllReady.cons rfl (fun K hK => ?_) (AllReady.cons rfl (fun K hK => ?_) AllReady.nil))
              · go_simp
                refine hK _ _ ?_
                clear hK K
                refine wpAny_ready (rs := [3]) (by kernel_rfl) (by simp) (AllReady.cons rfl (fun K hK => ?_) AllReady.nil)
                go_simp
                refine (cN.out wr.drew KR.out.1).mono ?_
                rintro e w4 ⟨rfl, hg⟩
                exact And.intro rfl (show keepAtDid (keepAt s) s b w _ _ by rw [HR.out]; exact And.intro rfl (KR.out.2.2.2.trans ((grown_draws _ _ 1).trans hg)))
              · go_simp
                refine (cN.out wr.drew KR.out.1).mono ?_
                rintro e w4 ⟨rfl, hg⟩
                exact And.intro rfl (show keepAtDid (keepAt s) s b w _ _ by rw [HR.out]; exact And.intro rfl (KR.out.2.2.2.trans ((grown_draws _ _ 1).trans hg)))
            | some p =>
              obtain ⟨d, k'⟩ := p
              have hk' := itemAt_fits hkk hsa
              have HN : Hid (rowAt (itemAt s) m k3 = (rowAt (itemAt s) g k').map fun q => ((L ++ [d]) ++ q.1, q.2)) := (show _ = _ by rw [HE.out, rowAt, hsa]; simp only [Option.bind_some]; cases rowAt (itemAt s) g k' <;> simp)
              have cN := hid (fun W (h : RdIs W b s kk) => item_at b s kk hs hkk W h)
              rw [hsa] at cN
              clear hsa HE
              go_wp2
              refine wp_region_from (N := 34) (by kernel_rfl) (by kernel_rfl) rfl (by kernel_rfl) (fun W => BlockIs W w.heap.size 27 [.slice none 0 0, .slice none 0 0] ∧ w.grownBy W (some b) ∧ W.ownsRow w.heap.size 55 3 (.slice sa ls.length sc) ls.length (sessionCells ls)) (fun j v u W => match j with | 0 => v = .pointer (some ⟨w.heap.size + 1, 1, none⟩) | 1 => v = .slice va L.length vc | 2 => v = .pointer (some ⟨b, 0, none⟩) | 3 => v = .agg #[.string d.key, .string d.val, .int .i64 d.ver] ∧ RdIs W b s k' | 4 => ∃ g : Nat, v = .slice (some ⟨g, 0, none⟩) 1 1 ∧ w.heap.size ≤ g ∧ BlockIs W g 58 [.string d.key, .string d.val, .int .i64 d.ver] | 5 => ∃ (va' : Option Addr) (vc' : Nat), v = .slice va' (L.length + 1) vc' ∧ W.ownsRow w.heap.size 58 3 (.slice va' (L.length + 1) vc') (L.length + 1) (itemCells (L ++ [d])) | 6 => v = .pointer (some ⟨w.heap.size + 1, 1, none⟩) | 7 => ∃ (va' : Option Addr) (vc' : Nat), u = .slice va' (L.length + 1) vc' ∧ W.ownsRow w.heap.size 58 3 (.slice va' (L.length + 1) vc') (L.length + 1) (itemCells (L ++ [d])) ∧ BlockIs W (w.heap.size + 1) 27 [.slice sa ls.length sc, .slice va' (L.length + 1) vc'] | _ => True) (fun i => if i = 7 then 5 else i) (fun j i => decide ((j, i) ∈ ([(4, 5)] : List (Nat × Nat)))) (fun i x y => x.heap.size ≤ y.heap.size ∧ ∀ g ty cs, BlockIs x g ty cs → (i = 5 → ty ≠ 58) → (i = 7 → ty ≠ 27) → (i = 3 → ty ≠ 103) → BlockIs y g ty cs) (fun q9 W => match q9 with | 0 => W.ownsRow w.heap.size 58 3 (.slice va L.length vc) L.length (itemCells L) | 1 => BlockIs W (w.heap.size + 1) 27 [.slice sa ls.length sc, .slice va L.length vc] | 2 => RdIs W b s kk | _ => True) (fun m k => decide ((m, k) ∈ ([(0, 5), (1, 7), (2, 3)] : List (Nat × Nat)))) ?_ (fun i => if i = 7 then 26 else 0) (by kernel_rfl) (fun i hi => by have : 8 ≤ i := hi; simp; omega) ?_ ⟨KR.out.2.2.1, KR.out.2.2.2.trans (grown_draws _ _ 1), RO.out⟩ (fun q9 => match q9 with | 0 => RR.out | 1 => KR.out.2.1 | 2 => KR.out.1 | _ + 3 => trivial) ?_ ?_
              · intro i m x y hen hxy hm
                match m, hen, hm with
                | 0, hen, hm =>
                  simp at hen
                  exact row_ext hm fun g cs hg => hxy.2 _ _ _ hg (fun e => absurd e hen) (fun _ => by decide) (fun _ => by decide)
                | 1, hen, hm =>
                  simp at hen
                  exact hxy.2 _ _ _ hm (fun _ => by decide) (fun e => absurd e hen) (fun _ => by decide)
                | 2, hen, hm =>
                  simp at hen
                  exact hxy.2 _ _ _ hm (fun _ => by decide) (fun _ => by decide) (fun e => absurd e hen)
                | n + 3, _, _ => exact trivial
              · intro i j v u x y hij hdd hwt hxy hg
                match j, hg with
                | 0, hg => exact hg
                | 1, hg => exact hg
                | 2, hg => exact hg
                | 3, hg =>
                  obtain ⟨e1, e2⟩ := hg
                  exact ⟨e1, hxy.2 _ _ _ e2 (fun _ => by decide) (fun _ => by decide) (fun e => absurd e hij)⟩
                | 4, hg =>
                  obtain ⟨g, e1, e2, e3⟩ := hg
                  simp at hdd
                  exact ⟨g, e1, e2, hxy.2 _ _ _ e3 (fun e => absurd e hdd) (fun _ => by decide) (fun _ => by decide)⟩
                | 5, hg =>
                  obtain ⟨va', vc', e1, e2⟩ := hg
                  exact ⟨va', vc', e1, row_ext e2 fun g cs hg => hxy.2 _ _ _ hg (fun e => absurd e hij) (fun _ => by decide) (fun _ => by decide)⟩
                | 6, hg => exact hg
                | 7, hg =>
                  obtain ⟨va', vc', e1, e2, e3⟩ := hg
                  have h6 : i ≠ 5 := by rintro rfl; exact Bool.noConfusion (hwt.symm.trans (by kernel_rfl : waitsB _ 7 5 = true))
                  exact ⟨va', vc', e1, row_ext e2 fun g cs hg => hxy.2 _ _ _ hg (fun e => absurd e h6) (fun _ => by decide) (fun _ => by decide), hxy.2 _ _ _ e3 (fun _ => by decide) (fun e => absurd e hij) (fun _ => by decide)⟩
                | n + 8, _ => exact trivial
              · refine ⟨?_, ?_, ?_, ?_, ?_, ?_, ?_, ?_, trivial⟩
                · intro A W hC hI hg hb
                  have h3 : A.eval (.tmp 3) = .pointer (some ⟨w.heap.size + 1, 0, none⟩) := hb 3 (base_of (by kernel_rfl))
                  exact does_value (v := .pointer (some ⟨w.heap.size + 1, 1, none⟩)) (w' := W) (by simp only [execOp, h3]; simp [go_sem]) ⟨rfl, hC, Nat.le_refl _, fun _ _ _ h _ _ _ => h⟩
                · intro A W hC hI hg hb
                  have h21 : A.eval (.tmp 21) = .pointer (some ⟨w.heap.size + 1, 1, none⟩) := hg 0 21 (by decide) rfl (by simp [Op.operands]) (by kernel_rfl) rfl
                  have hb1 : BlockIs W (w.heap.size + 1) 27 [.slice sa ls.length sc, .slice va L.length vc] := hI 1 (by kernel_rfl)
                  have hc := hb1.cell (j := 1) rfl
                  exact does_value (v := .slice va L.length vc) (w' := W) (by simp only [execOp, h21]; simp [go_sem, hc]) ⟨rfl, hC, Nat.le_refl _, fun _ _ _ h _ _ _ => h⟩
                · intro A W hC hI hg hb
                  have h0 : A.eval (.tmp 0) = .pointer (some ⟨b, 0, none⟩) := hb 0 (base_of (by kernel_rfl))
                  exact does_value (v := .pointer (some ⟨b, 0, none⟩)) (w' := W) (by simp only [execOp, h0]; simp [go_sem]) ⟨rfl, hC, Nat.le_refl _, fun _ _ _ h _ _ _ => h⟩
                · intro A W hC hI hg hb
                  have h23 : A.eval (.tmp 23) = .pointer (some ⟨b, 0, none⟩) := hg 2 23 (by decide) rfl (by simp [Op.operands, Call.operands]) (by kernel_rfl) rfl
                  have hrd : RdIs W b s kk := hI 2 (by kernel_rfl)
                  simp [go_sem] at h23
                  refine does_enter (f := 57) (args := #[.pointer (some ⟨b, 0, none⟩)]) (w' := W) (by simp [go_sem, h23]) ?_
                  refine (cN.out W hrd).mono ?_
                  rintro e W' ⟨rfl, hr', hg'⟩
                  have hfb : ∀ p ty cs, BlockIs W p ty cs → ty ≠ 103 → BlockIs W' p ty cs := fun p ty cs hp hne => blk_grown hp hg' (fun e => by subst e; exact hne (block_one hp hrd).1)
                  exact ⟨_, rfl, ⟨rfl, hr'⟩, ⟨hfb _ _ _ hC.1 (by decide), hC.2.1.trans hg', row_ext hC.2.2 fun g cs hg => hfb g _ cs hg (by decide)⟩, hg'.size, fun p ty cs hp _ _ hne => hfb p ty cs hp (hne rfl)⟩
                · intro A W hC hI hg hb
                  have g3 := hg 3 24 (by decide) rfl (by simp [Op.operands]) (by kernel_rfl) rfl
                  obtain ⟨h24, _⟩ := g3
                  simp [go_sem] at h24
                  have ba := below_more (Below.refl W.heap.size W) (.cells #[.string d.key, .string d.val, .int .i64 d.ver] 58)
                  have hsz : w.heap.size ≤ W.heap.size := hC.2.1.size
                  exact does_value (v := .slice (some ⟨W.heap.size, 0, none⟩) 1 1) (w' := W.alloc (.cells #[.string d.key, .string d.val, .int .i64 d.ver] 58)) (by simp [execOp, go_sem, h24]) ⟨⟨_, rfl, hsz, heap_alloc_new W _⟩, ⟨hC.1.on ba hC.1.lt, grown_new hC.2.1 _, row_onK hC.2.2 ba⟩, ba.size, fun p ty cs hp _ _ _ => hp.on ba hp.lt⟩
                · intro A W hC hI hg hb
                  have h22 : A.eval (.tmp 22) = .slice va L.length vc := hg 1 22 (by decide) rfl (by simp [Op.operands, Call.operands]) (by kernel_rfl) rfl
                  have g4 := hg 4 25 (by decide) rfl (by simp [Op.operands, Call.operands]) (by kernel_rfl) rfl
                  obtain ⟨g, h25, hgl, hbl⟩ := g4
                  have hrow : W.ownsRow w.heap.size 58 3 (.slice va L.length vc) L.length (itemCells L) := hI 0 (by kernel_rfl)
                  have hM : ItemsAt W (some ⟨g, 0, none⟩) [d] := itemsAt_of (r := []) hbl
                  have hsz : w.heap.size ≤ W.heap.size := hC.2.1.size
                  obtain ⟨v', W', hrn, h2, h3⟩ := append_items (c := 1) (M := [d]) (by simp; omega) hsz hrow hM
                  rw [List.length_append] at h2
                  obtain ⟨va', vc', rfl⟩ := row_shape h2
                  simp only [List.length_singleton] at h2 hrn
                  have hfb : ∀ p ty cs, BlockIs W p ty cs → ty ≠ 58 → BlockIs W' p ty cs := fun p ty cs hp hne => block_grown hp hrow h3 hne
                  refine does_value (v := .slice va' (L.length + 1) vc') (w' := W') (by simp only [execOp, resolve, invoke, builtin, Sem.run_bind, Sem.run_pure, Result.andThen_ok, List.map_toArray, List.map_cons, List.map_nil, h22, h25, hrn]) ⟨⟨va', vc', rfl, h2⟩, ⟨hfb _ _ _ hC.1 (by decide), grown_rowK hC.2.1 h3 (fun g hg => row_low hrow hg), row_ext hC.2.2 fun g cs hg => hfb g _ cs hg (by decide)⟩, h3.size, fun p ty cs hp hne _ _ => hfb p ty cs hp (hne rfl)⟩
                · intro A W hC hI hg hb
                  have h3 : A.eval (.tmp 3) = .pointer (some ⟨w.heap.size + 1, 0, none⟩) := hb 3 (base_of (by kernel_rfl))
                  exact does_value (v := .pointer (some ⟨w.heap.size + 1, 1, none⟩)) (w' := W) (by simp only [execOp, h3]; simp [go_sem]) ⟨rfl, hC, Nat.le_refl _, fun _ _ _ h _ _ _ => h⟩
                · intro A W hC hI hg hb
                  have h27 : A.eval (.tmp 27) = .pointer (some ⟨w.heap.size + 1, 1, none⟩) := hg 6 27 (by decide) rfl (by simp [Op.operands]) (by kernel_rfl) rfl
                  have g5 := hg 5 26 (by decide) rfl (by simp [Op.operands]) (by kernel_rfl) rfl
                  obtain ⟨va', vc', h26, hrow⟩ := g5
                  have hb1 : BlockIs W (w.heap.size + 1) 27 [.slice sa ls.length sc, .slice va L.length vc] := hI 1 (by kernel_rfl)
                  have c2 := hb1.cell (j := 1) rfl
                  have f2 := hb1.thaw 1
                  have hfb : ∀ p ty cs, BlockIs W p ty cs → ty ≠ 27 → BlockIs (W.setCell ⟨w.heap.size + 1, 1, none⟩ (.slice va' (L.length + 1) vc')) p ty cs := fun p ty cs hp hne => hp.far (by intro e; subst e; exact hne (block_one hp hb1).1) _
                  exact does_skip (w' := W.setCell ⟨w.heap.size + 1, 1, none⟩ (.slice va' (L.length + 1) vc')) (by simp only [execOp, h27, h26]; simp [go_sem, c2, f2]) ⟨⟨va', vc', h26, row_ext hrow fun g cs hg => hfb g _ cs hg (by decide), hb1.set 1 _⟩, ⟨hC.1.far (by omega) _, grown_put hC.2.1 (Nat.le_succ _) _, row_ext hC.2.2 fun g cs hg => hfb g _ cs hg (by decide)⟩, by simp [World.size_setCell], fun p ty cs hp _ hne _ => hfb p ty cs hp (hne rfl)⟩
              intro vs wE hC _ hg
              obtain ⟨va', vc', hu, ho, hb9⟩ := hg 7 (by decide) (fun k => by simp)
              change vs 5 = _ at hu
              have hrd := (hg 3 (by decide) (fun k => by simp)).2
              clear hg
              have KN : Hid (KIn w wE b s k' _ _) := ⟨hrd, hb9, hC.1, hC.2.1⟩
              have RN := hid ho
              have ON := hid hC.2.2
              clear hrd hb9 ho hC k0 k1' KR RR cN hbl RO
              change Exit.inBlock _ _ _ (laidBy _ vs _ 8 _) wE
              simp only [laidBy, if_true, dstAt, List.getElem?_toArray, List.getElem?_cons_succ, List.getElem?_cons_zero, Option.bind_some]
              simp only [Act.put, List.setIfInBounds_toArray, List.set_cons_succ, List.set_cons_zero]
              try rw [hu]
              clear hu
              have hL1 : L.length + 1 = (L ++ [d]).length := by simp
              go_wp2
              go_roundg g
              case measure => omega
              case rel =>
                have RN2 : Hid (wE.ownsRow w.heap.size 58 3 (.slice va' (L ++ [d]).length vc') (L ++ [d]).length (itemCells (L ++ [d]))) := (show World.ownsRow _ _ _ _ _ _ _ by rw [← hL1]; exact RN.out)
                have KN2 : Hid (KIn w wE b s k' (.slice sa ls.length sc) (.slice va' (L ++ [d]).length vc')) := (show KIn _ _ _ _ _ _ _ by rw [← hL1]; exact KN.out)
                exact ⟨_, L ++ [d], k', va', vc', by simp; omega, rfl, by rw [← hL1]; exact (show Value.int IntKind.i64 ((L.length : Int) + 1) = Value.int IntKind.i64 ((L.length + 1 : Nat) : Int) from rfl), hk', KN2.out, RN2.out, HN.out, ON.out⟩
          | zero =>
            have hlt : ¬ (L.length : Int) < (m : Int) := by omega
            have hlt0 : ¬ L.length < m := by omega
            have hltd : decide (L.length < m) = false := by simp; omega
            have HQ : Hid (rowAt (itemAt s) m k3 = some (L, kk)) := (show _ = _ by have := HE.out; rw [rowAt] at this; simpa using this)
            clear HE
            have q0 := KR.out.2.1.cell (j := 0) rfl
            have q1 := KR.out.2.1.cell (j := 1) rfl
            go_wp2_with fail
            refine (implKeepOk_any _ _ ls L _ _ (by omega) (by omega) _ (sessionR_at RO.out) (itemR_at RR.out)).mono ?_
            rintro e w6 ⟨rfl, b6⟩
            have K6 : Hid (KIn w w6 b s kk _ _) := ⟨BlockIs.on KR.out.1 b6 (BlockIs.lt KR.out.1), KR.out.2.1.on b6 KR.out.2.1.lt, KR.out.2.2.1.on b6 KR.out.2.2.1.lt, KR.out.2.2.2.trans (grown_of_below b6 (some b))⟩
            have S6 := hid (row_onK RO.out b6)
            have I6 := hid (row_onK RR.out b6)
            clear b6 KR RO RR q0 q1
            cases hok : keepOk ls L with
            | false =>
              have HR : Hid (keepAt s = none) := (show _ = _ by simp [keepAt, H0.out, HQS.out, H2.out, HQ.out, hok])
              clear hok
              go_wp2_with fail
              refine (need_no _ _).mono ?_
              rintro e w3 ⟨rfl, hw⟩
              rw [hw]
              clear hw w3
              go_wp2
              rw [HR.out]
              exact And.intro rfl (And.intro rfl K6.out.2.2.2)
            | true =>
              have HR : Hid (keepAt s = some ((ls, L), kk)) := (show _ = _ by simp [keepAt, H0.out, HQS.out, H2.out, HQ.out, hok])
              clear hok
              go_wp2_with fail
              refine (need_yes _ _).mono ?_
              rintro e w3 ⟨rfl, hw⟩
              rw [hw]
              clear hw w3
              have y0 := K6.out.2.1.cell (j := 0) rfl
              have y1 := K6.out.2.1.cell (j := 1) rfl
              have c0 := K6.out.2.2.1.cell (j := 0) rfl
              have c1 := K6.out.2.2.1.cell (j := 1) rfl
              have f0 := K6.out.2.2.1.thaw 0
              have f1 := K6.out.2.2.1.thaw 1
              have hbl := BlockIs.lt K6.out.1
              have hbne : w.heap.size ≠ b := fun e => by have h9 := K6.out.2.2.1; rw [e] at h9; exact absurd (block_one h9 K6.out.1).1 (by decide)
              go_wp2
              have PZ := (K6.out.2.2.1.set 0 (.slice sa ls.length sc)).set 1 (.slice va L.length vc)
              have d0 := PZ.cell (j := 0) rfl
              have d1 := PZ.cell (j := 1) rfl
              refine bodyPost_ret (v := .agg #[.slice sa ls.length sc, .slice va L.length vc]) (by simp [results, Tryd.results26, go_sem, d0, d1]) rfl ?_
              rw [HR.out]
              refine ⟨sa, sc, va, vc, rfl, ?_, ?_, ?_⟩
              · exact (KRows.far (show KRows w6 w.heap.size _ _ ls L from ⟨S6.out, I6.out⟩) K6.out.2.2.1 (by decide) (by decide) _).far (K6.out.2.2.1.set 0 _) (by decide) (by decide) _
              · exact BlockIs.far (BlockIs.far K6.out.1 hbne _) hbne _
              · exact grown_put (grown_put K6.out.2.2.2 (Nat.le_refl _) _) (Nat.le_refl _) _
end Go.Proofs.YtihgkocfgjihhaaDoor
