/-
  Bits of the call's own are written over with marks: the walk of laws.markBitsS.
-/
import Derived.Test.YtpknpodmoeaggabBitsTo
import Derived.Test.YtpknpodmoeaggabBitsSz
import Derived.Test.YtpknpodmoeaggabTextMark
import Derived.Test.YtpknpodmoeaggabIntHeld
namespace Go.Proofs.Ytpknpodmoeaggab
open Go.RowKit

/-- nothing but blocks of one kind between two sizes has turned -/
def KeptOf (ty : TypeId) (lo hi : Nat) (w w' : World) : Prop := ∀ j t cs, ¬ (t = ty ∧ lo ≤ j ∧ j < hi) → BlockIs w j t cs → BlockIs w' j t cs
theorem KeptOf.but {ty : TypeId} {lo hi lo' hi' : Nat} {w w' : World} (h : KeptOf ty lo hi w w') (h1 : lo' ≤ lo) (h2 : hi ≤ hi') : KeptBut lo' hi' w w' := fun j t cs hj hb => h j t cs (fun e => hj ⟨by omega, by omega⟩) hb
set_option maxRecDepth 1000000 in
theorem markStringS_own (ta : Option Addr) (ts : List ByteArray) (tc m lo hi : Nat) (hm : m ≤ 10000000) (hl : ts.length ≤ 1048576) (w : World) (hw : lo ≤ w.heap.size) (h : OwnAt w 9 (st ts) ts.length ta lo hi) :
    Calls Try.prog 43 #[.slice ta ts.length tc, .int .i64 m] w fun e w' => e = .returned (.int .i64 ((m + ts.length : Nat) : Int)) ∧ OwnAt w' 9 (st (tmarks m ts.length)) ts.length ta lo hi ∧ KeptOf 9 lo hi w w' ∧ Below lo w w' := by
  rcases h with h0 | ⟨g, r, rfl, h1, h2, h3⟩
  · obtain rfl : ts = [] := List.length_eq_zero_iff.1 h0
    refine Calls.mono (markStringS_nil ta tc m w) ?_
    rintro e w' ⟨rfl, hw'⟩
    rw [hw']
    exact ⟨rfl, Or.inl rfl, fun j t cs _ hb => hb, Below.refl _ _⟩
  · refine (markStringS_more g ts r tc m hm hl w h3).mono ?_
    rintro e w' ⟨rfl, ⟨r', hk⟩, hg'⟩
    refine ⟨rfl, Or.inr ⟨g, r', rfl, h1, h2, hk⟩, fun j t cs hj hbj => ?_, ⟨hg'.os, hg'.tape, hg'.output, hg'.size, fun k hk' => hg'.block k (by omega) (fun e => ?_)⟩⟩
    · unfold BlockIs
      rw [hg'.block j hbj.lt (fun e => hj (by have : j = g := by simpa using e
                                              subst this
                                              exact ⟨(block_one h3 hbj).1.symm, h1, h2⟩))]
      exact hbj
    · have : k = g := by simpa using e
      omega
set_option maxRecDepth 1000000 in
theorem markIntS_own (ta : Option Addr) (ts : List Int) (tc m lo hi : Nat) (hm : m ≤ 10000000) (hl : ts.length ≤ 1048576) (w : World) (hw : lo ≤ w.heap.size) (h : OwnAt w 3 (intCells ts) ts.length ta lo hi) :
    Calls Try.prog 44 #[.slice ta ts.length tc, .int .i64 m] w fun e w' => e = .returned (.int .i64 ((m + ts.length : Nat) : Int)) ∧ OwnAt w' 3 (intCells (countFrom m ts.length)) ts.length ta lo hi ∧ KeptOf 3 lo hi w w' ∧ Below lo w w' := by
  rcases h with h0 | ⟨g, r, rfl, h1, h2, h3⟩
  · obtain rfl : ts = [] := List.length_eq_zero_iff.1 h0
    refine Calls.mono (markIntS_nil ta tc m w) ?_
    rintro e w' ⟨rfl, hw'⟩
    rw [hw']
    exact ⟨rfl, Or.inl rfl, fun j t cs _ hb => hb, Below.refl _ _⟩
  · refine (markIntS_more g ts r tc m hm hl w h3).mono ?_
    rintro e w' ⟨rfl, ⟨r', hk⟩, hg'⟩
    refine ⟨rfl, Or.inr ⟨g, r', rfl, h1, h2, hk⟩, fun j t cs hj hbj => ?_, ⟨hg'.os, hg'.tape, hg'.output, hg'.size, fun k hk' => hg'.block k (by omega) (fun e => ?_)⟩⟩
    · unfold BlockIs
      rw [hg'.block j hbj.lt (fun e => hj (by have : j = g := by simpa using e
                                              subst this
                                              exact ⟨(block_one h3 hbj).1.symm, h1, h2⟩))]
      exact hbj
    · have : k = g := by simpa using e
      omega
/-- the marks of one, from K on -/
def markB (K : Nat) (e : BitD) : BitD := ⟨K, (K + 1 : Nat), tmarks (K + 2) e.texts.length, countFrom (K + 2 + e.texts.length) e.ats.length, (K + 2 + e.texts.length + e.ats.length : Nat), (K + 2 + e.texts.length + e.ats.length + 1 : Nat)⟩
def cntB (e : BitD) : Nat := e.texts.length + e.ats.length + 4
def cntBs : List BitD → Nat
  | [] => 0
  | e :: l => cntB e + cntBs l
def markBs (K : Nat) : List BitD → List BitD
  | [] => []
  | e :: l => markB K e :: markBs (K + cntB e) l
theorem markBs_length : ∀ (K : Nat) (l : List BitD), (markBs K l).length = l.length
  | _, [] => rfl
  | K, e :: l => by simp only [markBs, List.length_cons, markBs_length]
theorem cntBs_take : ∀ (l : List BitD) (k : Nat) (h : k < l.length), cntBs (l.take (k + 1)) = cntBs (l.take k) + cntB l[k]
  | e :: l, 0, _ => by simp [cntBs]
  | e :: l, k + 1, h => by
    have := cntBs_take l k (by simpa using h)
    simp only [List.take_succ_cons, cntBs, List.getElem_cons_succ] at this ⊢
    omega
theorem markBs_take : ∀ (K : Nat) (l : List BitD) (k : Nat) (h : k < l.length), markBs K (l.take (k + 1)) = markBs K (l.take k) ++ [markB (K + cntBs (l.take k)) l[k]]
  | K, e :: l, 0, _ => by simp [markBs, cntBs]
  | K, e :: l, k + 1, h => by
    have := markBs_take (K + cntB e) l k (by simpa using h)
    simp only [List.take_succ_cons, markBs, List.getElem_cons_succ, cntBs, List.cons_append] at this ⊢
    rw [this, Nat.add_assoc]
theorem markBs_get (K : Nat) (l : List BitD) (k : Nat) (h : k < l.length) (h2 : k < (markBs K l).length) : (markBs K l)[k] = markB (K + cntBs (l.take k)) l[k] := by
  induction l generalizing K k with
  | nil => simp at h
  | cons e l ih =>
    cases k with
    | zero => simp [markBs, cntBs]
    | succ k =>
      have := ih (K + cntB e) k (by simpa using h) (by rw [markBs_length]; simpa using h)
      simp only [markBs, List.getElem_cons_succ, List.take_succ_cons, cntBs]
      rw [this, Nat.add_assoc]
/-- few marks -/
theorem cntBs_le : ∀ (l : List BitD) (k : Nat), cntBs (l.take k) ≤ cntBs l
  | [], k => by simp [cntBs]
  | e :: l, 0 => by simp [cntBs]
  | e :: l, k + 1 => by have := cntBs_le l k; simp only [List.take_succ_cons, cntBs]; omega
theorem cntBs_bulk (l : List BitD) : (cntBs l : Int) ≤ bitBulk l + 4 * l.length := by
  induction l with
  | nil => simp [cntBs, bitBulk]
  | cons e l ih =>
    have := tBulk_nonneg e.texts
    simp only [cntBs, bitBulk, cntB, bitOne, List.length_cons]
    omega
theorem Nest.split {w : World} {e : BitD} {l2 : List BitD} {hi : Nat} : ∀ {l1 : List BitD} {rs : List BitsD} {lo : Nat}, Nest w (l1 ++ e :: l2) rs lo hi → ∃ rs1 r rs2 a b, rs = rs1 ++ r :: rs2 ∧ Nest w l1 rs1 lo a ∧ OwnB w e r a b ∧ Nest w l2 rs2 b hi
  | [], r :: rs, lo, ⟨m, h1, h2⟩ => ⟨[], r, rs, lo, m, rfl, Nat.le_refl _, h1, h2⟩
  | e1 :: l1, r :: rs, lo, ⟨m, h1, h2⟩ => by
    obtain ⟨rs1, r2, rs2, a, b, rfl, h3, h4, h5⟩ := Nest.split h2
    exact ⟨r :: rs1, r2, rs2, a, b, rfl, ⟨m, h1, h3⟩, h4, h5⟩
theorem Nest.join {w : World} {e : BitD} {r : BitsD} {l2 : List BitD} {rs2 : List BitsD} {a b hi : Nat} (h4 : OwnB w e r a b) (h5 : Nest w l2 rs2 b hi) : ∀ {l1 : List BitD} {rs1 : List BitsD} {lo : Nat}, Nest w l1 rs1 lo a → Nest w (l1 ++ e :: l2) (rs1 ++ r :: rs2) lo hi
  | [], [], _, h => ⟨b, h4.down h (Nat.le_refl _), h5⟩
  | _ :: _, _ :: _, _, ⟨m, h1, h3⟩ => ⟨m, h1, Nest.join h4 h5 h3⟩
theorem OwnAt.of {w w' : World} {t ty : TypeId} {cs : List Value} {n : Nat} {va : Option Addr} {lo hi lo2 hi2 : Nat} (h : OwnAt w t cs n va lo hi) (hk : KeptOf ty lo2 hi2 w w') (ho : t ≠ ty ∨ hi ≤ lo2 ∨ hi2 ≤ lo) : OwnAt w' t cs n va lo hi :=
  h.imp id fun ⟨g, r, a, b, c, d⟩ => ⟨g, r, a, b, c, hk _ _ _ (fun e => by
    cases ho with
    | inl h => exact h e.1
    | inr h => omega) d⟩
theorem OwnB.of {w w' : World} {e : BitD} {r : BitsD} {ty : TypeId} {lo hi lo2 hi2 : Nat} (h : OwnB w e r lo hi) (hk : KeptOf ty lo2 hi2 w w') (ho : hi ≤ lo2 ∨ hi2 ≤ lo) : OwnB w' e r lo hi := by
  obtain ⟨ta, tc, aa, ac, m, e1, e2, e3, e4, e5⟩ := h
  exact ⟨ta, tc, aa, ac, m, e1, e2.of hk (by omega), e3.of hk (by omega), e4, e5⟩
theorem Nest.of {w w' : World} {ty : TypeId} {lo2 hi2 : Nat} (hk : KeptOf ty lo2 hi2 w w') : ∀ {l : List BitD} {rs : List BitsD} {lo hi : Nat}, Nest w l rs lo hi → (hi ≤ lo2 ∨ hi2 ≤ lo) → Nest w' l rs lo hi
  | [], [], _, _, h, _ => h
  | _ :: _, _ :: _, _, _, ⟨m, h1, h2⟩, ho => ⟨m, h1.of hk (by have := h2.le; omega), h2.of hk (by have := h1.le; omega)⟩
theorem set_kept {w : World} {g j lo hi : Nat} {t : TypeId} {cs : List Value} (hg : BlockIs w g t cs) (h1 : lo ≤ g) (h2 : g < hi) (v : Value) : KeptOf t lo hi w (w.setCell ⟨g, j, none⟩ v) := by
  intro i ty xs hn hb
  refine hb.far (fun e => ?_) v
  subst e
  exact hn ⟨(block_one hb hg).1, h1, h2⟩
theorem KeptBut.trans {lo hi : Nat} {w w1 w2 : World} (h : KeptBut lo hi w w1) (h2 : KeptBut lo hi w1 w2) : KeptBut lo hi w w2 := fun j t cs hj hb => h2 j t cs hj (h j t cs hj hb)
/-- four cells of one of the row's elements, written -/
theorem cells_mid (p q : List Value) (v0 v1 v2 v3 v4 v5 a b c d : Value) : ((((p ++ (v0 :: v1 :: v2 :: v3 :: v4 :: v5 :: q)).set p.length a).set (p.length + 1) b).set (p.length + 4) c).set (p.length + 5) d = p ++ (a :: b :: v2 :: v3 :: c :: d :: q) := by
  rw [List.set_append_right _ _ (Nat.le_refl _), List.set_append_right _ _ (by omega), List.set_append_right _ _ (by omega), List.set_append_right _ _ (by omega)]
  simp
theorem cell_mid (p q : List Value) (v0 v1 v2 v3 v4 v5 : Value) : (p ++ (v0 :: v1 :: v2 :: v3 :: v4 :: v5 :: q))[p.length]? = some v0 ∧ (p ++ (v0 :: v1 :: v2 :: v3 :: v4 :: v5 :: q))[p.length + 1]? = some v1 ∧ (p ++ (v0 :: v1 :: v2 :: v3 :: v4 :: v5 :: q))[p.length + 2]? = some v2 ∧ (p ++ (v0 :: v1 :: v2 :: v3 :: v4 :: v5 :: q))[p.length + 3]? = some v3 ∧ (p ++ (v0 :: v1 :: v2 :: v3 :: v4 :: v5 :: q))[p.length + 4]? = some v4 ∧ (p ++ (v0 :: v1 :: v2 :: v3 :: v4 :: v5 :: q))[p.length + 5]? = some v5 := by
  refine ⟨?_, ?_, ?_, ?_, ?_, ?_⟩ <;> rw [List.getElem?_append_right (by omega)] <;> simp
set_option maxRecDepth 1000000 in
set_option maxHeartbeats 8000000 in
theorem markBitsS_more (g : Nat) (l : List BitD) (cap m lo hi : Nat) (rs0 : List BitsD) (r0 : List Value) (hm : m ≤ 1000) (hl : l.length ≤ 1048576) (hc : cntBs l ≤ 6000000) (hs : ∀ e ∈ l, SmallB e) (w : World) (hhi : hi ≤ w.heap.size) (h1 : lo ≤ g) (h2 : g < hi) (hb : BlockIs w g 60 (bitsCells rs0 ++ r0)) (hn : Nest w l rs0 lo hi) :
    Calls Try.prog 22 #[.slice (some ⟨g, 0, none⟩) l.length cap, .int .i64 m] w fun e w' => e = .returned (.int .i64 ((m + cntBs l : Nat) : Int)) ∧ (∃ rs, BlockIs w' g 60 (bitsCells rs ++ r0) ∧ Nest w' (markBs m l) rs lo hi) ∧ KeptBut lo hi w w' ∧ Below lo w w' := by
  have HB := hid hb
  have HN := hid hn
  have HSM := hid hs
  clear hb hn hs
  go_enter Try.func22, Try.ntmps22
  go_wp2
  go_loopg [1, 5] l.length (fun q y i wr => ∃ (k : Nat), k + q = l.length ∧ i = .int .i64 k ∧ y = .int .i64 ((m + cntBs (l.take k) : Nat) : Int) ∧ ∃ rs, Hid (BlockIs wr g 60 (bitsCells rs ++ r0)) ∧ Hid (Nest wr (markBs m (l.take k) ++ l.drop k) rs lo hi) ∧ Hid (KeptBut lo hi w wr) ∧ Hid (Below lo w wr))
  case atStart => exact ⟨0, by omega, rfl, rfl, rs0, HB, HN, (show KeptBut _ _ _ _ from fun _ _ _ _ h => h), (show Below _ _ _ from Below.refl _ _)⟩
  case round =>
    obtain ⟨k, hkg, rfl, rfl, rs, FB, NR, KR, BR⟩ := hrel
    clear HB HN
    cases gk with
    | zero =>
      have hlt : ¬ (k : Int) < (l.length : Int) := by omega
      rw [List.take_of_length_le (show l.length ≤ k by omega), List.drop_eq_nil_of_le (show l.length ≤ k by omega), List.append_nil] at NR
      rw [List.take_of_length_le (show l.length ≤ k by omega)]
      go_wp2
      go_ret
      exact ⟨rfl, ⟨rs, FB.out, NR.out⟩, KR.out, BR.out⟩
    | succ q =>
      have hlt : k < l.length := by omega
      have hlt' : (k : Int) < (l.length : Int) := by omega
      have hct := cntBs_take l k hlt
      have hcl := cntBs_le l (k + 1)
      have hmt := markBs_take m l k hlt
      rw [List.drop_eq_getElem_cons hlt] at NR
      have hsm := HSM.out _ (List.getElem_mem hlt)
      obtain ⟨e, he⟩ : ∃ e, l[k] = e := ⟨_, rfl⟩
      rw [he] at hct hmt NR hsm
      obtain ⟨K, hK⟩ : ∃ K, m + cntBs (l.take k) = K := ⟨_, rfl⟩
      have hKl : K + e.texts.length + e.ats.length ≤ 7000000 := by unfold cntB at hct; omega
      rw [hK] at hmt ⊢
      have HCT : Hid (m + cntBs (l.take (k + 1)) = K + e.texts.length + e.ats.length + 4) := (show _ = _ by unfold cntB at hct; omega)
      have HMT := hid hmt
      obtain ⟨rs1, R, rs2, a, b, hrs, n1, ob, n2⟩ := NR.out.split
      subst hrs
      obtain ⟨ta, tc, aa, ac, mi, hR, ot, oa, hm1, hm2⟩ := ob
      subst hR
      obtain ⟨hs1, hs2, _⟩ := hsm
      have hk1 : rs1.length = k := by rw [← n1.length, markBs_length, List.length_take]; omega
      have hla := n1.le
      have hbh := n2.le
      have hpl : (bitsCells rs1).length = k * 6 := by rw [bitsCells_length, hk1]
      have hcs : bitsCells (rs1 ++ rawB e ta tc aa ac :: rs2) ++ r0 = bitsCells rs1 ++ (.int .i64 e.src :: .int .i64 e.ident :: .slice ta e.texts.length tc :: .slice aa e.ats.length ac :: .int .i64 e.total :: .int .i64 e.lim :: (bitsCells rs2 ++ r0)) := by simp [bitsCells, bitsEnc, rawB]
      have fb := FB.out
      rw [hcs] at fb
      have hat := cell_mid (bitsCells rs1) (bitsCells rs2 ++ r0) (.int .i64 e.src) (.int .i64 e.ident) (.slice ta e.texts.length tc) (.slice aa e.ats.length ac) (.int .i64 e.total) (.int .i64 e.lim)
      have hset := cells_mid (bitsCells rs1) (bitsCells rs2 ++ r0) (.int .i64 e.src) (.int .i64 e.ident) (.slice ta e.texts.length tc) (.slice aa e.ats.length ac) (.int .i64 e.total) (.int .i64 e.lim) (.int .i64 (K : Int)) (.int .i64 ((K : Int) + 1)) (.int .i64 (((K + 2 + e.texts.length + e.ats.length : Nat)) : Int)) (.int .i64 ((((K + 2 + e.texts.length + e.ats.length : Nat)) : Int) + 1))
      rw [hpl] at hat hset
      obtain ⟨CS, hCS⟩ : ∃ cs, bitsCells rs1 ++ (.int .i64 e.src :: .int .i64 e.ident :: .slice ta e.texts.length tc :: .slice aa e.ats.length ac :: .int .i64 e.total :: .int .i64 e.lim :: (bitsCells rs2 ++ r0)) = cs := ⟨_, rfl⟩
      rw [hCS] at fb hat hset
      have x0 := fb.cell hat.1
      have f0 := fb.thaw (k * 6)
      have v1 := fb.set (k * 6) (.int .i64 (K : Int))
      have kp1 := set_kept (j := k * 6) fb h1 h2 (.int .i64 (K : Int))
      have bl1 : Below lo wr (wr.setCell ⟨g, k * 6, none⟩ (.int .i64 (K : Int))) := (Below.refl lo wr).setCell (p := ⟨g, k * 6, none⟩) h1 _
      obtain ⟨V1, hV1⟩ : ∃ W, wr.setCell ⟨g, k * 6, none⟩ (.int .i64 (K : Int)) = W := ⟨_, rfl⟩
      rw [hV1] at v1 kp1 bl1
      have x1 := v1.cell (bits_set_other hat.2.1 (by omega))
      have f1 := v1.thaw (k * 6 + 1)
      have v2 := v1.set (k * 6 + 1) (.int .i64 ((K : Int) + 1))
      have kp2 := set_kept (j := k * 6 + 1) v1 h1 h2 (.int .i64 ((K : Int) + 1))
      have bl2 := bl1.setCell (p := ⟨g, k * 6 + 1, none⟩) h1 (.int .i64 ((K : Int) + 1))
      obtain ⟨V2, hV2⟩ : ∃ W, V1.setCell ⟨g, k * 6 + 1, none⟩ (.int .i64 ((K : Int) + 1)) = W := ⟨_, rfl⟩
      rw [hV2] at v2 kp2 bl2
      have x2 := v2.cell (bits_set_other (bits_set_other hat.2.2.1 (by omega)) (by omega))
      have KP2 := hid (KeptBut.trans (kp1.but (Nat.le_refl _) (Nat.le_refl _)) (kp2.but (Nat.le_refl _) (Nat.le_refl _)))
      have N12 := hid ((n1.other (fun _ _ hb => kp1 _ _ _ (fun e => absurd e.1 (by decide)) hb) (fun _ _ hb => kp1 _ _ _ (fun e => absurd e.1 (by decide)) hb)).other (fun _ _ hb => kp2 _ _ _ (fun e => absurd e.1 (by decide)) hb) (fun _ _ hb => kp2 _ _ _ (fun e => absurd e.1 (by decide)) hb))
      have N22 := hid ((n2.other (fun _ _ hb => kp1 _ _ _ (fun e => absurd e.1 (by decide)) hb) (fun _ _ hb => kp1 _ _ _ (fun e => absurd e.1 (by decide)) hb)).other (fun _ _ hb => kp2 _ _ _ (fun e => absurd e.1 (by decide)) hb) (fun _ _ hb => kp2 _ _ _ (fun e => absurd e.1 (by decide)) hb))
      have OT2 := (ot.of kp1 (Or.inl (by decide))).of kp2 (Or.inl (by decide))
      have OA2 := hid ((oa.of kp1 (Or.inl (by decide))).of kp2 (Or.inl (by decide)))
      have BV2 := hid v2
      have BL2 := hid bl2
      have hsz2 : lo ≤ V2.heap.size := by have := bl2.size; have := BR.out.size; omega
      have haV : a ≤ V2.heap.size := by have := bl2.size; have := BR.out.size; omega
      have hmV : hi ≤ V2.heap.size := by have := bl2.size; have := BR.out.size; omega
      have CM := hid (markStringS_own ta e.texts tc (K + 2) a mi (by omega) hs1 V2 haV OT2)
      rw [show (((K + 2 : Nat)) : Int) = (K : Int) + 1 + 1 by omega] at CM
      have HAT := hid hat
      have HSET := hid hset
      have HCS := hid hCS
      have HPL := hid hpl
      clear ot oa v1 v2 kp1 kp2 bl1 bl2 fb hcs n1 n2 OT2 hat hset hCS hpl FB NR hct hcl hmt he
      go_wp2_with fail
      refine Calls.mono CM.out ?_
      rintro e9 w3 ⟨rfl, ot3, kp3, bl3⟩
      have bv3 := kp3 _ _ _ (fun e => absurd e.1 (by decide)) BV2.out
      have x3 := bv3.cell (bits_set_other (bits_set_other HAT.out.2.2.2.1 (by omega)) (by omega))
      have KP3 := hid (KeptBut.trans KP2.out (kp3.but hla (by omega)))
      have N13 := hid (N12.out.of kp3 (by omega))
      have N23 := hid (N22.out.of kp3 (by omega))
      have OA3 := OA2.out.of kp3 (Or.inl (by decide))
      have OT3 := hid ot3
      have BV3 := hid bv3
      have BL3 := hid (BL2.out.trans (bl3.mono hla))
      have haW : mi ≤ w3.heap.size := by have := bl3.size; omega
      have CI := hid (markIntS_own aa e.ats ac (K + 2 + e.texts.length) mi b (by omega) hs2 w3 haW OA3)
      obtain ⟨K2, hK2⟩ : ∃ K2, K + 2 + e.texts.length = K2 := ⟨_, rfl⟩
      have HK2 := hid hK2
      rw [hK2] at CI HSET ⊢
      clear CM x0 f0 x1 f1 x2 ot3 kp3 bl3 bv3 OA2 OA3 N12 N22 BV2 BL2 KP2 hV1 hV2 hK2
      go_wp2_with fail
      refine Calls.mono CI.out ?_
      rintro e9 w4 ⟨rfl, oa4, kp4, bl4⟩
      obtain ⟨K3, hK3⟩ : ∃ K3, K2 + e.ats.length = K3 := ⟨_, rfl⟩
      have HK3 := hid hK3
      rw [hK3] at HSET ⊢
      have hK3l : K3 ≤ 8000000 := by have := HK2.out; omega
      have bv4 := kp4 _ _ _ (fun e => absurd e.1 (by decide)) BV3.out
      have x4 := bv4.cell (bits_set_other (bits_set_other HAT.out.2.2.2.2.1 (by omega)) (by omega))
      have f4 := bv4.thaw (k * 6 + 4)
      have v5 := bv4.set (k * 6 + 4) (.int .i64 (K3 : Int))
      have kp5 := set_kept (j := k * 6 + 4) bv4 h1 h2 (.int .i64 (K3 : Int))
      have bl5 := (BL3.out.trans (bl4.mono (by omega))).setCell (p := ⟨g, k * 6 + 4, none⟩) h1 (.int .i64 (K3 : Int))
      obtain ⟨V5, hV5⟩ : ∃ W, w4.setCell ⟨g, k * 6 + 4, none⟩ (.int .i64 (K3 : Int)) = W := ⟨_, rfl⟩
      rw [hV5] at v5 kp5 bl5
      have x5 := v5.cell (bits_set_other (bits_set_other (bits_set_other HAT.out.2.2.2.2.2 (by omega)) (by omega)) (by omega))
      have f5 := v5.thaw (k * 6 + 5)
      have v6 := v5.set (k * 6 + 5) (.int .i64 ((K3 : Int) + 1))
      have kp6 := set_kept (j := k * 6 + 5) v5 h1 h2 (.int .i64 ((K3 : Int) + 1))
      have BL6 := hid (BR.out.trans (bl5.setCell (p := ⟨g, k * 6 + 5, none⟩) h1 (.int .i64 ((K3 : Int) + 1))))
      obtain ⟨V6, hV6⟩ : ∃ W, V5.setCell ⟨g, k * 6 + 5, none⟩ (.int .i64 ((K3 : Int) + 1)) = W := ⟨_, rfl⟩
      rw [hV6] at v6 kp6 BL6
      rw [HSET.out] at v6
      have o9 : ∀ {t : TypeId} {j : Nat} {cs : List Value}, t ≠ 60 → BlockIs w4 j t cs → BlockIs V6 j t cs := fun ht hb => kp6 _ _ _ (fun e => ht e.1) (kp5 _ _ _ (fun e => ht e.1) hb)
      have N16 := (N13.out.of kp4 (by omega)).other (fun _ _ hb => o9 (by decide) hb) (fun _ _ hb => o9 (by decide) hb)
      have N26 := (N23.out.of kp4 (by omega)).other (fun _ _ hb => o9 (by decide) hb) (fun _ _ hb => o9 (by decide) hb)
      have OT6 := (OT3.out.of kp4 (Or.inl (by decide))).other (fun _ _ hb => o9 (by decide) hb)
      have OA6 := oa4.other (w1 := V6) (fun _ _ hb => o9 (by decide) hb)
      have KP6 := hid (KeptBut.trans KR.out (KeptBut.trans KP3.out (KeptBut.trans (kp4.but (by omega) (by omega)) (KeptBut.trans (kp5.but (Nat.le_refl _) (Nat.le_refl _)) (kp6.but (Nat.le_refl _) (Nat.le_refl _))))))
      have hmb : markB K e = ⟨(K : Int), (K + 1 : Nat), tmarks (K + 2) e.texts.length, countFrom K2 e.ats.length, (K3 : Int), (K3 + 1 : Nat)⟩ := by rw [markB, HK2.out, HK3.out]
      have OB6 : OwnB V6 (markB K e) (rawB (markB K e) ta tc aa ac) a b := by
        rw [hmb]
        refine ⟨ta, tc, aa, ac, mi, rfl, ?_, ?_, hm1, hm2⟩
        · show OwnAt V6 9 (st (tmarks (K + 2) e.texts.length)) (tmarks (K + 2) e.texts.length).length ta a mi
          rw [tmarks_length]
          exact OT6
        · show OwnAt V6 3 (intCells (countFrom K2 e.ats.length)) (countFrom K2 e.ats.length).length aa mi b
          rw [countFrom_length]
          exact OA6
      have NN := hid (Nest.join OB6 N26 N16)
      have FB6 : Hid (BlockIs V6 g 60 (bitsCells (rs1 ++ rawB (markB K e) ta tc aa ac :: rs2) ++ r0)) := by
        have hq : bitsCells (rs1 ++ rawB (markB K e) ta tc aa ac :: rs2) ++ r0 = bitsCells rs1 ++ (.int .i64 (K : Int) :: .int .i64 ((K : Int) + 1) :: .slice ta e.texts.length tc :: .slice aa e.ats.length ac :: .int .i64 (K3 : Int) :: .int .i64 ((K3 : Int) + 1) :: (bitsCells rs2 ++ r0)) := by
          rw [hmb]
          simp [bitsCells, bitsEnc, rawB, tmarks_length, countFrom_length]
        show BlockIs _ _ _ _
        rw [hq]
        exact v6
      have HST : Hid (markBs m (l.take (k + 1)) ++ l.drop (k + 1) = markBs m (l.take k) ++ markB K e :: l.drop (k + 1)) := (show _ = _ by rw [HMT.out, List.append_assoc]; rfl)
      have HY : Hid (m + cntBs (l.take (k + 1)) = K3 + 2) := (show _ = _ by rw [HCT.out]; have := HK2.out; have := HK3.out; omega)
      clear CI x3 oa4 kp4 bl4 bv4 kp5 bl5 v5 v6 kp6 N16 N26 OT6 OA6 OB6 hmb BV3 BL3 N13 N23 OT3 KP3 KR BR
      go_wp2
      go_roundg q
      case measure => omega
      case rel => exact ⟨k + 1, by omega, by go_num, by rw [HY.out]; go_num, rs1 ++ rawB (markB K e) ta tc aa ac :: rs2, FB6, by rw [HST.out]; exact NN, KP6, BL6⟩
end Go.Proofs.Ytpknpodmoeaggab
