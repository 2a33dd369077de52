/-
  The walk of spec.ReadJournal: what it answers, in memory of its own.
-/
import Derived.Test.YtbifkpkhpaellaaGreatDoorJoint14
import Derived.Test.YtbifkpkhpaellaaGreatDoorJoint23
import Derived.Test.YtbifkpkhpaellaaGreatDoorJoint19
import Derived.Test.YtbifkpkhpaellaaGreatDoorJoint25
import Derived.Test.YtbifkpkhpaellaaGreatDoorJoint1
namespace Go.Proofs.YtbifkpkhpaellaaGreatDoor
open Go.RowKit

/-- texts in a block -/
def TextsIn (w : World) (g : Nat) (ts : List ByteArray) : Prop := ∃ cur, BlockIs w g 9 cur ∧ ∀ k (hk : k < ts.length), cur[k]? = some (.string ts[k])
theorem TextsIn.lt {w : World} {g : Nat} {ts : List ByteArray} (h : TextsIn w g ts) : g < w.heap.size := h.choose_spec.1.lt
theorem TextsIn.on {x y : World} {g n : Nat} {ts : List ByteArray} (h : TextsIn x g ts) (hb : Below n x y) (hn : g < n) : TextsIn y g ts :=
  ⟨h.choose, h.choose_spec.1.on hb hn, h.choose_spec.2⟩
theorem TextsIn.cell {w : World} {g : Nat} {ts : List ByteArray} (h : TextsIn w g ts) (k : Nat) (hk : k < ts.length) : w.cell? ⟨g, k, none⟩ = some (.string ts[k]) := by
  obtain ⟨cur, h1, h2⟩ := h
  exact h1.cell (h2 k hk)
theorem texts_in {w : World} {base : Nat} {v : Value} {ts : List ByteArray} (h : w.ownsRow base 9 1 v ts.length (st ts)) (h0 : ts ≠ []) : ∃ g c, v = .slice (some ⟨g, 0, none⟩) ts.length c ∧ base ≤ g ∧ TextsIn w g ts := by
  rcases h with ⟨_, ⟨_, h2⟩ | ⟨g, cap, cur, h1, h2, h3, h4, h5, h6, h7⟩⟩
  · exact absurd (List.eq_nil_of_length_eq_zero h2) h0
  · refine ⟨g, cap, h1, h2, cur.toList, ?_, fun k hk => ?_⟩
    · unfold BlockIs; rw [h3]
    · have e : (cur.toList.take (ts.length * 1))[k]? = (st ts)[k]? := by rw [h7]
      rw [List.getElem?_take_of_lt (by omega)] at e
      rw [e]
      simp [st, hk]

/-- how far the loop has come -/
def RjAt (o : Option (JouD × Nat)) (j0 : JouD) (rs : List ByteArray) (k : Nat) (jd : JouD) (E : Nat) : Prop := match k with
  | 0 => jd = j0 ∧ E = 0
  | k + 1 => o = some (tellAll jd E (rs.drop k))
theorem RjAt.first {o : Option (JouD × Nat)} {j0 jd : JouD} {r : ByteArray} {rs : List ByteArray} {E : Nat} (hy : o = some (tellAll j0 (frm r).size rs)) (h : RjAt o j0 rs 0 jd E) : RjAt o j0 rs 1 jd (E + (frm r).size) := by
  obtain ⟨rfl, rfl⟩ := h
  rw [Nat.zero_add]
  exact hy
theorem rs_drop {r R : ByteArray} {rs : List ByteArray} {m : Nat} (hk : m + 1 < (r :: rs).length) (hR : (r :: rs)[m + 1] = R) : rs.drop m = R :: rs.drop (m + 1) := by
  rw [List.drop_eq_getElem_cons (by simpa using hk)]
  have : rs[m]'(by simpa using hk) = R := by simpa using hR
  rw [this]
theorem RjAt.more {o : Option (JouD × Nat)} {j0 jd jd2 : JouD} {r R : ByteArray} {rs : List ByteArray} {E k : Nat} (hk : k < (r :: rs).length) (h0 : ¬ k = 0) (hR : (r :: rs)[k] = R) (h : RjAt o j0 rs k jd E) (hm : tellMore jd R = some jd2) : RjAt o j0 rs (k + 1) jd2 (E + (frm R).size) := by
  cases k with
  | zero => exact absurd rfl h0
  | succ m =>
    have h : o = some (tellAll jd E (rs.drop m)) := h
    show o = some (tellAll jd2 (E + (frm R).size) (rs.drop (m + 1)))
    rw [h, rs_drop hk hR, tellAll_more hm]
theorem RjAt.stop {o : Option (JouD × Nat)} {j0 jd : JouD} {r R : ByteArray} {rs : List ByteArray} {E k : Nat} (hk : k < (r :: rs).length) (h0 : ¬ k = 0) (hR : (r :: rs)[k] = R) (h : RjAt o j0 rs k jd E) (hm : tellMore jd R = none) : o = some (jd, E) := by
  cases k with
  | zero => exact absurd rfl h0
  | succ m =>
    have h : o = some (tellAll jd E (rs.drop m)) := h
    rw [h, rs_drop hk hR, tellAll_no hm]
theorem RjAt.done {o : Option (JouD × Nat)} {j0 jd : JouD} {rs : List ByteArray} {E k : Nat} (hk : rs.length + 1 ≤ k) (h : RjAt o j0 rs k jd E) : o = some (jd, E) := by
  cases k with
  | zero => omega
  | succ m =>
    have h : o = some (tellAll jd E (rs.drop m)) := h
    rw [h, List.drop_eq_nil_of_le (by omega), tellAll]
theorem JBox.on {x y : World} {b lo : Nat} {jd : JouD} (h : JBox x b lo jd) (hb : Below x.heap.size x y) : JBox y b lo jd := by
  obtain ⟨vo, vc, h1, h2, h3⟩ := h
  exact ⟨vo, vc, h1.on hb h1.lt, h2, own_grow h3 hb⟩
/-- what both answer -/
def rjDid (o : Option (JouD × Nat)) (w : World) (e : Ending) (w' : World) : Prop := match o with
  | none => e = .returned (.tuple #[.agg #[.int .i64 0, .int .i64 0, .int .i64 0, .int .i64 0, .int .i64 0, .slice none 0 0], .int .i64 0, .bool false]) ∧ Below w.heap.size w w'
  | some (j, k) => ∃ vo vc, e = .returned (.tuple #[.agg #[.int .i64 j.n, .int .i64 j.tm, .int .i64 j.vt, .int .i64 j.s, .int .i64 j.t, .slice vo j.l.length vc], .int .i64 k, .bool true]) ∧ j.l.length ≤ vc ∧ OwnAt w' 110 (entCells j.l) j.l.length vo w.heap.size w'.heap.size ∧ Below w.heap.size w w'

set_option maxRecDepth 1000000 in
set_option maxHeartbeats 4000000 in
theorem specReadJournal_any (n : Int) (s : ByteArray) (hs : s.size ≤ 1048576) (w : World) : Calls Tryz.prog 21 #[.int .i64 n, .string s] w fun e w' => rjDid (readJ n s) w e w' := by
  have hx0 : BlockIs (w.alloc (.cells #[.int .i64 0, .int .i64 0, .int .i64 0, .int .i64 0, .int .i64 0, .slice none 0 0] 30)) w.heap.size 30 [.int .i64 0, .int .i64 0, .int .i64 0, .int .i64 0, .int .i64 0, .slice none 0 0] := heap_alloc_new w _
  have B0 := hid (below_more (Below.refl w.heap.size w) (.cells #[.int .i64 0, .int .i64 0, .int .i64 0, .int .i64 0, .int .i64 0, .slice none 0 0] 30))
  have X0 := hid hx0
  clear hx0
  go_enter Tryz.func21, Tryz.ntmps21
  go_wp2_with fail
  refine (specUnframe_any s hs _).mono ?_
  rintro e w1 ⟨v, rfl, ho, b1⟩
  have X1 := hid (X0.out.on b1 X0.out.lt)
  have B1 := hid (below_via B0.out b1)
  have hlo : w.heap.size + 1 ≤ (w.alloc (.cells #[.int .i64 0, .int .i64 0, .int .i64 0, .int .i64 0, .int .i64 0, .slice none 0 0] 30)).heap.size := by simp [World.alloc, -World.alloc_eq]
  have HO := hid (row_down ho hlo)
  have hlen := ufT_len s
  have HSZ := hid (fun r (h : r ∈ ufT s) => ufT_size h)
  clear b1 X0 B0 ho hlo
  cases hn : within n 0 999 with
  | false =>
    have HR := hid (readJ_n (s := s) hn)
    go_wp2_with fail
    refine (l01In_any n 0 999 _).mono ?_
    rintro e w2 ⟨rfl, hw⟩
    rw [hw, hn]
    clear hw w2 hn
    have c0 := X1.out.cell (j := 0) rfl
    have fc0 := X1.out.thaw 0
    have c1 := X1.out.cell (j := 1) rfl
    have fc1 := X1.out.thaw 1
    have c2 := X1.out.cell (j := 2) rfl
    have fc2 := X1.out.thaw 2
    have c3 := X1.out.cell (j := 3) rfl
    have fc3 := X1.out.thaw 3
    have c4 := X1.out.cell (j := 4) rfl
    have fc4 := X1.out.thaw 4
    have c5 := X1.out.cell (j := 5) rfl
    have fc5 := X1.out.thaw 5
    have BL := hid (((((((B1.out.setCell (p := ⟨w.heap.size, 0, none⟩) (Nat.le_refl _) (.int .i64 0)).setCell (p := ⟨w.heap.size, 1, none⟩) (Nat.le_refl _) (.int .i64 0)).setCell (p := ⟨w.heap.size, 2, none⟩) (Nat.le_refl _) (.int .i64 0)).setCell (p := ⟨w.heap.size, 3, none⟩) (Nat.le_refl _) (.int .i64 0)).setCell (p := ⟨w.heap.size, 4, none⟩) (Nat.le_refl _) (.int .i64 0)).setCell (p := ⟨w.heap.size, 5, none⟩) (Nat.le_refl _) (.slice none 0 0)))
    go_wp2
    refine bodyPost_ret (v := .tuple #[.agg #[.int .i64 0, .int .i64 0, .int .i64 0, .int .i64 0, .int .i64 0, .slice none 0 0], .int .i64 0, .bool false]) (by simp [results, Tryz.results21, go_sem, c0, c1, c2, c3, c4, c5]) rfl ?_
    rw [HR.out]
    exact ⟨rfl, BL.out⟩
  | true =>
    cases hts : ufT s with
    | nil =>
      have HR := hid (readJ_nil (n := n) hts)
      rw [hts] at HO
      obtain ⟨va, vc, rfl⟩ := row_shape HO.out
      go_wp2_with fail
      refine (l01In_any n 0 999 _).mono ?_
      rintro e w2 ⟨rfl, hw⟩
      rw [hw, hn]
      clear hw w2 hn
      have c0 := X1.out.cell (j := 0) rfl
      have fc0 := X1.out.thaw 0
      have c1 := X1.out.cell (j := 1) rfl
      have fc1 := X1.out.thaw 1
      have c2 := X1.out.cell (j := 2) rfl
      have fc2 := X1.out.thaw 2
      have c3 := X1.out.cell (j := 3) rfl
      have fc3 := X1.out.thaw 3
      have c4 := X1.out.cell (j := 4) rfl
      have fc4 := X1.out.thaw 4
      have c5 := X1.out.cell (j := 5) rfl
      have fc5 := X1.out.thaw 5
      have BL := hid (((((((B1.out.setCell (p := ⟨w.heap.size, 0, none⟩) (Nat.le_refl _) (.int .i64 0)).setCell (p := ⟨w.heap.size, 1, none⟩) (Nat.le_refl _) (.int .i64 0)).setCell (p := ⟨w.heap.size, 2, none⟩) (Nat.le_refl _) (.int .i64 0)).setCell (p := ⟨w.heap.size, 3, none⟩) (Nat.le_refl _) (.int .i64 0)).setCell (p := ⟨w.heap.size, 4, none⟩) (Nat.le_refl _) (.int .i64 0)).setCell (p := ⟨w.heap.size, 5, none⟩) (Nat.le_refl _) (.slice none 0 0)))
      go_wp2
      refine bodyPost_ret (v := .tuple #[.agg #[.int .i64 0, .int .i64 0, .int .i64 0, .int .i64 0, .int .i64 0, .slice none 0 0], .int .i64 0, .bool false]) (by simp [results, Tryz.results21, go_sem, c0, c1, c2, c3, c4, c5]) rfl ?_
      rw [HR.out]
      exact ⟨rfl, BL.out⟩
    | cons r rs =>
      obtain ⟨g, vc, rfl, hg, hT⟩ := texts_in HO.out (by rw [hts]; simp)
      rw [hts] at hT HSZ hlen
      have hl1 : (ufT s).length = rs.length + 1 := by rw [hts]; rfl
      rw [hl1]
      obtain ⟨N, hN⟩ : ∃ N, rs.length + 1 = N := ⟨_, rfl⟩
      rw [hN]
      have hN0 : ¬ N = 0 := by omega
      have hr := HSZ.out r (by simp)
      have T1 := hid hT
      have t0 := hT.cell 0 (by simp)
      simp only [List.getElem_cons_zero] at t0
      clear HO hT hl1
      go_wp2_with fail
      refine (l01In_any n 0 999 _).mono ?_
      rintro e w2 ⟨rfl, hw⟩
      rw [hw, hn]
      clear hw w2
      go_wp2_with fail
      refine (l07Two_any 66 r (by omega) _).mono ?_
      rintro e w2 ⟨rfl, b2⟩
      have X2 := hid (X1.out.on b2 X1.out.lt)
      have B2 := hid (below_via B1.out b2)
      have T2 := hid (T1.out.on b2 T1.out.lt)
      clear b2 X1 B1 T1 t0
      cases h2 : readTwo 66 r with
      | none =>
        have HR := hid (readJ_two (n := n) hts h2)
        rw [show twoAns none = .tuple #[.int .i64 0, .int .i64 0, .bool false] from rfl]
        have bx := below_more (Below.refl w2.heap.size w2) (.cells #[.int .i64 n, .int .i64 0, .int .i64 0, .int .i64 0, .int .i64 0, .slice none 0 0] 30)
        have X3 := hid (X2.out.on bx X2.out.lt)
        have B3 := hid (below_via B2.out bx)
        clear bx X2 B2 T2 h2 hts hn
        have c0 := X3.out.cell (j := 0) rfl
        have fc0 := X3.out.thaw 0
        have c1 := X3.out.cell (j := 1) rfl
        have fc1 := X3.out.thaw 1
        have c2 := X3.out.cell (j := 2) rfl
        have fc2 := X3.out.thaw 2
        have c3 := X3.out.cell (j := 3) rfl
        have fc3 := X3.out.thaw 3
        have c4 := X3.out.cell (j := 4) rfl
        have fc4 := X3.out.thaw 4
        have c5 := X3.out.cell (j := 5) rfl
        have fc5 := X3.out.thaw 5
        have BL := hid (((((((B3.out.setCell (p := ⟨w.heap.size, 0, none⟩) (Nat.le_refl _) (.int .i64 0)).setCell (p := ⟨w.heap.size, 1, none⟩) (Nat.le_refl _) (.int .i64 0)).setCell (p := ⟨w.heap.size, 2, none⟩) (Nat.le_refl _) (.int .i64 0)).setCell (p := ⟨w.heap.size, 3, none⟩) (Nat.le_refl _) (.int .i64 0)).setCell (p := ⟨w.heap.size, 4, none⟩) (Nat.le_refl _) (.int .i64 0)).setCell (p := ⟨w.heap.size, 5, none⟩) (Nat.le_refl _) (.slice none 0 0)))
        go_wp2
        refine bodyPost_ret (v := .tuple #[.agg #[.int .i64 0, .int .i64 0, .int .i64 0, .int .i64 0, .int .i64 0, .slice none 0 0], .int .i64 0, .bool false]) (by simp [results, Tryz.results21, go_sem, c0, c1, c2, c3, c4, c5]) rfl ?_
        rw [HR.out]
        exact ⟨rfl, BL.out⟩
      | some p =>
        obtain ⟨a, b'⟩ := p
        rw [show twoAns (some (a, b')) = .tuple #[.int .i64 a, .int .i64 b', .bool true] from rfl]
        have bx := below_more (Below.refl w2.heap.size w2) (.cells #[.int .i64 n, .int .i64 0, .int .i64 0, .int .i64 a, .int .i64 b', .slice none 0 0] 30)
        have XJ : Hid (BlockIs (w2.alloc (.cells #[.int .i64 n, .int .i64 0, .int .i64 0, .int .i64 a, .int .i64 b', .slice none 0 0] 30)) w2.heap.size 30 [.int .i64 n, .int .i64 0, .int .i64 0, .int .i64 a, .int .i64 b', .slice none 0 0]) := heap_alloc_new w2 _
        have X3 := hid (X2.out.on bx X2.out.lt)
        have B3 := hid (below_via B2.out bx)
        have T3 := hid (T2.out.on bx T2.out.lt)
        have HG : Hid (g < w2.heap.size) := T2.out.lt
        have HW : Hid (w.heap.size < w2.heap.size) := X2.out.lt
        clear bx X2 B2 T2
        cases h3 : logOk a b' [] with
        | false =>
          have HR := hid (readJ_log (n := n) hts h2 h3)
          clear h2 hts hn
          go_wp2_with fail
          refine (specLogOk_any a b' none [] 0 (by simp) (by simp) _ (fun h => absurd rfl h)).mono ?_
          rintro e w4 ⟨rfl, b4⟩
          rw [h3]
          have X4 := hid (X3.out.on b4 X3.out.lt)
          have B4 := hid (below_via B3.out b4)
          clear b4 X3 B3 h3
          have c0 := X4.out.cell (j := 0) rfl
          have fc0 := X4.out.thaw 0
          have c1 := X4.out.cell (j := 1) rfl
          have fc1 := X4.out.thaw 1
          have c2 := X4.out.cell (j := 2) rfl
          have fc2 := X4.out.thaw 2
          have c3 := X4.out.cell (j := 3) rfl
          have fc3 := X4.out.thaw 3
          have c4 := X4.out.cell (j := 4) rfl
          have fc4 := X4.out.thaw 4
          have c5 := X4.out.cell (j := 5) rfl
          have fc5 := X4.out.thaw 5
          have BL := hid (((((((B4.out.setCell (p := ⟨w.heap.size, 0, none⟩) (Nat.le_refl _) (.int .i64 0)).setCell (p := ⟨w.heap.size, 1, none⟩) (Nat.le_refl _) (.int .i64 0)).setCell (p := ⟨w.heap.size, 2, none⟩) (Nat.le_refl _) (.int .i64 0)).setCell (p := ⟨w.heap.size, 3, none⟩) (Nat.le_refl _) (.int .i64 0)).setCell (p := ⟨w.heap.size, 4, none⟩) (Nat.le_refl _) (.int .i64 0)).setCell (p := ⟨w.heap.size, 5, none⟩) (Nat.le_refl _) (.slice none 0 0)))
          go_wp2
          refine bodyPost_ret (v := .tuple #[.agg #[.int .i64 0, .int .i64 0, .int .i64 0, .int .i64 0, .int .i64 0, .slice none 0 0], .int .i64 0, .bool false]) (by simp [results, Tryz.results21, go_sem, c0, c1, c2, c3, c4, c5]) rfl ?_
          rw [HR.out]
          exact ⟨rfl, BL.out⟩
        | true =>
          have HY := hid (readJ_yes hn hts h2 h3)
          clear h2 hts hn
          go_wp2_with fail
          refine (specLogOk_any a b' none [] 0 (by simp) (by simp) _ (fun h => absurd rfl h)).mono ?_
          rintro e w4 ⟨rfl, b4⟩
          rw [h3]
          have X4 := hid (X3.out.on b4 X3.out.lt)
          have B4 := hid (below_via B3.out b4)
          have T4 := hid (T3.out.on b4 T3.out.lt)
          have J4 : Hid (JBox w4 w2.heap.size w.heap.size ⟨n, 0, 0, a, b', []⟩) := ⟨none, 0, XJ.out.on b4 XJ.out.lt, Nat.le_refl _, Or.inl rfl⟩
          clear b4 X3 B3 T3 XJ h3
          generalize w2.heap.size = q at *
          go_wp2
          go_loopw [13, 14, 15, 16] (fun en i _ _ wr => ∃ (k E : Nat) (jd : JouD), k ≤ N ∧ i = .int .i64 k ∧ en = .int .i64 E ∧ E ≤ k * 9100 ∧ jd.l.length ≤ k ∧ Hid (∀ f ∈ jd.l, f.data.size ≤ 1048576) ∧ Hid (RjAt (readJ n s) ⟨n, 0, 0, a, b', []⟩ rs k jd E) ∧ Hid (JBox wr q w.heap.size jd) ∧ Hid (TextsIn wr g (r :: rs)) ∧ Hid (BlockIs wr w.heap.size 30 [.int .i64 0, .int .i64 0, .int .i64 0, .int .i64 0, .int .i64 0, .slice none 0 0]) ∧ Hid (Below w.heap.size w wr)) (fun _ i _ _ _ => N - (intOf i).toNat)
          case atStart => exact ⟨0, 0, _, Nat.zero_le _, rfl, rfl, Nat.zero_le _, Nat.le_refl _, hid (by simp), hid ⟨rfl, rfl⟩, J4, T4, X4, B4⟩
          case round =>
            clear X4 B4 T4 J4
            obtain ⟨k, E, jd, hk, rfl, rfl, hE, hjl, HS, HI, HJ, HT, HX, HB⟩ := hrel
            by_cases hlt : k < N
            · have hlt' : (k : Int) < (N : Int) := by omega
              have hkl : k < (r :: rs).length := by simp; omega
              have tk := HT.out.cell k hkl
              obtain ⟨R, hR⟩ : ∃ R, (r :: rs)[k] = R := ⟨_, rfl⟩
              rw [hR] at tk
              have hRs := HSZ.out R (by rw [← hR]; exact List.getElem_mem _)
              have hFl := frm_len (t := R) hRs.2
              obtain ⟨E', hE'⟩ : ∃ E' : Nat, E + (frm R).size = E' := ⟨_, rfl⟩
              obtain ⟨F, hF⟩ : ∃ F, frm R = F := ⟨_, rfl⟩
              rw [hF] at hFl hE'
              have hE6 : Hid (E' ≤ (k + 1) * 9100) := (show _ ≤ _ by omega)
              have hEE : Hid ((E : Int) + (F.size : Int) = (E' : Int)) := (show _ = _ by omega)
              have HE := hid hE'
              clear hE'
              by_cases hk0 : k = 0
              · have hgt : ¬ (0 : Int) < (k : Int) := by omega
                have HI6 : Hid (RjAt (readJ n s) ⟨n, 0, 0, a, b', []⟩ rs (k + 1) jd E') := by
                  subst hk0
                  rw [← HE.out, ← hF, ← hR]
                  exact RjAt.first HY.out HI.out
                have HL : Hid (jd.l.length ≤ k + 1) := Nat.le_succ_of_le hjl
                have HS6 := HS
                clear HI hR hk0
                go_wp2_with fail
                refine (specFrame_yes R hRs.1 hRs.2 _).mono ?_
                rintro e w6 ⟨rfl, b6⟩
                have X5 := HX
                have B5 := HB
                have T5 := HT
                have J5 := HJ
                clear HX HB HT HJ tk HY
                rw [hF]
                have X6 := hid (X5.out.on b6 X5.out.lt)
                have B6 := hid (below_via B5.out b6)
                have T6 := hid (T5.out.on b6 T5.out.lt)
                have J6 := hid (J5.out.on b6)
                clear b6 X5 B5 T5 J5
                clear hF
                go_wp2
                go_roundw
                case rel => exact ⟨k + 1, E', jd, by omega, by go_num, congrArg (Value.int .i64) hEE.out, hE6.out, HL.out, HS6, HI6, J6, T6, X6, B6⟩
                case measure => simp [intOf]; omega
              · have hgt : (0 : Int) < (k : Int) := by omega
                go_wp2_with fail
                refine (l07More_any q w.heap.size jd R (by omega) (by omega) HS.out (by have := HW.out; omega) _ HJ.out).mono ?_
                rintro e w5 ⟨rfl, hj5, b5⟩
                have X5 := hid (HX.out.on b5 HW.out)
                have B5 := hid (HB.out.trans (b5.mono (Nat.le_of_lt HW.out)))
                have T5 := hid (HT.out.on b5 HG.out)
                clear b5 HX HB HT HJ tk HY
                cases hm : tellMore jd R with
                | none =>
                  have HR := hid (RjAt.stop hkl hk0 hR HI.out hm)
                  rw [hm] at hj5
                  obtain ⟨vo, vc', xj, hvc, oj⟩ := hj5
                  have XJ := hid xj
                  have OJ := hid oj
                  clear xj oj HI hR hm T5 HS
                  rw [show (none : Option JouD).isSome = false from rfl]
                  have c0 := X5.out.cell (j := 0) rfl
                  have fc0 := X5.out.thaw 0
                  have c1 := X5.out.cell (j := 1) rfl
                  have fc1 := X5.out.thaw 1
                  have c2 := X5.out.cell (j := 2) rfl
                  have fc2 := X5.out.thaw 2
                  have c3 := X5.out.cell (j := 3) rfl
                  have fc3 := X5.out.thaw 3
                  have c4 := X5.out.cell (j := 4) rfl
                  have fc4 := X5.out.thaw 4
                  have c5 := X5.out.cell (j := 5) rfl
                  have fc5 := X5.out.thaw 5
                  have d0 := XJ.out.cell (j := 0) rfl
                  have d1 := XJ.out.cell (j := 1) rfl
                  have d2 := XJ.out.cell (j := 2) rfl
                  have d3 := XJ.out.cell (j := 3) rfl
                  have d4 := XJ.out.cell (j := 4) rfl
                  have d5 := XJ.out.cell (j := 5) rfl
                  have BE := hid (((((((B5.out.setCell (p := ⟨w.heap.size, 0, none⟩) (Nat.le_refl _) (.int .i64 jd.n)).setCell (p := ⟨w.heap.size, 1, none⟩) (Nat.le_refl _) (.int .i64 jd.tm)).setCell (p := ⟨w.heap.size, 2, none⟩) (Nat.le_refl _) (.int .i64 jd.vt)).setCell (p := ⟨w.heap.size, 3, none⟩) (Nat.le_refl _) (.int .i64 jd.s)).setCell (p := ⟨w.heap.size, 4, none⟩) (Nat.le_refl _) (.int .i64 jd.t)).setCell (p := ⟨w.heap.size, 5, none⟩) (Nat.le_refl _) (.slice vo jd.l.length vc')))
                  have OE := hid ((own_other (b := w.heap.size) (j := 5) (u := .slice vo jd.l.length vc') (own_other (b := w.heap.size) (j := 4) (u := .int .i64 jd.t) (own_other (b := w.heap.size) (j := 3) (u := .int .i64 jd.s) (own_other (b := w.heap.size) (j := 2) (u := .int .i64 jd.vt) (own_other (b := w.heap.size) (j := 1) (u := .int .i64 jd.tm) (own_other (b := w.heap.size) (j := 0) (u := .int .i64 jd.n) OJ.out X5.out (by decide)) (X5.out.set 0 (.int .i64 jd.n)) (by decide)) ((X5.out.set 0 (.int .i64 jd.n)).set 1 (.int .i64 jd.tm)) (by decide)) (((X5.out.set 0 (.int .i64 jd.n)).set 1 (.int .i64 jd.tm)).set 2 (.int .i64 jd.vt)) (by decide)) ((((X5.out.set 0 (.int .i64 jd.n)).set 1 (.int .i64 jd.tm)).set 2 (.int .i64 jd.vt)).set 3 (.int .i64 jd.s)) (by decide)) (((((X5.out.set 0 (.int .i64 jd.n)).set 1 (.int .i64 jd.tm)).set 2 (.int .i64 jd.vt)).set 3 (.int .i64 jd.s)).set 4 (.int .i64 jd.t)) (by decide)))
                  go_wp2
                  refine bodyPost_ret (v := .tuple #[.agg #[.int .i64 jd.n, .int .i64 jd.tm, .int .i64 jd.vt, .int .i64 jd.s, .int .i64 jd.t, .slice vo jd.l.length vc'], .int .i64 E, .bool true]) (by simp [results, Tryz.results21, go_sem, c0, c1, c2, c3, c4, c5]) rfl ?_
                  rw [HR.out]
                  exact ⟨vo, vc', rfl, hvc, OE.out, BE.out⟩
                | some j2 =>
                  have hg2 := tell_grows (by omega) HS.out hm
                  have HI6 : Hid (RjAt (readJ n s) ⟨n, 0, 0, a, b', []⟩ rs (k + 1) j2 E') := by
                    rw [← HE.out, ← hF]
                    exact RjAt.more hkl hk0 hR HI.out hm
                  have HL : Hid (j2.l.length ≤ k + 1) := Nat.le_trans hg2.1 (Nat.succ_le_succ hjl)
                  have HS6 := hid hg2.2
                  rw [hm] at hj5
                  have J5 : Hid (JBox w5 q w.heap.size j2) := hj5
                  have tk := T5.out.cell k hkl
                  rw [hR] at tk
                  rw [show (some j2 : Option JouD).isSome = true from rfl]
                  clear HI hR hm HS hg2 hj5
                  go_wp2_with fail
                  refine (specFrame_yes R hRs.1 hRs.2 _).mono ?_
                  rintro e w6 ⟨rfl, b6⟩
                  rw [hF]
                  have X6 := hid (X5.out.on b6 X5.out.lt)
                  have B6 := hid (below_via B5.out b6)
                  have T6 := hid (T5.out.on b6 T5.out.lt)
                  have J6 := hid (J5.out.on b6)
                  clear b6 X5 B5 T5 J5
                  clear hF
                  go_wp2
                  go_roundw
                  case rel => exact ⟨k + 1, E', j2, by omega, by go_num, congrArg (Value.int .i64) hEE.out, hE6.out, HL.out, HS6, HI6, J6, T6, X6, B6⟩
                  case measure => simp [intOf]; omega
            · have hge : ¬ (k : Int) < (N : Int) := by omega
              have HR := hid (RjAt.done (by omega) HI.out)
              obtain ⟨vo, vc', xj, hvc, oj⟩ := HJ.out
              have XJ := hid xj
              have OJ := hid oj
              clear xj oj HI HT HS HJ HY
              have c0 := HX.out.cell (j := 0) rfl
              have fc0 := HX.out.thaw 0
              have c1 := HX.out.cell (j := 1) rfl
              have fc1 := HX.out.thaw 1
              have c2 := HX.out.cell (j := 2) rfl
              have fc2 := HX.out.thaw 2
              have c3 := HX.out.cell (j := 3) rfl
              have fc3 := HX.out.thaw 3
              have c4 := HX.out.cell (j := 4) rfl
              have fc4 := HX.out.thaw 4
              have c5 := HX.out.cell (j := 5) rfl
              have fc5 := HX.out.thaw 5
              have d0 := XJ.out.cell (j := 0) rfl
              have d1 := XJ.out.cell (j := 1) rfl
              have d2 := XJ.out.cell (j := 2) rfl
              have d3 := XJ.out.cell (j := 3) rfl
              have d4 := XJ.out.cell (j := 4) rfl
              have d5 := XJ.out.cell (j := 5) rfl
              have BE := hid (((((((HB.out.setCell (p := ⟨w.heap.size, 0, none⟩) (Nat.le_refl _) (.int .i64 jd.n)).setCell (p := ⟨w.heap.size, 1, none⟩) (Nat.le_refl _) (.int .i64 jd.tm)).setCell (p := ⟨w.heap.size, 2, none⟩) (Nat.le_refl _) (.int .i64 jd.vt)).setCell (p := ⟨w.heap.size, 3, none⟩) (Nat.le_refl _) (.int .i64 jd.s)).setCell (p := ⟨w.heap.size, 4, none⟩) (Nat.le_refl _) (.int .i64 jd.t)).setCell (p := ⟨w.heap.size, 5, none⟩) (Nat.le_refl _) (.slice vo jd.l.length vc')))
              have OE := hid ((own_other (b := w.heap.size) (j := 5) (u := .slice vo jd.l.length vc') (own_other (b := w.heap.size) (j := 4) (u := .int .i64 jd.t) (own_other (b := w.heap.size) (j := 3) (u := .int .i64 jd.s) (own_other (b := w.heap.size) (j := 2) (u := .int .i64 jd.vt) (own_other (b := w.heap.size) (j := 1) (u := .int .i64 jd.tm) (own_other (b := w.heap.size) (j := 0) (u := .int .i64 jd.n) OJ.out HX.out (by decide)) (HX.out.set 0 (.int .i64 jd.n)) (by decide)) ((HX.out.set 0 (.int .i64 jd.n)).set 1 (.int .i64 jd.tm)) (by decide)) (((HX.out.set 0 (.int .i64 jd.n)).set 1 (.int .i64 jd.tm)).set 2 (.int .i64 jd.vt)) (by decide)) ((((HX.out.set 0 (.int .i64 jd.n)).set 1 (.int .i64 jd.tm)).set 2 (.int .i64 jd.vt)).set 3 (.int .i64 jd.s)) (by decide)) (((((HX.out.set 0 (.int .i64 jd.n)).set 1 (.int .i64 jd.tm)).set 2 (.int .i64 jd.vt)).set 3 (.int .i64 jd.s)).set 4 (.int .i64 jd.t)) (by decide)))
              go_wp2
              refine bodyPost_ret (v := .tuple #[.agg #[.int .i64 jd.n, .int .i64 jd.tm, .int .i64 jd.vt, .int .i64 jd.s, .int .i64 jd.t, .slice vo jd.l.length vc'], .int .i64 E, .bool true]) (by simp [results, Tryz.results21, go_sem, c0, c1, c2, c3, c4, c5]) rfl ?_
              rw [HR.out]
              exact ⟨vo, vc', rfl, hvc, OE.out, BE.out⟩
end Go.Proofs.YtbifkpkhpaellaaGreatDoor
