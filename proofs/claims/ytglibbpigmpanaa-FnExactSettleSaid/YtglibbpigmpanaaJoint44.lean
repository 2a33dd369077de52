/-
  The walk of impl.LogBehind: what it answers, in memory of its own.
-/
import Derived.Test.YtglibbpigmpanaaJoint27
import Derived.Test.YtglibbpigmpanaaJoint43
import Derived.Test.YtglibbpigmpanaaJoint41
import Derived.Test.YtglibbpigmpanaaJoint1
namespace Go.Proofs.Ytglibbpigmpanaa
open Go.RowKit

theorem behindAns_no {s t : Int} {l : List EntD} {b tm : Int} (h : ¬ (logOk s t l = true ∧ logHas s l.length b = true ∧ logTerm s t l b = tm)) : behindAns s t l b tm = [] := by
  rw [behindAns, if_neg]
  intro q
  exact h ⟨q.1, by simpa [logHas] using q.2.1, q.2.2⟩
theorem behindAns_yes {s t : Int} {l : List EntD} {b tm : Int} (h : logOk s t l = true) (h1 : logHas s l.length b = true) (h2 : logTerm s t l b = tm) : behindAns s t l b tm = l.drop (b - s).toNat := by
  rw [behindAns, if_pos ⟨h, by simpa [logHas] using h1, h2⟩]

set_option maxRecDepth 1000000 in
set_option maxHeartbeats 1000000 in
theorem implLogBehind_any (s t b tm : Int) (ao : Option Addr) (l : List EntD) (cap : Nat) (hs : -9223372036854775808 ≤ s ∧ s ≤ 9223372036854775807) (hb : -9223372036854775808 ≤ b ∧ b ≤ 9223372036854775807) (hl : l.length ≤ 1048576) (hsm : ∀ f ∈ l, f.data.size ≤ 1048576) (hcap : l.length ≤ cap) (w : World) (ha : EntsAt w ao l) :
    Calls Try.prog 26 #[.agg #[.int .i64 s, .int .i64 t, .slice ao l.length cap], .int .i64 b, .int .i64 tm] w fun e w' => ∃ vo vc, e = .returned (.agg #[.int .i64 b, .int .i64 tm, .slice vo (behindAns s t l b tm).length vc]) ∧ OwnAt w' 69 (entCells (behindAns s t l b tm)) (behindAns s t l b tm).length vo w.heap.size w'.heap.size ∧ Below w.heap.size w w' := by
  have HA := hid ha
  have HS := hid hsm
  have h3 := four_log w (.cells #[.int .i64 s, .int .i64 t, .slice ao l.length cap] 32) (.cells #[.int .i64 0, .int .i64 0, .slice none 0 0] 32) (.cells #[.int .i64 b, .int .i64 tm, .slice none 0 0] 32)
  obtain ⟨hb0, hx0', hx1', hx2'⟩ := h3
  have HB := hid hb0
  have HX0 := hid (show BlockIs _ w.heap.size 32 [.int .i64 s, .int .i64 t, .slice ao l.length cap] from hx0')
  have HX1 := hid (show BlockIs _ (w.heap.size + 1) 32 [.int .i64 0, .int .i64 0, .slice none 0 0] from hx1')
  have HX2 := hid (show BlockIs _ (w.heap.size + 1 + 1) 32 [.int .i64 b, .int .i64 tm, .slice none 0 0] from hx2')
  clear ha hsm hb0 hx0' hx1' hx2'
  go_enter Try.func26, Try.ntmps26
  go_wp2_with fail
  refine (termAt_any s t b ao l cap hs hb hl _ (HA.out.on HB.out)).mono ?_
  rintro e w1 ⟨rfl, b1⟩
  have B1 := hid (below_via HB.out b1)
  have Y0 := hid (HX0.out.on b1 HX0.out.lt)
  have Y1 := hid (HX1.out.on b1 HX1.out.lt)
  have Y2 := hid (HX2.out.on b1 HX2.out.lt)
  have c00 := Y0.out.cell (j := 0) rfl
  have c01 := Y0.out.cell (j := 1) rfl
  have c02 := Y0.out.cell (j := 2) rfl
  have c10 := Y1.out.cell (j := 0) rfl
  have c11 := Y1.out.cell (j := 1) rfl
  have c12 := Y1.out.cell (j := 2) rfl
  have c20 := Y2.out.cell (j := 0) rfl
  have c21 := Y2.out.cell (j := 1) rfl
  have c22 := Y2.out.cell (j := 2) rfl
  have f10 := Y1.out.thaw 0
  have f11 := Y1.out.thaw 1
  have f12 := Y1.out.thaw 2
  clear b1 HB HX0 HX1 HX2
  cases hH : logHas s l.length b with
  | false =>
    have hr := hid (behindAns_no (s := s) (t := t) (l := l) (b := b) (tm := tm) (by rw [hH]; simp))
    rw [if_neg (by simp)]
    clear hH
    have BL := hid (((B1.out.setCell (p := ⟨w.heap.size + 1, 0, none⟩) (by show _ ≤ _ + 1; omega) (.int .i64 b)).setCell (p := ⟨w.heap.size + 1, 1, none⟩) (by show _ ≤ _ + 1; omega) (.int .i64 tm)).setCell (p := ⟨w.heap.size + 1, 2, none⟩) (by show _ ≤ _ + 1; omega) (.slice none 0 0))
    go_wp2
    refine bodyPost_ret (v := .agg #[.int .i64 b, .int .i64 tm, .slice none 0 0]) (by simp [results, Try.results26, go_sem, c10, c11, c12]) rfl ?_
    rw [hr.out]
    exact ⟨none, 0, rfl, Or.inl rfl, BL.out⟩
  | true =>
    rw [if_pos rfl]
    by_cases hT : logTerm s t l b = tm
    · rw [hT]
      have cO' := implLogOk_any s t ao l cap hl w1 (HA.out.on B1.out)
      cases hO : logOk s t l with
      | false =>
        have hr := hid (behindAns_no (s := s) (t := t) (l := l) (b := b) (tm := tm) (by simp [hO]))
        rw [hO] at cO'
        have cO := hid cO'
        clear cO' hO hT hH
        go_wp2_with fail
        refine Calls.mono cO.out ?_
        rintro e w2 ⟨rfl, b2⟩
        have B2 := below_via B1.out b2
        have Z1 := Y1.out.on b2 Y1.out.lt
        have Z2 := Y2.out.on b2 Y2.out.lt
        have d10 := Z1.cell (j := 0) rfl
        have d11 := Z1.cell (j := 1) rfl
        have d12 := Z1.cell (j := 2) rfl
        have d20 := Z2.cell (j := 0) rfl
        have d21 := Z2.cell (j := 1) rfl
        have d22 := Z2.cell (j := 2) rfl
        have g10 := Z1.thaw 0
        have g11 := Z1.thaw 1
        have g12 := Z1.thaw 2
        have BL := hid (((B2.setCell (p := ⟨w.heap.size + 1, 0, none⟩) (by show _ ≤ _ + 1; omega) (.int .i64 b)).setCell (p := ⟨w.heap.size + 1, 1, none⟩) (by show _ ≤ _ + 1; omega) (.int .i64 tm)).setCell (p := ⟨w.heap.size + 1, 2, none⟩) (by show _ ≤ _ + 1; omega) (.slice none 0 0))
        clear b2 B2 Z1 Z2 c00 c01 c02 c10 c11 c12 c20 c21 c22 f10 f11 f12 cO
        go_wp2
        refine bodyPost_ret (v := .agg #[.int .i64 b, .int .i64 tm, .slice none 0 0]) (by simp [results, Try.results26, go_sem, d10, d11, d12]) rfl ?_
        rw [hr.out]
        exact ⟨none, 0, rfl, Or.inl rfl, BL.out⟩
      | true =>
        have hr := hid (behindAns_yes (s := s) (t := t) (l := l) (b := b) (tm := tm) hO hH hT)
        have hbd := logOk_iff.1 hO
        have hbb : s ≤ b ∧ b ≤ s + l.length := by simpa [logHas] using hH
        obtain ⟨k, hk⟩ : ∃ k : Nat, (b - s).toNat = k := ⟨_, rfl⟩
        rw [hk] at hr
        have hik : b - s = (k : Int) := by omega
        have hkl : k ≤ l.length := by omega
        have HSD := hid (fun f (hf : f ∈ l.drop k) => HS.out f (List.mem_of_mem_drop hf))
        have hdl : (l.drop k).length ≤ 1048576 := by simp; omega
        rw [hO] at cO'
        have cO := hid cO'
        clear cO' hO hT hH hbd hk
        go_wp2_with fail
        refine Calls.mono cO.out ?_
        rintro e w2 ⟨rfl, b2⟩
        have B2 := hid (below_via B1.out b2)
        have Z0 := hid (Y0.out.on b2 Y0.out.lt)
        have Z1 := hid (Y1.out.on b2 Y1.out.lt)
        have Z2 := hid (Y2.out.on b2 Y2.out.lt)
        have d00 := Z0.out.cell (j := 0) rfl
        have d01 := Z0.out.cell (j := 1) rfl
        have d02 := Z0.out.cell (j := 2) rfl
        have CB := hid (entriesBehind_any s t b k ao l cap hik hkl hl hcap w2 (HA.out.on B2.out))
        obtain ⟨L, hL⟩ : ∃ L, l.drop k = L := ⟨_, rfl⟩
        rw [hL] at CB hr HSD hdl
        clear b2 c00 c01 c02 c10 c11 c12 c20 c21 c22 f10 f11 f12 cO B1 Y0 Y1 Y2 hL
        go_wp2_with fail
        refine Calls.mono CB.out ?_
        rintro e w3 ⟨vo, rfl, he3, b3⟩
        have B3 := hid (below_via B2.out b3)
        have V1 := hid (Z1.out.on b3 Z1.out.lt)
        have V2 := hid (Z2.out.on b3 Z2.out.lt)
        have HE3 := hid he3
        clear b3 he3 d00 d01 d02 CB Z0 Z1 Z2 B2
        go_wp2_with fail
        refine (copiedEntries_any vo L L.length hdl HSD.out w3 HE3.out).mono ?_
        rintro e w4 ⟨rfl, k4, b4⟩
        have B4 := below_via B3.out b4
        have U1 := V1.out.on b4 V1.out.lt
        have U2 := V2.out.on b4 V2.out.lt
        have hsz := B3.out.size
        have hz1 := V2.out.lt
        have e10 := U1.cell (j := 0) rfl
        have e11 := U1.cell (j := 1) rfl
        have e12 := U1.cell (j := 2) rfl
        have e20 := U2.cell (j := 0) rfl
        have e21 := U2.cell (j := 1) rfl
        have e22 := U2.cell (j := 2) rfl
        have g10 := U1.thaw 0
        have g11 := U1.thaw 1
        have g12 := U1.thaw 2
        have g22 := U2.thaw 2
        have BL := hid ((((B4.setCell (p := ⟨w.heap.size + 1 + 1, 2, none⟩) (by show _ ≤ _ + 1 + 1; omega) (.slice (some ⟨w3.heap.size, 0, none⟩) L.length L.length)).setCell (p := ⟨w.heap.size + 1, 0, none⟩) (by show _ ≤ _ + 1; omega) (.int .i64 b)).setCell (p := ⟨w.heap.size + 1, 1, none⟩) (by show _ ≤ _ + 1; omega) (.int .i64 tm)).setCell (p := ⟨w.heap.size + 1, 2, none⟩) (by show _ ≤ _ + 1; omega) (.slice (some ⟨w3.heap.size, 0, none⟩) L.length L.length))
        have hn2 : w.heap.size + 1 + 1 ≠ w3.heap.size := by omega
        have hn1 : w.heap.size + 1 ≠ w3.heap.size := by omega
        have KL := hid ((((k4.far (j := 2) hn2 (.slice (some ⟨w3.heap.size, 0, none⟩) L.length L.length)).far (j := 0) hn1 (.int .i64 b)).far (j := 1) hn1 (.int .i64 tm)).far (j := 2) hn1 (.slice (some ⟨w3.heap.size, 0, none⟩) L.length L.length))
        have HSZ := hid hsz
        clear b4 B4 U1 U2 k4 hn1 hn2 hsz hz1 V1 V2 HE3
        go_wp2
        refine bodyPost_ret (v := .agg #[.int .i64 b, .int .i64 tm, .slice (some ⟨w3.heap.size, 0, none⟩) L.length L.length]) (by simp [results, Try.results26, go_sem, e10, e11, e12]) rfl ?_
        rw [hr.out]
        exact ⟨_, _, rfl, own_of_ents HSZ.out KL.out, BL.out⟩
    · have hr := hid (behindAns_no (s := s) (t := t) (l := l) (b := b) (tm := tm) (by simp [hT]))
      obtain ⟨q, hq⟩ : ∃ q, logTerm s t l b = q := ⟨_, rfl⟩
      rw [hq] at hT ⊢
      have BL := hid (((B1.out.setCell (p := ⟨w.heap.size + 1, 0, none⟩) (by show _ ≤ _ + 1; omega) (.int .i64 b)).setCell (p := ⟨w.heap.size + 1, 1, none⟩) (by show _ ≤ _ + 1; omega) (.int .i64 tm)).setCell (p := ⟨w.heap.size + 1, 2, none⟩) (by show _ ≤ _ + 1; omega) (.slice none 0 0))
      clear hq hH
      go_wp2
      refine bodyPost_ret (v := .agg #[.int .i64 b, .int .i64 tm, .slice none 0 0]) (by simp [results, Try.results26, go_sem, c10, c11, c12]) rfl ?_
      rw [hr.out]
      exact ⟨none, 0, rfl, Or.inl rfl, BL.out⟩
end Go.Proofs.Ytglibbpigmpanaa
