/-
  The walk of impl.JoinBits: what it answers.
-/
import Derived.Test.YthdklbmachplmaaJoint39
import Derived.Test.YthdklbmachplmaaJoint42
import Derived.Test.YthdklbmachplmaaJoint43
import Derived.Test.YthdklbmachplmaaJoint46
import Derived.Test.YthdklbmachplmaaJoint40
import Derived.Deep.RegionWith
namespace Go.Proofs.Ythdklbmachplmaa
open Go.RowKit Go.Maps

set_option maxRecDepth 1000000 in
set_option maxHeartbeats 8000000 in
theorem implJoinBits_any (ao : Option Addr) (l : List BitD) (cap : Nat) (d : DgramD) (now : Int) (hl : l.length ≤ 1048576) (hs : ∀ e ∈ l, SmallB e) (hf : ∀ e ∈ l, IntsWf e.ats) (ht : ∀ e ∈ l, e.total ≤ 1000000) (hd : d.body.size ≤ 1048576) (w : World) (ha : BitsHold w ao l) :
    Calls Try.prog 7 #[.slice ao l.length cap, .agg #[.int .i64 d.src, .int .i64 d.dst, .int .i64 d.ident, .int .i64 d.place, .bool d.more, .string d.body], .int .i64 now] w fun e w' => JoinDid (joinB l d now) w e w' := by
  have hx : BlockIs (w.alloc (.cells #[.int .i64 d.src, .int .i64 d.dst, .int .i64 d.ident, .int .i64 d.place, .bool d.more, .string d.body] 26)) w.heap.size 26 [.int .i64 d.src, .int .i64 d.dst, .int .i64 d.ident, .int .i64 d.place, .bool d.more, .string d.body] := heap_alloc_new w _
  have hb1 := below_more (Below.refl w.heap.size w) (.cells #[.int .i64 d.src, .int .i64 d.dst, .int .i64 d.ident, .int .i64 d.place, .bool d.more, .string d.body] 26)
  have hz1 : (w.alloc (.cells #[.int .i64 d.src, .int .i64 d.dst, .int .i64 d.ident, .int .i64 d.place, .bool d.more, .string d.body] 26)).heap.size = w.heap.size + 1 := by simp [World.alloc, -World.alloc_eq]
  obtain ⟨Wa, hWa⟩ : ∃ W, w.alloc (.cells #[.int .i64 d.src, .int .i64 d.dst, .int .i64 d.ident, .int .i64 d.place, .bool d.more, .string d.body] 26) = W := ⟨_, rfl⟩
  rw [hWa] at hx hb1 hz1
  have hb2 := below_more (Below.refl Wa.heap.size Wa) (.cells #[.int .i64 0, .int .i64 0, .int .i64 0, .int .i64 0, .bool false, .string ⟨#[]⟩] 26)
  have hz : BlockIs (Wa.alloc (.cells #[.int .i64 0, .int .i64 0, .int .i64 0, .int .i64 0, .bool false, .string ⟨#[]⟩] 26)) Wa.heap.size 26 [.int .i64 0, .int .i64 0, .int .i64 0, .int .i64 0, .bool false, .string ⟨#[]⟩] := heap_alloc_new Wa _
  have hz2 : (Wa.alloc (.cells #[.int .i64 0, .int .i64 0, .int .i64 0, .int .i64 0, .bool false, .string ⟨#[]⟩] 26)).heap.size = w.heap.size + 2 := (show (Wa.alloc (.cells #[.int .i64 0, .int .i64 0, .int .i64 0, .int .i64 0, .bool false, .string ⟨#[]⟩] 26)).heap.size = Wa.heap.size + 1 by simp [World.alloc, -World.alloc_eq]).trans (by omega)
  obtain ⟨W0, hW0⟩ : ∃ W, Wa.alloc (.cells #[.int .i64 0, .int .i64 0, .int .i64 0, .int .i64 0, .bool false, .string ⟨#[]⟩] 26) = W := ⟨_, rfl⟩
  rw [hW0] at hb2 hz hz2
  rw [hz1] at hz
  have hj0 : JoinW w d W0 := ⟨hx.on hb2 hx.lt, hz, below_via hb1 hb2⟩
  have J0 := hid hj0
  have CP := hid (pileOf_any ao l cap hl hs hf W0 (ha.on hj0.b))
  have HS := hid hs
  have HT := hid ht
  have HZ2 := hid hz2
  clear hx hb1 hb2 hz hz2 hj0 hs hf ht ha
  go_enter Try.func7, Try.ntmps7
  go_wp2_with fail
  refine Calls.mono CP.out ?_
  rintro e1 w1 ⟨rfl, va, vc, rs, im, p1, al, b1⟩
  have J1 := hid (J0.out.on b1 (by have := HZ2.out; omega))
  have P1 := hid p1
  have AL := hid al
  clear CP p1 al b1 J0 hW0 hWa hz1
  have x0 := J1.out.x.cell (j := 0) rfl
  have x1 := J1.out.x.cell (j := 1) rfl
  have x2 := J1.out.x.cell (j := 2) rfl
  have x3 := J1.out.x.cell (j := 3) rfl
  have x4 := J1.out.x.cell (j := 4) rfl
  have x5 := J1.out.x.cell (j := 5) rfl
  have CK := hid (implDgramOk_any d (by omega) w1)
  go_wp2_with fail
  refine Calls.mono CK.out ?_
  rintro e2 w2 ⟨rfl, b2⟩
  have J2 := hid (J1.out.on b2 J1.out.big)
  have P2 := hid (P1.out.on b2)
  clear CK b2 P1 J1 x0 x1 x2 x3 x4 x5
  obtain ⟨lo, hlo⟩ : ∃ x, W0.heap.size = x := ⟨_, rfl⟩
  rw [hlo] at P2 HZ2 ⊢
  have HSEE := hid P2.out.see
  by_cases hok : joinOk d now = false
  · have HJ := hid (joinB_bad (l := l) hok)
    have HLL : Hid (leftL im l = l) := leftL_all fun j hj => (AL.out j).2 hj
    have CL := hid (pileLeft_any (lo + 1) l im _ va vc lo rs (by omega) w2 HSEE.out)
    rw [HLL.out] at CL
    have CL2 : Hid (Calls Try.prog 26 #[.pointer (some ⟨lo + 1, 0, none⟩)] w2 fun e w' => LeftDid l w2 e w') := CL.out
    clear CL HLL P2 AL HS HT
    have HOK : Hid (dgramOk d = false ∨ (dgramOk d = true ∧ now < 0) ∨ (dgramOk d = true ∧ ¬ now < 0 ∧ 999999990 < now)) := (show _ ∨ _ by
      cases h1 : dgramOk d with
      | false => exact Or.inl rfl
      | true =>
        rw [joinOk, h1] at hok
        by_cases h2 : now < 0
        · exact Or.inr (Or.inl ⟨rfl, h2⟩)
        · refine Or.inr (Or.inr ⟨rfl, h2, ?_⟩)
          simp at hok
          have := hok (by omega)
          omega)
    clear hok
    rcases HOK.out with h1 | ⟨h1, h2⟩ | ⟨h1, h2, h3⟩
    all_goals
      rw [h1]
      clear h1 HOK
      go_wp2_with fail
      refine Calls.mono CL2.out ?_
      rintro e9 w9 ⟨va9, vc9, rfl, hh9, b9⟩
      have HH := hid hh9
      have J9 := hid (J2.out.on b9 J2.out.big)
      clear CL2 hh9 b9
      have p0 := J9.out.z.cell (j := 0) rfl
      have pf0 := J9.out.z.thaw 0
      have p1 := J9.out.z.cell (j := 1) rfl
      have pf1 := J9.out.z.thaw 1
      have p2 := J9.out.z.cell (j := 2) rfl
      have pf2 := J9.out.z.thaw 2
      have p3 := J9.out.z.cell (j := 3) rfl
      have pf3 := J9.out.z.thaw 3
      have p4 := J9.out.z.cell (j := 4) rfl
      have pf4 := J9.out.z.thaw 4
      have p5 := J9.out.z.cell (j := 5) rfl
      have pf5 := J9.out.z.thaw 5
      have HB9 := hid (below_six J9.out.b (show w.heap.size ≤ w.heap.size + 1 by omega) (.int .i64 0) (.int .i64 0) (.int .i64 0) (.int .i64 0) (.bool false) (.string ⟨#[]⟩))
      have HK9 := hid (HH.out _ (kept_six J9.out.z (.int .i64 0) (.int .i64 0) (.int .i64 0) (.int .i64 0) (.bool false) (.string ⟨#[]⟩)))
      go_wp2
      refine bodyPost_ret (v := .tuple #[.slice va9 (l).length vc9, .agg #[.int .i64 0, .int .i64 0, .int .i64 0, .int .i64 0, .bool false, .string ⟨#[]⟩], .bool false]) (by simp [results, Try.results7, go_sem, p0, p1, p2, p3, p4, p5]) rfl ?_
      rw [HJ.out]
      exact ⟨va9, vc9, rfl, HK9.out, HB9.out⟩
  · have hok' : joinOk d now = true := by simpa using hok
    have hdo : dgramOk d = true := by
      rw [joinOk, Bool.and_eq_true] at hok'
      exact hok'.1
    have hn : 0 ≤ now ∧ now ≤ 999999990 := by
      rw [joinOk, Bool.and_eq_true, Bool.and_eq_true] at hok'
      simpa using hok'.2
    have hn0 : ¬ now < 0 := by omega
    have hn1 : ¬ (999999990 : Int) < now := by omega
    have HOK := hid hok'
    have HD := hid hdo
    rw [hdo]
    clear hok hok' hdo
    have x0 := J2.out.x.cell (j := 0) rfl
    have x1 := J2.out.x.cell (j := 1) rfl
    have x2 := J2.out.x.cell (j := 2) rfl
    have x3 := J2.out.x.cell (j := 3) rfl
    have x4 := J2.out.x.cell (j := 4) rfl
    have x5 := J2.out.x.cell (j := 5) rfl
    by_cases hon : d.place = 0 ∧ d.more = false
    · have g1 : (d.place == 0) = true := by simpa using hon.1
      have g2 : (!d.more) = true := by simpa using hon.2
      have HJ := hid (joinB_once (l := l) HOK.out hon)
      have HLL : Hid (leftL im l = l) := leftL_all fun j hj => (AL.out j).2 hj
      clear hon P2 HS HT
      go_wp2_with fail
      refine Calls.mono (clone_any d.body (by omega) _) ?_
      rintro e3 w3 ⟨rfl, b3⟩
      have j3 := J2.out.on b3 J2.out.big
      have s3 := HSEE.out.on b3
      have J4 : Hid (JoinW w d (w3.setCell ⟨w.heap.size, 5, none⟩ (.string d.body))) := (show JoinW _ _ _ from ⟨j3.x.set 5 (.string d.body), j3.z.far (by omega) _, j3.b.setCell (p := ⟨w.heap.size, 5, none⟩) (Nat.le_refl _) _⟩)
      have s4 := s3.set (j := 5) j3.x (.string d.body)
      have y5 := j3.x.cell (j := 5) rfl
      have yf5 := j3.x.thaw 5
      obtain ⟨W4, hW4⟩ : ∃ W, w3.setCell ⟨w.heap.size, 5, none⟩ (.string d.body) = W := ⟨_, rfl⟩
      rw [hW4] at J4 s4
      have bd : Below W4.heap.size W4 W4.drew := below_drewN (Below.refl _ _) 1
      have CL := hid (pileLeft_any (lo + 1) l im _ va vc lo rs (by omega) W4.drew (s4.on bd))
      rw [HLL.out] at CL
      have CL2 : Hid (Calls Try.prog 26 #[.pointer (some ⟨lo + 1, 0, none⟩)] W4.drew fun e w' => ∃ va vc, e = .returned (.slice va l.length vc) ∧ Hid (∀ w2, RowsKept w' w2 → BitsHold w2 va l) ∧ Hid (JoinW w d w')) := by
        refine Calls.mono CL.out ?_
        rintro e9 w9 ⟨va9, vc9, rfl, hh9, b9⟩
        exact ⟨va9, vc9, rfl, hh9, (J4.out.on bd J4.out.big).on b9 (Nat.le_trans J4.out.big bd.size)⟩
      clear CL HLL j3 s3 s4 bd b3 HSEE J2 x0 x1 x2 x3 x4 x5
      have x0 := J4.out.x.cell (j := 0) rfl
      have x1 := J4.out.x.cell (j := 1) rfl
      have x2 := J4.out.x.cell (j := 2) rfl
      have x3 := J4.out.x.cell (j := 3) rfl
      have x4 := J4.out.x.cell (j := 4) rfl
      have x5 := J4.out.x.cell (j := 5) rfl
      go_wp2
      go_region_with (go_at_call 26; refine Calls.mono CL2.out ?_; rintro e9 w9 ⟨va9, vc9, rfl, HH, J9⟩; have p0 := J9.out.z.cell (j := 0) rfl; have pf0 := J9.out.z.thaw 0; have q0 := J9.out.x.cell (j := 0) rfl; have p1 := J9.out.z.cell (j := 1) rfl; have pf1 := J9.out.z.thaw 1; have q1 := J9.out.x.cell (j := 1) rfl; have p2 := J9.out.z.cell (j := 2) rfl; have pf2 := J9.out.z.thaw 2; have q2 := J9.out.x.cell (j := 2) rfl; have p3 := J9.out.z.cell (j := 3) rfl; have pf3 := J9.out.z.thaw 3; have q3 := J9.out.x.cell (j := 3) rfl; have p4 := J9.out.z.cell (j := 4) rfl; have pf4 := J9.out.z.thaw 4; have q4 := J9.out.x.cell (j := 4) rfl; have p5 := J9.out.z.cell (j := 5) rfl; have pf5 := J9.out.z.thaw 5; have q5 := J9.out.x.cell (j := 5) rfl)
      all_goals
        have HB9 := hid (below_six J9.out.b (show w.heap.size ≤ w.heap.size + 1 by omega) (.int .i64 d.src) (.int .i64 d.dst) (.int .i64 d.ident) (.int .i64 d.place) (.bool d.more) (.string d.body))
        have HK9 := hid (HH.out _ (kept_six J9.out.z (.int .i64 d.src) (.int .i64 d.dst) (.int .i64 d.ident) (.int .i64 d.place) (.bool d.more) (.string d.body)))
        go_wp2
        refine bodyPost_ret (v := .tuple #[.slice va9 (l).length vc9, .agg #[.int .i64 d.src, .int .i64 d.dst, .int .i64 d.ident, .int .i64 d.place, .bool d.more, .string d.body], .bool true]) (by simp [results, Try.results7, go_sem, p0, p1, p2, p3, p4, p5]) rfl ?_
        rw [HJ.out]
        exact ⟨va9, vc9, rfl, HK9.out, HB9.out⟩
    · have hsp : (d.place == 0) = false ∨ ((d.place == 0) = true ∧ (!d.more) = false) := by
        by_cases h1 : d.place = 0
        · refine Or.inr ⟨by simpa using h1, ?_⟩
          cases hm : d.more with
          | false => exact absurd ⟨h1, hm⟩ hon
          | true => rfl
        · exact Or.inl (by simpa using h1)
      have HON := hid hon
      have CF := hid (placeFor_did (lo + 1) l im lo _ _ va vc lo rs d now hl (by omega) hn.1 (by omega) HS.out HT.out AL.out w2 P2.out)
      clear P2 HSEE HS HT AL hon
      rcases hsp with g1 | ⟨g1, g2⟩
      all_goals
        go_wp2_with fail
        refine Calls.mono CF.out ?_
        rintro e3 w3 ⟨L1, e, L2, im3, hi3, N3, va3, vc3, rs3, g3, rfl, p3, hg3, hN3, hse, hte, hll, aj, b3⟩
        have J3 := hid (J2.out.on b3 (by have := HZ2.out; omega))
        obtain ⟨_, _, _, hd4, _, hd6, _⟩ := dgramOk_bd HD.out
        have CT := hid (pileTake_any (lo + 1) L1 e L2 im3 lo hi3 N3 va3 vc3 lo g3 rs3 d hN3 hg3 hse hll hd4.1 hd4.2 (by omega) w3 p3)
        have TS := hid (take_small hse hte HD.out)
        have HLL := hid hll
        have AJ := hid aj
        clear CF J2 p3 hg3 hN3 hse hte hll aj b3 hd4 hd6 x0 x1 x2 x3 x4 x5
        have x0 := J3.out.x.cell (j := 0) rfl
        have x1 := J3.out.x.cell (j := 1) rfl
        have x2 := J3.out.x.cell (j := 2) rfl
        have x3 := J3.out.x.cell (j := 3) rfl
        have x4 := J3.out.x.cell (j := 4) rfl
        have x5 := J3.out.x.cell (j := 5) rfl
        go_wp2_with fail
        refine Calls.mono CT.out ?_
        rintro e4 w4 ⟨rfl, rs4, r4, b4⟩
        have J4 := hid (J3.out.on b4 (by have := HZ2.out; omega))
        have CB := hid (pileBody_any (lo + 1) (L1 ++ takeD e d :: L2) im3 (N3 + 1) va3 vc3 lo rs4 L1.length g3 (takeD e d) (by have := HLL.out; simp at this; omega) TS.out.1 TS.out.2 w4 r4)
        have S4 := hid r4.see
        clear CT J3 r4 b4 TS x0 x1 x2 x3 x4 x5
        go_wp2_with fail
        refine Calls.mono CB.out ?_
        rintro e5 w5 ⟨S, ok, rfl, hor, b5⟩
        have J5 := hid (J4.out.on b5 J4.out.big)
        have S5 := hid (S4.out.on b5)
        clear CB J4 S4 b5
        rcases hor with ⟨rfl, hS⟩ | ⟨rfl, hS⟩
        · have HJ : Hid (joinB l d now = (leftL (fun j => if j = L1.length then none else im3 j) (L1 ++ takeD e d :: L2), wholeG d S, true)) := (show _ = _ by
            rw [joinB_some HOK.out HON.out (by rw [← AJ.out.el]; exact hS), AJ.out.gone])
          have q1 := S5.out.blk.cell (j := 1) rfl
          have hmo := S5.out.outer
          clear hS
          go_wp2_with (at_delete; refine wpList_delete_map rfl _ _ rfl Try.underlying60 rfl rfl hmo (outerM_wf L1.length (by have := HLL.out; simp at this; omega)) ?_; intro w6 hm6 ht6)
          have s6 := S5.out.drop L1.length (hm6.ext fun x _ => outerM_del _ _ x) ht6
          have J6 : Hid (JoinW w d w6) := (show JoinW _ _ _ from ⟨J5.out.x.turn hmo ht6, J5.out.z.turn hmo ht6, J5.out.b.grown ht6.grown J5.out.b.size (fun j e9 => by simp at e9; have := HZ2.out; omega)⟩)
          have bd : Below w6.heap.size w6 w6.drew := below_drewN (Below.refl _ _) 1
          have CL := hid (pileLeft_any (lo + 1) (L1 ++ takeD e d :: L2) _ _ _ _ lo _ (by have := HLL.out; simp at this ⊢; omega) w6.drew (s6.on bd))
          obtain ⟨M, hM⟩ : ∃ M, leftL (fun j => if j = L1.length then none else im3 j) (L1 ++ takeD e d :: L2) = M := ⟨_, rfl⟩
          rw [hM] at CL HJ
          have CL2 : Hid (Calls Try.prog 26 #[.pointer (some ⟨lo + 1, 0, none⟩)] w6.drew fun e w' => ∃ va vc, e = .returned (.slice va M.length vc) ∧ Hid (∀ w2, RowsKept w' w2 → BitsHold w2 va M) ∧ Hid (JoinW w d w')) := by
            refine Calls.mono CL.out ?_
            rintro e9 w9 ⟨va9, vc9, rfl, hh9, b9⟩
            exact ⟨va9, vc9, rfl, hh9, (J6.out.on bd J6.out.big).on b9 (Nat.le_trans J6.out.big bd.size)⟩
          clear CL s6 bd hm6 ht6 hmo q1 S5 J5 hM HOK HON AJ
          have x0 := J6.out.x.cell (j := 0) rfl
          have x1 := J6.out.x.cell (j := 1) rfl
          have x2 := J6.out.x.cell (j := 2) rfl
          go_region_with (go_at_call 26; refine Calls.mono CL2.out ?_; rintro e9 w9 ⟨va9, vc9, rfl, HH, J9⟩; have p0 := J9.out.z.cell (j := 0) rfl; have pf0 := J9.out.z.thaw 0; have q0 := J9.out.x.cell (j := 0) rfl; have p1 := J9.out.z.cell (j := 1) rfl; have pf1 := J9.out.z.thaw 1; have q1 := J9.out.x.cell (j := 1) rfl; have p2 := J9.out.z.cell (j := 2) rfl; have pf2 := J9.out.z.thaw 2; have q2 := J9.out.x.cell (j := 2) rfl; have p3 := J9.out.z.cell (j := 3) rfl; have pf3 := J9.out.z.thaw 3; have p4 := J9.out.z.cell (j := 4) rfl; have pf4 := J9.out.z.thaw 4; have p5 := J9.out.z.cell (j := 5) rfl; have pf5 := J9.out.z.thaw 5)
          all_goals
            have HB9 := hid (below_six J9.out.b (show w.heap.size ≤ w.heap.size + 1 by omega) (.int .i64 d.src) (.int .i64 d.dst) (.int .i64 d.ident) (.int .i64 0) (.bool false) (.string S))
            have HK9 := hid (HH.out _ (kept_six J9.out.z (.int .i64 d.src) (.int .i64 d.dst) (.int .i64 d.ident) (.int .i64 0) (.bool false) (.string S)))
            go_wp2
            refine bodyPost_ret (v := .tuple #[.slice va9 (M).length vc9, .agg #[.int .i64 d.src, .int .i64 d.dst, .int .i64 d.ident, .int .i64 0, .bool false, .string S], .bool true]) (by simp [results, Try.results7, go_sem, p0, p1, p2, p3, p4, p5]) rfl ?_
            rw [HJ.out]
            exact ⟨va9, vc9, rfl, HK9.out, HB9.out⟩
        · have HJ : Hid (joinB l d now = (leftL im3 (L1 ++ takeD e d :: L2), zeroG, false)) := (show _ = _ by
            rw [joinB_none HOK.out HON.out (by rw [← AJ.out.el]; exact hS), AJ.out.stay, AJ.out.el])
          have CL := hid (pileLeft_any (lo + 1) (L1 ++ takeD e d :: L2) im3 _ va3 vc3 lo rs4 (by have := HLL.out; simp at this ⊢; omega) w5 S5.out)
          obtain ⟨M, hM⟩ : ∃ M, leftL im3 (L1 ++ takeD e d :: L2) = M := ⟨_, rfl⟩
          rw [hM] at CL HJ
          have CL2 : Hid (Calls Try.prog 26 #[.pointer (some ⟨lo + 1, 0, none⟩)] w5 fun e w' => LeftDid M w5 e w') := CL.out
          clear CL hM hS S5 HOK HON AJ
          go_wp2_with fail
          refine Calls.mono CL2.out ?_
          rintro e9 w9 ⟨va9, vc9, rfl, hh9, b9⟩
          have HH := hid hh9
          have J9 := hid (J5.out.on b9 J5.out.big)
          clear CL2 hh9 b9
          have p0 := J9.out.z.cell (j := 0) rfl
          have pf0 := J9.out.z.thaw 0
          have p1 := J9.out.z.cell (j := 1) rfl
          have pf1 := J9.out.z.thaw 1
          have p2 := J9.out.z.cell (j := 2) rfl
          have pf2 := J9.out.z.thaw 2
          have p3 := J9.out.z.cell (j := 3) rfl
          have pf3 := J9.out.z.thaw 3
          have p4 := J9.out.z.cell (j := 4) rfl
          have pf4 := J9.out.z.thaw 4
          have p5 := J9.out.z.cell (j := 5) rfl
          have pf5 := J9.out.z.thaw 5
          have HB9 := hid (below_six J9.out.b (show w.heap.size ≤ w.heap.size + 1 by omega) (.int .i64 0) (.int .i64 0) (.int .i64 0) (.int .i64 0) (.bool false) (.string ⟨#[]⟩))
          have HK9 := hid (HH.out _ (kept_six J9.out.z (.int .i64 0) (.int .i64 0) (.int .i64 0) (.int .i64 0) (.bool false) (.string ⟨#[]⟩)))
          go_wp2
          refine bodyPost_ret (v := .tuple #[.slice va9 (M).length vc9, .agg #[.int .i64 0, .int .i64 0, .int .i64 0, .int .i64 0, .bool false, .string ⟨#[]⟩], .bool false]) (by simp [results, Try.results7, go_sem, p0, p1, p2, p3, p4, p5]) rfl ?_
          rw [HJ.out]
          exact ⟨va9, vc9, rfl, HK9.out, HB9.out⟩
end Go.Proofs.Ythdklbmachplmaa
