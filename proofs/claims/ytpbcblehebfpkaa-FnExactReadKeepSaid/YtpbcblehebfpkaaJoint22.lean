/-
  The walk of spec.ReadKeep: what it answers.
-/
import Derived.Test.YtpbcblehebfpkaaJoint6
import Derived.Test.YtpbcblehebfpkaaJoint13
import Derived.Test.YtpbcblehebfpkaaJoint21
import Derived.Deep.CutBlock
import Derived.Deep.DeepCutAuto
import Derived.Deep.LoopGhost
namespace Go.Proofs.Ytpbcblehebfpkaa
open Go.RowKit Go.Sort

theorem row_keepG {w w' : World} {base size n : Nat} {t : TypeId} {v : Value} {xs : List Value} (h : w.ownsRow base t size v n xs) (hb : ∀ g, v.ownBlock = some g → ∀ cs, BlockIs w g t cs → BlockIs w' g t cs) : w'.ownsRow base t size v n xs := by
  refine ⟨h.1, h.2.imp id ?_⟩
  rintro ⟨g, cap, cur, a, b, c, r⟩
  have := hb g (by rw [a]; rfl) cur.toList (by unfold BlockIs; rw [c])
  unfold BlockIs at this
  exact ⟨g, cap, cur, a, b, by rw [this], r⟩
/-- where the walk stands: the cursor, the keep's box, the answer's box -/
def SKIn (w W : World) (s : ByteArray) (o : Option Nat) (a c : Value) : Prop := St16 W (w.heap.size + 1) s o ∧ BlockIs W (w.heap.size + 1 + 1) 25 [a, c] ∧ BlockIs W w.heap.size 25 [.slice none 0 0, .slice none 0 0] ∧ Below w.heap.size w W
theorem SKIn.grown {w W W' : World} {s : ByteArray} {o o' : Option Nat} {a c : Value} (h : SKIn w W s o a c) (hs : St16 W' (w.heap.size + 1) s o') (hg : W.grownBy W' (some (w.heap.size + 1))) : SKIn w W' s o' a c :=
  ⟨hs, blk_grown h.2.1 hg (by omega), blk_grown h.2.2.1 hg (by omega), below_grown h.2.2.2 hg (Nat.le_succ _) h.2.2.2.size⟩
theorem SKIn.on {w W W' : World} {s : ByteArray} {o : Option Nat} {a c : Value} (h : SKIn w W s o a c) (hb : Below W.heap.size W W') : SKIn w W' s o a c :=
  ⟨st_on h.1 hb, h.2.1.on hb h.2.1.lt, h.2.2.1.on hb h.2.2.1.lt, below_via h.2.2.2 hb⟩
theorem SKIn.far {w W : World} {s : ByteArray} {o : Option Nat} {a c : Value} (h : SKIn w W s o a c) {x j : Nat} (hx : w.heap.size + 1 + 1 < x) (u : Value) : SKIn w (W.setCell ⟨x, j, none⟩ u) s o a c :=
  ⟨st_far h.1 (by omega) u, h.2.1.far (by omega) u, h.2.2.1.far (by omega) u, h.2.2.2.setCell (p := ⟨x, j, none⟩) (show w.heap.size ≤ x by omega) u⟩
theorem row_cur {w W W' : World} {s : ByteArray} {o : Option Nat} {base size n : Nat} {t : TypeId} {v : Value} {xs : List Value} (h : W.ownsRow base t size v n xs) (hc : St16 W (w.heap.size + 1) s o) (hg : W.grownBy W' (some (w.heap.size + 1))) (ht : t ≠ 40) : W'.ownsRow base t size v n xs := by
  obtain ⟨k, _, hk, _⟩ := hc
  exact row_ext h fun g cs hb => blk_grown hb hg (fun e => by subst e; exact ht (block_one hb hk).1)
theorem row_under {w : World} {base size n g : Nat} {t : TypeId} {v : Value} {xs : List Value} (h : w.ownsRow base t size v n xs) (hv : v.ownBlock = some g) : g < w.heap.size := by
  obtain ⟨_, hb, _⟩ := row_block h hv
  exact hb.lt
theorem row_farG {w : World} {base size n x j : Nat} {t : TypeId} {v u : Value} {xs : List Value} (h : w.ownsRow base t size v n xs) (hx : ∀ g, v.ownBlock = some g → g < x) : (w.setCell ⟨x, j, none⟩ u).ownsRow base t size v n xs :=
  row_keepG h fun g hg cs hb => hb.far (fun e => by have := hx g hg; omega) u
theorem numAt_le {s : ByteArray} {lim k n k' : Nat} (h : numAt s lim k = some (n, k')) : n ≤ lim := by
  unfold numAt at h
  cases hv : rv (s.data.toList.drop k) with
  | none => rw [hv] at h; cases h
  | some p =>
    obtain ⟨a, c⟩ := p
    rw [hv] at h
    dsimp only at h
    by_cases hl : a ≤ lim
    · rw [if_pos hl] at h; cases h; exact hl
    · rw [if_neg hl] at h; cases h
theorem nVal_le (s : ByteArray) (o : Option Nat) : nVal s o ≤ 1000000000 := by
  cases o with
  | none => exact Nat.zero_le _
  | some k =>
    cases h : numAt s 1000000000 k with
    | none => simp [nVal, h]
    | some p => obtain ⟨a, b⟩ := p; have := numAt_le h; simpa [nVal, h] using this
theorem spRow_none {α : Type} {v : Option Nat → α} {st : Option Nat → Option Nat} (f : Nat) : spRow v st f none = ([], none) := by cases f <;> rfl
theorem spRow_len {α : Type} {v : Option Nat → α} {st : Option Nat → Option Nat} : ∀ (f : Nat) (o : Option Nat), (spRow v st f o).1.length ≤ f
  | 0, _ => Nat.le_refl _
  | f + 1, none => Nat.zero_le _
  | f + 1, some k => by simp only [spRow, List.length_cons]; have := spRow_len (v := v) (st := st) f (st (some k)); omega
set_option maxRecDepth 1000000 in
set_option maxHeartbeats 8000000 in
theorem specReadKeep_any (s : ByteArray) (hs : s.size ≤ 1048576) (w : World) : Calls Try.prog 5 #[.string s] w fun e w' => rkDid (readKeep s) w e w' := by
  have hask := ask_keep s
  have h3 := three_blocks w (.cells #[.slice none 0 0, .slice none 0 0] 25) (.cells #[.string s, .int .i64 0, .bool false] 40) (.cells #[.slice none 0 0, .slice none 0 0] 25)
  have S0 : Hid (SKIn w _ s (some 0) (.slice none 0 0) (.slice none 0 0)) := ⟨⟨0, Nat.zero_le _, h3.2.2.2.1, fun j e => by cases e; rfl⟩, h3.2.2.2.2, h3.2.2.1, h3.1⟩
  clear h3
  have D := hid (fun W o h => l16Var_n (w.heap.size + 1) s hs o W h)
  have E := hid (fun W o h => l16ReadShort_n (w.heap.size + 1) s hs o W h)
  obtain ⟨R, hR⟩ : ∃ R, readKeep s = R := ⟨_, rfl⟩
  rw [hR] at hask ⊢
  have HASK := hid hask
  clear hask hR
  go_enter Try.func5, Try.ntmps5
  go_wp2_with fail
  refine (D.out _ _ S0.out.1).mono ?_
  rintro e w1 ⟨rfl, h1, g1⟩
  have S1 := hid (S0.out.grown h1 g1)
  clear h1 g1 S0
  obtain ⟨n, hn⟩ : ∃ n, nVal s (some 0) = n := ⟨_, rfl⟩
  obtain ⟨o1, ho1⟩ : ∃ n, nSt s (some 0) = n := ⟨_, rfl⟩
  have HA1 : Hid (ask1 s = spRow (sesV s) (sesO s) (min n 50) o1) := (show _ = _ by rw [ask1, hn, ho1])
  rw [ho1] at S1
  rw [hn]
  have hnb : n ≤ 1000000000 := by rw [← hn]; exact nVal_le _ _
  clear hn ho1
  have R1 : Hid (w1.ownsRow w.heap.size 43 3 (.slice none 0 0) 0 (sessionCells [])) := ⟨rfl, Or.inl ⟨rfl, rfl⟩⟩
  go_upto_block 0 with fail
  go_cut [] (fun wx => ∃ (va : Option Addr) (vc : Nat), Hid (SKIn w wx s (ask1 s).2 (.slice va (ask1 s).1.length vc) (.slice none 0 0)) ∧ Hid (wx.ownsRow w.heap.size 43 3 (.slice va (ask1 s).1.length vc) (ask1 s).1.length (sessionCells (ask1 s).1)))
  case first =>
    go_wp2_with fail
    go_loopg [7] (min n 50) (fun g i wr => ∃ (L : List SessionD) (o' : Option Nat) (va : Option Addr) (vc : Nat), L.length + g = min n 50 ∧ i = .int .i64 (L.length : Int) ∧ Hid (SKIn w wr s o' (.slice va L.length vc) (.slice none 0 0)) ∧ Hid (wr.ownsRow w.heap.size 43 3 (.slice va L.length vc) L.length (sessionCells L)) ∧ Hid (ask1 s = (L ++ (spRow (sesV s) (sesO s) g o').1, (spRow (sesV s) (sesO s) g o').2)))
    case atStart => exact ⟨[], o1, none, 0, by simp, rfl, S1.out, R1.out, (show _ = _ by rw [HA1.out]; rfl)⟩
    case round =>
      obtain ⟨L, o', va, vc, hkg, rfl, SR, RR, HE⟩ := hrel
      obtain ⟨kc, hkc, hcu, hj⟩ := SR.out.1
      have cb := BlockIs.cell hcu (j := 2) rfl
      have hb2 := BlockIs.lt hcu
      cases gk with
      | zero =>
        have HQ : Hid (ask1 s = (L, o')) := (show _ = _ by have := HE.out; rw [spRow] at this; simpa using this)
        have HS : Hid (SKIn w wr s (ask1 s).2 (.slice va (ask1 s).1.length vc) (.slice none 0 0)) := (show SKIn _ _ _ _ _ _ by rw [HQ.out]; exact SR.out)
        have HRW : Hid (wr.ownsRow w.heap.size 43 3 (.slice va (ask1 s).1.length vc) (ask1 s).1.length (sessionCells (ask1 s).1)) := (show World.ownsRow _ _ _ _ _ _ _ by rw [HQ.out]; exact RR.out)
        by_cases h50 : n ≤ 50
        · have hl9 : L.length = n := by omega
          have hlt : ¬ (L.length : Int) < (n : Int) := by omega
          have hlt0 : ¬ L.length < n := by omega
          have hltd : decide (L.length < n) = false := by simp; omega
          clear hcu hj SR RR HE HQ hkg hl9
          go_wp2
          go_meet
          exact ⟨va, vc, HS, HRW⟩
        · have hl9 : L.length = 50 := by omega
          have hlt : (L.length : Int) < (n : Int) := by omega
          have hlt0 : L.length < n := by omega
          have hltd : decide (L.length < n) = true := by simp; omega
          have hlt5 : ¬ (L.length : Int) < 50 := by omega
          have hltd5 : decide ((L.length : Int) < 50) = false := by simp; omega
          clear hcu hj SR RR HE HQ hkg hl9
          go_wp2
          go_meet
          exact ⟨va, vc, HS, HRW⟩
      | succ g =>
        have hlt : (L.length : Int) < (n : Int) := by omega
        have hlt0 : L.length < n := by omega
        have hltd : decide ((L.length : Int) < (n : Int)) = true := by simp; omega
        have hlt5 : (L.length : Int) < 50 := by omega
        have hltd5 : decide ((L.length : Int) < 50) = true := by simp; omega
        have hL50 : L.length < 50 := by omega
        cases o' with
        | none =>
          have HQ : Hid (ask1 s = (L, none)) := (show _ = _ by have := HE.out; rw [spRow_none] at this; simpa using this)
          have HS : Hid (SKIn w wr s (ask1 s).2 (.slice va (ask1 s).1.length vc) (.slice none 0 0)) := (show SKIn _ _ _ _ _ _ by rw [HQ.out]; exact SR.out)
          have HRW : Hid (wr.ownsRow w.heap.size 43 3 (.slice va (ask1 s).1.length vc) (ask1 s).1.length (sessionCells (ask1 s).1)) := (show World.ownsRow _ _ _ _ _ _ _ by rw [HQ.out]; exact RR.out)
          clear hcu hj SR RR HE HQ
          go_wp2
          go_meet
          exact ⟨va, vc, HS, HRW⟩
        | some kk =>
          have HE2 : Hid (ask1 s = ((L ++ [sesV s (some kk)]) ++ (spRow (sesV s) (sesO s) g (sesO s (some kk))).1, (spRow (sesV s) (sesO s) g (sesO s (some kk))).2)) := (show _ = _ by rw [HE.out, spRow]; simp)
          obtain ⟨dd, hdd⟩ : ∃ d, sesV s (some kk) = d := ⟨_, rfl⟩
          obtain ⟨oo, hoo⟩ : ∃ d, sesO s (some kk) = d := ⟨_, rfl⟩
          rw [hdd, hoo] at HE2
          unfold sesV at hdd
          unfold sesO at hoo
          clear hcu hj HE
          go_wp2_with fail
          refine (D.out _ _ SR.out.1).mono ?_
          rintro e wa ⟨rfl, h9, g9⟩
          have RA0 := hid (row_cur RR.out SR.out.1 g9 (by decide))
          have SA0 := SR.out.grown h9 g9
          obtain ⟨N0, hN0⟩ : ∃ x, nVal s (some kk) = x := ⟨_, rfl⟩
          obtain ⟨p0, hp0⟩ : ∃ x, nSt s (some kk) = x := ⟨_, rfl⟩
          rw [hp0] at SA0
          rw [hN0]
          rw [hN0, hp0] at hdd
          rw [hp0] at hoo
          clear hN0 hp0 h9 g9
          have hq9 : w.heap.size + 1 + 1 < wa.heap.size := SA0.2.1.lt
          have hX := below_more (Below.refl wa.heap.size wa) (.cells #[.int .i64 (N0 : Int), .int .i64 0, .string ⟨#[]⟩] 43)
          have X0 : Hid (BlockIs (wa.alloc (.cells #[.int .i64 (N0 : Int), .int .i64 0, .string ⟨#[]⟩] 43)) wa.heap.size 43 [.int .i64 (N0 : Int), .int .i64 0, .string ⟨#[]⟩]) := heap_alloc_new wa _
          have HG : Hid (∀ g, (Value.slice va L.length vc).ownBlock = some g → g < wa.heap.size) := fun g hg => row_under RA0.out hg
          have SB0 := hid (SA0.on hX)
          have RB0 := hid (row_onK RA0.out hX)
          clear hX SA0 RA0 SR RR
          obtain ⟨X, hXX⟩ : ∃ x, wa.heap.size = x := ⟨_, rfl⟩
          rw [hXX] at hq9 X0 HG
          have HXX := hid hXX
          clear hXX
          go_wp2_with fail
          rw [HXX.out]
          refine (D.out _ _ SB0.out.1).mono ?_
          rintro e wb ⟨rfl, h9, g9⟩
          have RA1 := hid (row_cur RB0.out SB0.out.1 g9 (by decide))
          have XA1 := blk_grown X0.out g9 (by omega)
          have SA1 := SB0.out.grown h9 g9
          obtain ⟨N1, hN1⟩ : ∃ x, nVal s (p0) = x := ⟨_, rfl⟩
          obtain ⟨p1, hp1⟩ : ∃ x, nSt s (p0) = x := ⟨_, rfl⟩
          rw [hp1] at SA1
          rw [hN1]
          rw [hN1, hp1] at hdd
          rw [hp1] at hoo
          clear hN1 hp1 h9 g9
          have c := XA1.cell (j := 1) rfl
          have f := XA1.thaw 1
          have X1 := hid (XA1.set 1 (.int .i64 (N1 : Int)))
          have SB1 := hid (SA1.far (x := X) (j := 1) hq9 (.int .i64 (N1 : Int)))
          have RB1 := hid (row_farG (x := X) (j := 1) (u := .int .i64 (N1 : Int)) RA1.out HG.out)
          clear XA1 SA1 RA1 X0 SB0 RB0
          go_wp2_with fail
          refine (E.out _ _ SB1.out.1).mono ?_
          rintro e wc ⟨rfl, h9, g9⟩
          have RA2 := hid (row_cur RB1.out SB1.out.1 g9 (by decide))
          have XA2 := blk_grown X1.out g9 (by omega)
          have SA2 := SB1.out.grown h9 g9
          obtain ⟨T2, hT2⟩ : ∃ x, tVal s (p1) = x := ⟨_, rfl⟩
          obtain ⟨p2, hp2⟩ : ∃ x, tSt s (p1) = x := ⟨_, rfl⟩
          rw [hp2] at SA2
          rw [hT2]
          rw [hT2] at hdd
          rw [hp2] at hoo
          clear hT2 hp2 h9 g9
          have c := XA2.cell (j := 2) rfl
          have f := XA2.thaw 2
          have X2 := hid (XA2.set 2 (.string T2))
          have SB2 := hid (SA2.far (x := X) (j := 2) hq9 (.string T2))
          have RB2 := hid (row_farG (x := X) (j := 2) (u := .string T2) RA2.out HG.out)
          clear XA2 SA2 RA2 X1 SB1 RB1
          obtain ⟨U, hU⟩ : ∃ U, wc.setCell ⟨X, 2, none⟩ (.string T2) = U := ⟨_, rfl⟩
          rw [hU] at X2 SB2 RB2
          have hY := below_more (Below.refl U.heap.size U) (.cells #[.int .i64 (N0 : Int), .int .i64 (N1 : Int), .string T2] 43)
          have Y0 := (show BlockIs (U.alloc (.cells #[.int .i64 (N0 : Int), .int .i64 (N1 : Int), .string T2] 43)) U.heap.size 43 [.int .i64 (N0 : Int), .int .i64 (N1 : Int), .string T2] from heap_alloc_new U _)
          have SC := hid (SB2.out.on hY)
          have RC := hid (row_onK RB2.out hY)
          have hM : Hid (SessionsAt (U.alloc (.cells #[.int .i64 (N0 : Int), .int .i64 (N1 : Int), .string T2] 43)) (some ⟨U.heap.size, 0, none⟩) [(⟨(N0 : Int), (N1 : Int), T2⟩ : SessionD)]) := sessionsAt_of (r := []) Y0
          have hsz : Hid (w.heap.size ≤ (U.alloc (.cells #[.int .i64 (N0 : Int), .int .i64 (N1 : Int), .string T2] 43)).heap.size) := SC.out.2.2.2.size
          have x0 := X2.out.cell (j := 0) rfl
          have x1 := X2.out.cell (j := 1) rfl
          have x2 := X2.out.cell (j := 2) rfl
          have y0 := SB2.out.2.1.cell (j := 0) rfl
          rw [← hdd] at HE2
          rw [← hoo] at HE2
          clear hY Y0 SB2 RB2 X2 HG
          go_wp2_with (at_builtin; refine wpList_append_sessions rfl (.tmp 45) (.tmp 47) rfl rfl (base := w.heap.size) (L := L) (M := [(⟨(N0 : Int), (N1 : Int), T2⟩ : SessionD)]) (N := L.length + 1) rfl rfl rfl (by simp) (by omega) hsz.out RC.out hM.out ?_; intro va' vc' w9 hro hgr; have z0 := (block_grown SC.out.2.1 RC.out hgr (by decide)).cell (j := 0) rfl; have zf := (block_grown SC.out.2.1 RC.out hgr (by decide)).thaw 0)
          have hlow : ∀ g, (Value.slice va L.length vc).ownBlock = some g → w.heap.size ≤ g := fun g hg => by obtain ⟨_, _, h9⟩ := row_block RC.out hg; exact h9
          have hst : St16 w9 (w.heap.size + 1) s p2 := by
            obtain ⟨k, e1, e2, e3⟩ := SC.out.1
            exact ⟨k, e1, block_grown e2 RC.out hgr (by decide), e3⟩
          have S9 : SKIn w w9 s p2 (.slice va L.length vc) (.slice none 0 0) := ⟨hst, block_grown SC.out.2.1 RC.out hgr (by decide), block_grown SC.out.2.2.1 RC.out hgr (by decide), SC.out.2.2.2.grown hgr SC.out.2.2.2.size hlow⟩
          have SN : Hid (SKIn w (w9.setCell ⟨w.heap.size + 1 + 1, 0, none⟩ (.slice va' (L.length + 1) vc')) s p2 (.slice va' (L.length + 1) vc') (.slice none 0 0)) := ⟨st_far S9.1 (by omega) _, S9.2.1.set 0 _, S9.2.2.1.far (by omega) _, S9.2.2.2.setCell (p := ⟨w.heap.size + 1 + 1, 0, none⟩) (show w.heap.size ≤ w.heap.size + 1 + 1 by omega) _⟩
          have RN : Hid ((w9.setCell ⟨w.heap.size + 1 + 1, 0, none⟩ (.slice va' (L.length + 1) vc')).ownsRow w.heap.size 43 3 (.slice va' (L.length + 1) vc') (L.length + 1) (sessionCells (L ++ [(⟨(N0 : Int), (N1 : Int), T2⟩ : SessionD)]))) := row_farK hro S9.2.1 (by decide) _
          clear SC RC hM hsz hro hgr hlow hst S9 x0 x1 x2 y0 c f
          go_wp2
          go_roundg g
          case measure => omega
          case rel =>
            have hl1 : (L ++ [(⟨(N0 : Int), (N1 : Int), T2⟩ : SessionD)]).length = L.length + 1 := by simp
            exact ⟨L ++ [(⟨(N0 : Int), (N1 : Int), T2⟩ : SessionD)], p2, va', vc', by rw [hl1]; omega, (by rw [hl1]; exact (show Value.int IntKind.i64 ((L.length : Int) + 1) = Value.int IntKind.i64 ((L.length + 1 : Nat) : Int) from rfl)), (show SKIn _ _ _ _ _ _ by rw [hl1]; exact SN.out), (show World.ownsRow _ _ _ _ _ _ _ by rw [hl1]; exact RN.out), HE2⟩
  case rest =>
  rename World => w2
  obtain ⟨sa, sc, S2, RS'⟩ := hcut
  obtain ⟨ls, hls⟩ : ∃ l, (ask1 s).1 = l := ⟨_, rfl⟩
  obtain ⟨o2, ho2⟩ : ∃ l, (ask1 s).2 = l := ⟨_, rfl⟩
  rw [hls] at S2 RS'
  rw [ho2] at S2
  go_wp2_with fail
  refine (D.out _ _ S2.out.1).mono ?_
  rintro e w3 ⟨rfl, h9, g9⟩
  have S3 := hid (S2.out.grown h9 g9)
  have RS : Hid (w3.ownsRow w.heap.size 43 3 (.slice sa ls.length sc) ls.length (sessionCells ls)) := row_cur RS'.out S2.out.1 g9 (by decide)
  clear h9 g9 S2 RS' S1 R1 HA1
  obtain ⟨m, hm⟩ : ∃ n, nVal s o2 = n := ⟨_, rfl⟩
  obtain ⟨o3, ho3⟩ : ∃ n, nSt s o2 = n := ⟨_, rfl⟩
  have HA2 : Hid (ask2 s = spRow (itV s) (itO s) (min m 50) o3) := (show _ = _ by rw [ask2, ho2, hm, ho3])
  rw [ho3] at S3
  rw [hm]
  have hmb : m ≤ 1000000000 := by rw [← hm]; exact nVal_le _ _
  clear hm ho3
  have HLS := hid (And.intro hls ho2)
  clear hls ho2
  have R3 : Hid (w3.ownsRow w.heap.size 46 3 (.slice none 0 0) 0 (itemCells [])) := ⟨rfl, Or.inl ⟨rfl, rfl⟩⟩
  go_upto_block 2 with fail
  go_cut [] (fun wx => ∃ (va : Option Addr) (vc : Nat), Hid (SKIn w wx s (ask2 s).2 (.slice sa ls.length sc) (.slice va (ask2 s).1.length vc)) ∧ Hid (wx.ownsRow w.heap.size 46 3 (.slice va (ask2 s).1.length vc) (ask2 s).1.length (itemCells (ask2 s).1)) ∧ Hid (wx.ownsRow w.heap.size 43 3 (.slice sa ls.length sc) ls.length (sessionCells ls)))
  case first =>
    go_wp2_with fail
    go_loopg [9] (min m 50) (fun g i wr => ∃ (L : List ItemD) (o' : Option Nat) (va : Option Addr) (vc : Nat), L.length + g = min m 50 ∧ i = .int .i64 (L.length : Int) ∧ Hid (SKIn w wr s o' (.slice sa ls.length sc) (.slice va L.length vc)) ∧ Hid (wr.ownsRow w.heap.size 46 3 (.slice va L.length vc) L.length (itemCells L)) ∧ Hid (ask2 s = (L ++ (spRow (itV s) (itO s) g o').1, (spRow (itV s) (itO s) g o').2)) ∧ Hid (wr.ownsRow w.heap.size 43 3 (.slice sa ls.length sc) ls.length (sessionCells ls)))
    case atStart => exact ⟨[], o3, none, 0, by simp, rfl, S3.out, R3.out, (show _ = _ by rw [HA2.out]; rfl), RS.out⟩
    case round =>
      obtain ⟨L, o', va, vc, hkg, rfl, SR, RR, HE, RO⟩ := hrel
      obtain ⟨kc, hkc, hcu, hj⟩ := SR.out.1
      have cb := BlockIs.cell hcu (j := 2) rfl
      have hb2 := BlockIs.lt hcu
      cases gk with
      | zero =>
        have HQ : Hid (ask2 s = (L, o')) := (show _ = _ by have := HE.out; rw [spRow] at this; simpa using this)
        have HS : Hid (SKIn w wr s (ask2 s).2 (.slice sa ls.length sc) (.slice va (ask2 s).1.length vc)) := (show SKIn _ _ _ _ _ _ by rw [HQ.out]; exact SR.out)
        have HRW : Hid (wr.ownsRow w.heap.size 46 3 (.slice va (ask2 s).1.length vc) (ask2 s).1.length (itemCells (ask2 s).1)) := (show World.ownsRow _ _ _ _ _ _ _ by rw [HQ.out]; exact RR.out)
        by_cases h50 : m ≤ 50
        · have hl9 : L.length = m := by omega
          have hlt : ¬ (L.length : Int) < (m : Int) := by omega
          have hlt0 : ¬ L.length < m := by omega
          have hltd : decide (L.length < m) = false := by simp; omega
          clear hcu hj SR RR HE HQ hkg hl9
          go_wp2
          go_meet
          exact ⟨va, vc, HS, HRW, RO⟩
        · have hl9 : L.length = 50 := by omega
          have hlt : (L.length : Int) < (m : Int) := by omega
          have hlt0 : L.length < m := by omega
          have hltd : decide (L.length < m) = true := by simp; omega
          have hlt5 : ¬ (L.length : Int) < 50 := by omega
          have hltd5 : decide ((L.length : Int) < 50) = false := by simp; omega
          clear hcu hj SR RR HE HQ hkg hl9
          go_wp2
          go_meet
          exact ⟨va, vc, HS, HRW, RO⟩
      | succ g =>
        have hlt : (L.length : Int) < (m : Int) := by omega
        have hlt0 : L.length < m := by omega
        have hltd : decide ((L.length : Int) < (m : Int)) = true := by simp; omega
        have hlt5 : (L.length : Int) < 50 := by omega
        have hltd5 : decide ((L.length : Int) < 50) = true := by simp; omega
        have hL50 : L.length < 50 := by omega
        cases o' with
        | none =>
          have HQ : Hid (ask2 s = (L, none)) := (show _ = _ by have := HE.out; rw [spRow_none] at this; simpa using this)
          have HS : Hid (SKIn w wr s (ask2 s).2 (.slice sa ls.length sc) (.slice va (ask2 s).1.length vc)) := (show SKIn _ _ _ _ _ _ by rw [HQ.out]; exact SR.out)
          have HRW : Hid (wr.ownsRow w.heap.size 46 3 (.slice va (ask2 s).1.length vc) (ask2 s).1.length (itemCells (ask2 s).1)) := (show World.ownsRow _ _ _ _ _ _ _ by rw [HQ.out]; exact RR.out)
          clear hcu hj SR RR HE HQ
          go_wp2
          go_meet
          exact ⟨va, vc, HS, HRW, RO⟩
        | some kk =>
          have HE2 : Hid (ask2 s = ((L ++ [itV s (some kk)]) ++ (spRow (itV s) (itO s) g (itO s (some kk))).1, (spRow (itV s) (itO s) g (itO s (some kk))).2)) := (show _ = _ by rw [HE.out, spRow]; simp)
          obtain ⟨dd, hdd⟩ : ∃ d, itV s (some kk) = d := ⟨_, rfl⟩
          obtain ⟨oo, hoo⟩ : ∃ d, itO s (some kk) = d := ⟨_, rfl⟩
          rw [hdd, hoo] at HE2
          unfold itV at hdd
          unfold itO at hoo
          clear hcu hj HE
          go_wp2_with fail
          refine (E.out _ _ SR.out.1).mono ?_
          rintro e wa ⟨rfl, h9, g9⟩
          have RA0 := hid (row_cur RR.out SR.out.1 g9 (by decide))
          have RO0 := hid (row_cur RO.out SR.out.1 g9 (by decide))
          have SA0 := SR.out.grown h9 g9
          obtain ⟨T0, hT0⟩ : ∃ x, tVal s (some kk) = x := ⟨_, rfl⟩
          obtain ⟨p0, hp0⟩ : ∃ x, tSt s (some kk) = x := ⟨_, rfl⟩
          rw [hp0] at SA0
          rw [hT0]
          rw [hT0, hp0] at hdd
          rw [hp0] at hoo
          clear hT0 hp0 h9 g9
          have hq9 : w.heap.size + 1 + 1 < wa.heap.size := SA0.2.1.lt
          have hX := below_more (Below.refl wa.heap.size wa) (.cells #[.string T0, .string ⟨#[]⟩, .int .i64 0] 46)
          have X0 : Hid (BlockIs (wa.alloc (.cells #[.string T0, .string ⟨#[]⟩, .int .i64 0] 46)) wa.heap.size 46 [.string T0, .string ⟨#[]⟩, .int .i64 0]) := heap_alloc_new wa _
          have HG : Hid (∀ g, (Value.slice va L.length vc).ownBlock = some g → g < wa.heap.size) := fun g hg => row_under RA0.out hg
          have SB0 := hid (SA0.on hX)
          have RB0 := hid (row_onK RA0.out hX)
          have ROf0 := hid (row_onK RO0.out hX)
          clear hX SA0 RA0 SR RR RO RO0
          obtain ⟨X, hXX⟩ : ∃ x, wa.heap.size = x := ⟨_, rfl⟩
          rw [hXX] at hq9 X0 HG
          have HXX := hid hXX
          clear hXX
          go_wp2_with fail
          rw [HXX.out]
          refine (E.out _ _ SB0.out.1).mono ?_
          rintro e wb ⟨rfl, h9, g9⟩
          have RA1 := hid (row_cur RB0.out SB0.out.1 g9 (by decide))
          have XA1 := blk_grown X0.out g9 (by omega)
          have RO1 := hid (row_cur ROf0.out SB0.out.1 g9 (by decide))
          have SA1 := SB0.out.grown h9 g9
          obtain ⟨T1, hT1⟩ : ∃ x, tVal s (p0) = x := ⟨_, rfl⟩
          obtain ⟨p1, hp1⟩ : ∃ x, tSt s (p0) = x := ⟨_, rfl⟩
          rw [hp1] at SA1
          rw [hT1]
          rw [hT1, hp1] at hdd
          rw [hp1] at hoo
          clear hT1 hp1 h9 g9
          have c := XA1.cell (j := 1) rfl
          have f := XA1.thaw 1
          have X1 := hid (XA1.set 1 (.string T1))
          have SB1 := hid (SA1.far (x := X) (j := 1) hq9 (.string T1))
          have RB1 := hid (row_farG (x := X) (j := 1) (u := .string T1) RA1.out HG.out)
          have ROf1 := hid (row_farK (j := 1) RO1.out XA1 (by decide) (.string T1))
          clear XA1 SA1 RA1 X0 SB0 RB0 RO1 ROf0
          go_wp2_with fail
          refine (D.out _ _ SB1.out.1).mono ?_
          rintro e wc ⟨rfl, h9, g9⟩
          have RA2 := hid (row_cur RB1.out SB1.out.1 g9 (by decide))
          have XA2 := blk_grown X1.out g9 (by omega)
          have RO2 := hid (row_cur ROf1.out SB1.out.1 g9 (by decide))
          have SA2 := SB1.out.grown h9 g9
          obtain ⟨N2, hN2⟩ : ∃ x, nVal s (p1) = x := ⟨_, rfl⟩
          obtain ⟨p2, hp2⟩ : ∃ x, nSt s (p1) = x := ⟨_, rfl⟩
          rw [hp2] at SA2
          rw [hN2]
          rw [hN2] at hdd
          rw [hp2] at hoo
          clear hN2 hp2 h9 g9
          have c := XA2.cell (j := 2) rfl
          have f := XA2.thaw 2
          have X2 := hid (XA2.set 2 (.int .i64 (N2 : Int)))
          have SB2 := hid (SA2.far (x := X) (j := 2) hq9 (.int .i64 (N2 : Int)))
          have RB2 := hid (row_farG (x := X) (j := 2) (u := .int .i64 (N2 : Int)) RA2.out HG.out)
          have ROf2 := hid (row_farK (j := 2) RO2.out XA2 (by decide) (.int .i64 (N2 : Int)))
          clear XA2 SA2 RA2 X1 SB1 RB1 RO2 ROf1
          obtain ⟨U, hU⟩ : ∃ U, wc.setCell ⟨X, 2, none⟩ (.int .i64 (N2 : Int)) = U := ⟨_, rfl⟩
          rw [hU] at X2 SB2 RB2 ROf2
          have hY := below_more (Below.refl U.heap.size U) (.cells #[.string T0, .string T1, .int .i64 (N2 : Int)] 46)
          have Y0 := (show BlockIs (U.alloc (.cells #[.string T0, .string T1, .int .i64 (N2 : Int)] 46)) U.heap.size 46 [.string T0, .string T1, .int .i64 (N2 : Int)] from heap_alloc_new U _)
          have SC := hid (SB2.out.on hY)
          have RC := hid (row_onK RB2.out hY)
          have ROC := hid (row_onK ROf2.out hY)
          have hM : Hid (ItemsAt (U.alloc (.cells #[.string T0, .string T1, .int .i64 (N2 : Int)] 46)) (some ⟨U.heap.size, 0, none⟩) [(⟨T0, T1, (N2 : Int)⟩ : ItemD)]) := itemsAt_of (r := []) Y0
          have hsz : Hid (w.heap.size ≤ (U.alloc (.cells #[.string T0, .string T1, .int .i64 (N2 : Int)] 46)).heap.size) := SC.out.2.2.2.size
          have x0 := X2.out.cell (j := 0) rfl
          have x1 := X2.out.cell (j := 1) rfl
          have x2 := X2.out.cell (j := 2) rfl
          have y0 := SB2.out.2.1.cell (j := 1) rfl
          rw [← hdd] at HE2
          rw [← hoo] at HE2
          clear hY Y0 SB2 RB2 X2 HG ROf2
          go_wp2_with (at_builtin; refine wpList_append_items rfl (.tmp 78) (.tmp 80) rfl rfl (base := w.heap.size) (L := L) (M := [(⟨T0, T1, (N2 : Int)⟩ : ItemD)]) (N := L.length + 1) rfl rfl rfl (by simp) (by omega) hsz.out RC.out hM.out ?_; intro va' vc' w9 hro hgr; have z0 := (block_grown SC.out.2.1 RC.out hgr (by decide)).cell (j := 1) rfl; have zf := (block_grown SC.out.2.1 RC.out hgr (by decide)).thaw 1)
          have hlow : ∀ g, (Value.slice va L.length vc).ownBlock = some g → w.heap.size ≤ g := fun g hg => by obtain ⟨_, _, h9⟩ := row_block RC.out hg; exact h9
          have hst : St16 w9 (w.heap.size + 1) s p2 := by
            obtain ⟨k, e1, e2, e3⟩ := SC.out.1
            exact ⟨k, e1, block_grown e2 RC.out hgr (by decide), e3⟩
          have S9 : SKIn w w9 s p2 (.slice sa ls.length sc) (.slice va L.length vc) := ⟨hst, block_grown SC.out.2.1 RC.out hgr (by decide), block_grown SC.out.2.2.1 RC.out hgr (by decide), SC.out.2.2.2.grown hgr SC.out.2.2.2.size hlow⟩
          have SN : Hid (SKIn w (w9.setCell ⟨w.heap.size + 1 + 1, 1, none⟩ (.slice va' (L.length + 1) vc')) s p2 (.slice sa ls.length sc) (.slice va' (L.length + 1) vc')) := ⟨st_far S9.1 (by omega) _, S9.2.1.set 1 _, S9.2.2.1.far (by omega) _, S9.2.2.2.setCell (p := ⟨w.heap.size + 1 + 1, 1, none⟩) (show w.heap.size ≤ w.heap.size + 1 + 1 by omega) _⟩
          have RN : Hid ((w9.setCell ⟨w.heap.size + 1 + 1, 1, none⟩ (.slice va' (L.length + 1) vc')).ownsRow w.heap.size 46 3 (.slice va' (L.length + 1) vc') (L.length + 1) (itemCells (L ++ [(⟨T0, T1, (N2 : Int)⟩ : ItemD)]))) := row_farK hro S9.2.1 (by decide) _
          have RON := hid (row_farK (j := 1) (row_grownK ROC.out RC.out hgr (by decide)) S9.2.1 (by decide) (.slice va' (L.length + 1) vc'))
          clear SC RC hM hsz hro hgr hlow hst S9 x0 x1 x2 y0 c f ROC
          go_wp2
          go_roundg g
          case measure => omega
          case rel =>
            have hl1 : (L ++ [(⟨T0, T1, (N2 : Int)⟩ : ItemD)]).length = L.length + 1 := by simp
            exact ⟨L ++ [(⟨T0, T1, (N2 : Int)⟩ : ItemD)], p2, va', vc', by rw [hl1]; omega, (by rw [hl1]; exact (show Value.int IntKind.i64 ((L.length : Int) + 1) = Value.int IntKind.i64 ((L.length + 1 : Nat) : Int) from rfl)), (show SKIn _ _ _ _ _ _ by rw [hl1]; exact SN.out), (show World.ownsRow _ _ _ _ _ _ _ by rw [hl1]; exact RN.out), HE2, RON.out⟩
  case rest =>
  rename World => w4
  obtain ⟨ia, ic, S4, I4, R4⟩ := hcut
  obtain ⟨li, hli⟩ : ∃ l, (ask2 s).1 = l := ⟨_, rfl⟩
  obtain ⟨o4, ho4⟩ : ∃ l, (ask2 s).2 = l := ⟨_, rfl⟩
  rw [hli] at S4 I4
  rw [ho4] at S4
  have hln : ls.length ≤ 50 := by rw [← HLS.out.1, ask1]; exact Nat.le_trans (spRow_len _ _) (Nat.min_le_right _ _)
  have hlm : li.length ≤ 50 := by rw [← hli, ask2]; exact Nat.le_trans (spRow_len _ _) (Nat.min_le_right _ _)
  have HQ : Hid (R = if o4.isSome = true ∧ keepOk ls li = true ∧ keepText ls li = s then some (ls, li) else none) := (show _ = _ by rw [← HASK.out, askKeep, hli, ho4, HLS.out.1])
  clear hli ho4 HASK HLS S3 R3 RS HA2 D E
  have q0 := S4.out.2.1.cell (j := 0) rfl
  have q1 := S4.out.2.1.cell (j := 1) rfl
  go_wp2_with fail
  refine (specKeepText_any sa ia ls li sc ic (by omega) (by omega) _ (sessionR_at R4.out) (itemR_at I4.out)).mono ?_
  rintro e w5 ⟨rfl, b5⟩
  have S5 := hid (S4.out.on b5)
  have I5 := hid (row_onK I4.out b5)
  have R5 := hid (row_onK R4.out b5)
  clear b5 S4 I4 R4 q0 q1
  obtain ⟨kc, hkc, hcu, _⟩ := S5.out.1
  have cb := BlockIs.cell hcu (j := 2) rfl
  clear hcu
  have q0 := S5.out.2.1.cell (j := 0) rfl
  have q1 := S5.out.2.1.cell (j := 1) rfl
  have p0 := S5.out.2.2.1.cell (j := 0) rfl
  have p1 := S5.out.2.2.1.cell (j := 1) rfl
  have pf0 := S5.out.2.2.1.thaw 0
  have pf1 := S5.out.2.2.1.thaw 1
  cases o4 with
  | none =>
    have ha : ∃ T ok, keepAns ls li = .tuple #[.string T, .bool ok] := by unfold keepAns; split <;> exact ⟨_, _, rfl⟩
    obtain ⟨T, ok, ha⟩ := ha
    rw [ha]
    clear ha
    have HN : Hid (R = none) := (show _ = _ by rw [HQ.out]; exact if_neg (by simp))
    go_wp2
    have PZ := (S5.out.2.2.1.set 0 (.slice none 0 0)).set 1 (.slice none 0 0)
    have d0 := PZ.cell (j := 0) rfl
    have d1 := PZ.cell (j := 1) rfl
    refine bodyPost_ret (v := .tuple #[.agg #[.slice none 0 0, .slice none 0 0], .bool false]) (by simp [results, Try.results5, go_sem, d0, d1]) rfl ?_
    show rkDid R w _ _
    rw [HN.out]
    exact rk_none ((S5.out.2.2.2.setCell (p := ⟨w.heap.size, 0, none⟩) (Nat.le_refl _) _).setCell (p := ⟨w.heap.size, 1, none⟩) (Nat.le_refl _) _)
  | some k6 =>
    cases hok : keepOk ls li with
    | false =>
      have ha : keepAns ls li = .tuple #[.string ByteArray.empty, .bool false] := by unfold keepAns; rw [hok]; rfl
      rw [ha]
      have HK := hid hok
      clear ha hok
      have HN : Hid (R = none) := (show _ = _ by rw [HQ.out]; exact if_neg (by rw [HK.out]; simp))
      go_wp2
      have PZ := (S5.out.2.2.1.set 0 (.slice none 0 0)).set 1 (.slice none 0 0)
      have d0 := PZ.cell (j := 0) rfl
      have d1 := PZ.cell (j := 1) rfl
      refine bodyPost_ret (v := .tuple #[.agg #[.slice none 0 0, .slice none 0 0], .bool false]) (by simp [results, Try.results5, go_sem, d0, d1]) rfl ?_
      show rkDid R w _ _
      rw [HN.out]
      exact rk_none ((S5.out.2.2.2.setCell (p := ⟨w.heap.size, 0, none⟩) (Nat.le_refl _) _).setCell (p := ⟨w.heap.size, 1, none⟩) (Nat.le_refl _) _)
    | true =>
      have ha : keepAns ls li = .tuple #[.string (keepText ls li), .bool true] := by unfold keepAns; rw [hok]; rfl
      rw [ha]
      have HK := hid hok
      clear ha hok
      by_cases ht : keepText ls li = s
      rotate_left
      · obtain ⟨T, hT⟩ : ∃ T, keepText ls li = T := ⟨_, rfl⟩
        rw [hT] at ht HQ ⊢
        have hl : (T.toList == s.toList) = false := by rw [beq_eq_false_iff_ne]; intro q; rw [ByteArray.toList_eq, ByteArray.toList_eq] at q; exact ht (ByteArray.ext (Array.toList_inj.1 q))
        have HT := hid ht
        clear hT ht
        have HN : Hid (R = none) := (show _ = _ by rw [HQ.out]; exact if_neg (fun q => HT.out q.2.2))
        go_wp2
        have PZ := (S5.out.2.2.1.set 0 (.slice none 0 0)).set 1 (.slice none 0 0)
        have d0 := PZ.cell (j := 0) rfl
        have d1 := PZ.cell (j := 1) rfl
        refine bodyPost_ret (v := .tuple #[.agg #[.slice none 0 0, .slice none 0 0], .bool false]) (by simp [results, Try.results5, go_sem, d0, d1]) rfl ?_
        show rkDid R w _ _
        rw [HN.out]
        exact rk_none ((S5.out.2.2.2.setCell (p := ⟨w.heap.size, 0, none⟩) (Nat.le_refl _) _).setCell (p := ⟨w.heap.size, 1, none⟩) (Nat.le_refl _) _)
      · rw [ht]
        have HN : Hid (R = some (ls, li)) := (show _ = _ by rw [HQ.out]; exact if_pos ⟨rfl, HK.out, ht⟩)
        clear ht HQ HK
        go_wp2
        have PZ := (S5.out.2.2.1.set 0 (.slice sa ls.length sc)).set 1 (.slice ia li.length ic)
        have d0 := PZ.cell (j := 0) rfl
        have d1 := PZ.cell (j := 1) rfl
        refine bodyPost_ret (v := .tuple #[.agg #[.slice sa ls.length sc, .slice ia li.length ic], .bool true]) (by simp [results, Try.results5, go_sem, d0, d1]) rfl ?_
        show rkDid R w _ _
        rw [HN.out]
        exact ⟨sa, sc, ia, ic, rfl, (KRows.far (show KRows w5 w.heap.size _ _ ls li from ⟨R5.out, I5.out⟩) S5.out.2.2.1 (by decide) (by decide) _).far (S5.out.2.2.1.set 0 _) (by decide) (by decide) _, (S5.out.2.2.2.setCell (p := ⟨w.heap.size, 0, none⟩) (Nat.le_refl _) _).setCell (p := ⟨w.heap.size, 1, none⟩) (Nat.le_refl _) _⟩
end Go.Proofs.Ytpbcblehebfpkaa
