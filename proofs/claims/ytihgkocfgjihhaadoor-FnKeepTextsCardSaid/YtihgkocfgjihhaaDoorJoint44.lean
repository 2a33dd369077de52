/-
  The walk of spec.ReadKeep: what it answers.
  The walk of spec.ReadCommand: what it answers.
  The walk of impl.textReader's method oneByte.
  The walk of impl.CommandOk: what it answers.
  The walk of impl.textReader's method command.
-/
import Derived.Test.YtihgkocfgjihhaaDoorJoint43
import Derived.Test.YtihgkocfgjihhaaDoorJoint23
import Derived.Test.YtihgkocfgjihhaaDoorJoint28
import Derived.Deep.CutBlock
import Derived.Deep.DeepCutAuto
import Derived.Deep.LoopGhost
import Derived.Test.YtihgkocfgjihhaaDoorJoint24
import Derived.Test.YtihgkocfgjihhaaDoorJoint1
import Derived.Test.YtihgkocfgjihhaaDoorJoint10
import Derived.Test.YtihgkocfgjihhaaDoorJoint26
import Derived.Test.YtihgkocfgjihhaaDoorJoint34
import Derived.Deep.QuietTactic
import Derived.BigQuiet
import Derived.Lib.QuietBelow
import Derived.Test.YtihgkocfgjihhaaDoorRows
namespace Go.Proofs.YtihgkocfgjihhaaDoor
open Go.RowKit Go.Sort

theorem row_keepG {w w' : World} {base size n : Nat} {t : TypeId} {v : Value} {xs : List Value} (h : w.ownsRow base t size v n xs) (hb : ∀ g, v.ownBlock = some g → ∀ cs, BlockIs w g t cs → BlockIs w' g t cs) : w'.ownsRow base t size v n xs := by
  refine ⟨h.1, h.2.imp id ?_⟩
  rintro ⟨g, cap, cur, a, b, c, r⟩
  have := hb g (by rw [a]; rfl) cur.toList (by unfold BlockIs; rw [c])
  unfold BlockIs at this
  exact ⟨g, cap, cur, a, b, by rw [this], r⟩
/-- where the walk stands: the cursor, the keep's box, the answer's box -/
def SKIn (w W : World) (s : ByteArray) (o : Option Nat) (a c : Value) : Prop := St16 W (w.heap.size + 1) s o ∧ BlockIs W (w.heap.size + 1 + 1) 27 [a, c] ∧ BlockIs W w.heap.size 27 [.slice none 0 0, .slice none 0 0] ∧ Below w.heap.size w W
theorem SKIn.grown {w W W' : World} {s : ByteArray} {o o' : Option Nat} {a c : Value} (h : SKIn w W s o a c) (hs : St16 W' (w.heap.size + 1) s o') (hg : W.grownBy W' (some (w.heap.size + 1))) : SKIn w W' s o' a c :=
  ⟨hs, blk_grown h.2.1 hg (by omega), blk_grown h.2.2.1 hg (by omega), below_grown h.2.2.2 hg (Nat.le_succ _) h.2.2.2.size⟩
theorem SKIn.on {w W W' : World} {s : ByteArray} {o : Option Nat} {a c : Value} (h : SKIn w W s o a c) (hb : Below W.heap.size W W') : SKIn w W' s o a c :=
  ⟨st_on h.1 hb, h.2.1.on hb h.2.1.lt, h.2.2.1.on hb h.2.2.1.lt, below_via h.2.2.2 hb⟩
theorem SKIn.far {w W : World} {s : ByteArray} {o : Option Nat} {a c : Value} (h : SKIn w W s o a c) {x j : Nat} (hx : w.heap.size + 1 + 1 < x) (u : Value) : SKIn w (W.setCell ⟨x, j, none⟩ u) s o a c :=
  ⟨st_far h.1 (by omega) u, h.2.1.far (by omega) u, h.2.2.1.far (by omega) u, h.2.2.2.setCell (p := ⟨x, j, none⟩) (show w.heap.size ≤ x by omega) u⟩
theorem row_curS {w W W' : World} {s : ByteArray} {o : Option Nat} {base size n : Nat} {t : TypeId} {v : Value} {xs : List Value} (h : W.ownsRow base t size v n xs) (hc : St16 W (w.heap.size + 1) s o) (hg : W.grownBy W' (some (w.heap.size + 1))) (ht : t ≠ 72) : W'.ownsRow base t size v n xs := by
  obtain ⟨k, _, hk, _⟩ := hc
  exact row_ext h fun g cs hb => blk_grown hb hg (fun e => by subst e; exact ht (block_one hb hk).1)
theorem row_under {w : World} {base size n g : Nat} {t : TypeId} {v : Value} {xs : List Value} (h : w.ownsRow base t size v n xs) (hv : v.ownBlock = some g) : g < w.heap.size := by
  obtain ⟨_, hb, _⟩ := row_block h hv
  exact hb.lt
theorem row_farG {w : World} {base size n x j : Nat} {t : TypeId} {v u : Value} {xs : List Value} (h : w.ownsRow base t size v n xs) (hx : ∀ g, v.ownBlock = some g → g < x) : (w.setCell ⟨x, j, none⟩ u).ownsRow base t size v n xs :=
  row_keepG h fun g hg cs hb => hb.far (fun e => by have := hx g hg; omega) u
theorem numAt_le {s : ByteArray} {lim k n k' : Nat} (h : numAt s lim k = some (n, k')) : n ≤ lim := by
  unfold numAt at h
  cases hv : rv (s.data.toList.drop k) with
  | none => rw [hv] at h; cases h
  | some p =>
    obtain ⟨a, c⟩ := p
    rw [hv] at h
    dsimp only at h
    by_cases hl : a ≤ lim
    · rw [if_pos hl] at h; cases h; exact hl
    · rw [if_neg hl] at h; cases h
theorem nVal_le (s : ByteArray) (o : Option Nat) : nVal s o ≤ 1000000000 := by
  cases o with
  | none => exact Nat.zero_le _
  | some k =>
    cases h : numAt s 1000000000 k with
    | none => simp [nVal, h]
    | some p => obtain ⟨a, b⟩ := p; have := numAt_le h; simpa [nVal, h] using this
theorem spRow_none {α : Type} {v : Option Nat → α} {st : Option Nat → Option Nat} (f : Nat) : spRow v st f none = ([], none) := by cases f <;> rfl
theorem spRow_len {α : Type} {v : Option Nat → α} {st : Option Nat → Option Nat} : ∀ (f : Nat) (o : Option Nat), (spRow v st f o).1.length ≤ f
  | 0, _ => Nat.le_refl _
  | f + 1, none => Nat.zero_le _
  | f + 1, some k => by simp only [spRow, List.length_cons]; have := spRow_len (v := v) (st := st) f (st (some k)); omega
set_option maxRecDepth 1000000 in
set_option maxHeartbeats 8000000 in
theorem specReadKeep_any (s : ByteArray) (hs : s.size ≤ 1048576) (w : World) : Calls Tryd.prog 11 #[.string s] w fun e w' => rkDid (readKeep s) w e w' := by
  have hask := ask_keep s
  have h3 := three_blocks w (.cells #[.slice none 0 0, .slice none 0 0] 27) (.cells #[.string s, .int .i64 0, .bool false] 72) (.cells #[.slice none 0 0, .slice none 0 0] 27)
  have S0 : Hid (SKIn w _ s (some 0) (.slice none 0 0) (.slice none 0 0)) := ⟨⟨0, Nat.zero_le _, h3.2.2.2.1, fun j e => by cases e; rfl⟩, h3.2.2.2.2, h3.2.2.1, h3.1⟩
  clear h3
  have D := hid (fun W o h => l16Var_n (w.heap.size + 1) s hs o W h)
  have E := hid (fun W o h => l16ReadShort_n (w.heap.size + 1) s hs o W h)
  obtain ⟨R, hR⟩ : ∃ R, readKeep s = R := ⟨_, rfl⟩
  rw [hR] at hask ⊢
  have HASK := hid hask
  clear hask hR
  go_enter Tryd.func11, Tryd.ntmps11
  go_wp2_with fail
  refine (D.out _ _ S0.out.1).mono ?_
  rintro e w1 ⟨rfl, h1, g1⟩
  have S1 := hid (S0.out.grown h1 g1)
  clear h1 g1 S0
  obtain ⟨n, hn⟩ : ∃ n, nVal s (some 0) = n := ⟨_, rfl⟩
  obtain ⟨o1, ho1⟩ : ∃ n, nSt s (some 0) = n := ⟨_, rfl⟩
  have HA1 : Hid (ask1 s = spRow (sesV s) (sesO s) (min n 50) o1) := (show _ = _ by rw [ask1, hn, ho1])
  rw [ho1] at S1
  rw [hn]
  have hnb : n ≤ 1000000000 := by rw [← hn]; exact nVal_le _ _
  clear hn ho1
  have R1 : Hid (w1.ownsRow w.heap.size 55 3 (.slice none 0 0) 0 (sessionCells [])) := ⟨rfl, Or.inl ⟨rfl, rfl⟩⟩
  go_upto_block 0 with fail
  go_cut [] (fun wx => ∃ (va : Option Addr) (vc : Nat), Hid (SKIn w wx s (ask1 s).2 (.slice va (ask1 s).1.length vc) (.slice none 0 0)) ∧ Hid (wx.ownsRow w.heap.size 55 3 (.slice va (ask1 s).1.length vc) (ask1 s).1.length (sessionCells (ask1 s).1)))
  case first =>
    go_wp2_with fail
    go_loopg [7] (min n 50) (fun g i wr => ∃ (L : List SessionD) (o' : Option Nat) (va : Option Addr) (vc : Nat), L.length + g = min n 50 ∧ i = .int .i64 (L.length : Int) ∧ Hid (SKIn w wr s o' (.slice va L.length vc) (.slice none 0 0)) ∧ Hid (wr.ownsRow w.heap.size 55 3 (.slice va L.length vc) L.length (sessionCells L)) ∧ Hid (ask1 s = (L ++ (spRow (sesV s) (sesO s) g o').1, (spRow (sesV s) (sesO s) g o').2)))
    case atStart => exact ⟨[], o1, none, 0, by simp, rfl, S1.out, R1.out, (show _ = _ by rw [HA1.out]; rfl)⟩
    case round =>
      obtain ⟨L, o', va, vc, hkg, rfl, SR, RR, HE⟩ := hrel
      obtain ⟨kc, hkc, hcu, hj⟩ := SR.out.1
      have cb := BlockIs.cell hcu (j := 2) rfl
      have hb2 := BlockIs.lt hcu
      cases gk with
      | zero =>
        have HQ : Hid (ask1 s = (L, o')) := (show _ = _ by have := HE.out; rw [spRow] at this; simpa using this)
        have HS : Hid (SKIn w wr s (ask1 s).2 (.slice va (ask1 s).1.length vc) (.slice none 0 0)) := (show SKIn _ _ _ _ _ _ by rw [HQ.out]; exact SR.out)
        have HRW : Hid (wr.ownsRow w.heap.size 55 3 (.slice va (ask1 s).1.length vc) (ask1 s).1.length (sessionCells (ask1 s).1)) := (show World.ownsRow _ _ _ _ _ _ _ by rw [HQ.out]; exact RR.out)
        by_cases h50 : n ≤ 50
        · have hl9 : L.length = n := by omega
          have hlt : ¬ (L.length : Int) < (n : Int) := by omega
          have hlt0 : ¬ L.length < n := by omega
          have hltd : decide (L.length < n) = false := by simp; omega
          clear hcu hj SR RR HE HQ hkg hl9
          go_wp2
          go_meet
          exact ⟨va, vc, HS, HRW⟩
        · have hl9 : L.length = 50 := by omega
          have hlt : (L.length : Int) < (n : Int) := by omega
          have hlt0 : L.length < n := by omega
          have hltd : decide (L.length < n) = true := by simp; omega
          have hlt5 : ¬ (L.length : Int) < 50 := by omega
          have hltd5 : decide ((L.length : Int) < 50) = false := by simp; omega
          clear hcu hj SR RR HE HQ hkg hl9
          go_wp2
          go_meet
          exact ⟨va, vc, HS, HRW⟩
      | succ g =>
        have hlt : (L.length : Int) < (n : Int) := by omega
        have hlt0 : L.length < n := by omega
        have hltd : decide ((L.length : Int) < (n : Int)) = true := by simp; omega
        have hlt5 : (L.length : Int) < 50 := by omega
        have hltd5 : decide ((L.length : Int) < 50) = true := by simp; omega
        have hL50 : L.length < 50 := by omega
        cases o' with
        | none =>
          have HQ : Hid (ask1 s = (L, none)) := (show _ = _ by have := HE.out; rw [spRow_none] at this; simpa using this)
          have HS : Hid (SKIn w wr s (ask1 s).2 (.slice va (ask1 s).1.length vc) (.slice none 0 0)) := (show SKIn _ _ _ _ _ _ by rw [HQ.out]; exact SR.out)
          have HRW : Hid (wr.ownsRow w.heap.size 55 3 (.slice va (ask1 s).1.length vc) (ask1 s).1.length (sessionCells (ask1 s).1)) := (show World.ownsRow _ _ _ _ _ _ _ by rw [HQ.out]; exact RR.out)
          clear hcu hj SR RR HE HQ
          go_wp2
          go_meet
          exact ⟨va, vc, HS, HRW⟩
        | some kk =>
          have HE2 : Hid (ask1 s = ((L ++ [sesV s (some kk)]) ++ (spRow (sesV s) (sesO s) g (sesO s (some kk))).1, (spRow (sesV s) (sesO s) g (sesO s (some kk))).2)) := (show _ = _ by rw [HE.out, spRow]; simp)
          obtain ⟨dd, hdd⟩ : ∃ d, sesV s (some kk) = d := ⟨_, rfl⟩
          obtain ⟨oo, hoo⟩ : ∃ d, sesO s (some kk) = d := ⟨_, rfl⟩
          rw [hdd, hoo] at HE2
          unfold sesV at hdd
          unfold sesO at hoo
          clear hcu hj HE
          go_wp2_with fail
          refine (D.out _ _ SR.out.1).mono ?_
          rintro e wa ⟨rfl, h9, g9⟩
          have RA0 := hid (row_curS RR.out SR.out.1 g9 (by decide))
          have SA0 := SR.out.grown h9 g9
          obtain ⟨N0, hN0⟩ : ∃ x, nVal s (some kk) = x := ⟨_, rfl⟩
          obtain ⟨p0, hp0⟩ : ∃ x, nSt s (some kk) = x := ⟨_, rfl⟩
          rw [hp0] at SA0
          rw [hN0]
          rw [hN0, hp0] at hdd
          rw [hp0] at hoo
          clear hN0 hp0 h9 g9
          have hq9 : w.heap.size + 1 + 1 < wa.heap.size := SA0.2.1.lt
          have hX := below_more (Below.refl wa.heap.size wa) (.cells #[.int .i64 (N0 : Int), .int .i64 0, .string ⟨#[]⟩] 55)
          have X0 : Hid (BlockIs (wa.alloc (.cells #[.int .i64 (N0 : Int), .int .i64 0, .string ⟨#[]⟩] 55)) wa.heap.size 55 [.int .i64 (N0 : Int), .int .i64 0, .string ⟨#[]⟩]) := heap_alloc_new wa _
          have HG : Hid (∀ g, (Value.slice va L.length vc).ownBlock = some g → g < wa.heap.size) := fun g hg => row_under RA0.out hg
          have SB0 := hid (SA0.on hX)
          have RB0 := hid (row_onK RA0.out hX)
          clear hX SA0 RA0 SR RR
          obtain ⟨X, hXX⟩ : ∃ x, wa.heap.size = x := ⟨_, rfl⟩
          rw [hXX] at hq9 X0 HG
          have HXX := hid hXX
          clear hXX
          go_wp2_with fail
          rw [HXX.out]
          refine (D.out _ _ SB0.out.1).mono ?_
          rintro e wb ⟨rfl, h9, g9⟩
          have RA1 := hid (row_curS RB0.out SB0.out.1 g9 (by decide))
          have XA1 := blk_grown X0.out g9 (by omega)
          have SA1 := SB0.out.grown h9 g9
          obtain ⟨N1, hN1⟩ : ∃ x, nVal s (p0) = x := ⟨_, rfl⟩
          obtain ⟨p1, hp1⟩ : ∃ x, nSt s (p0) = x := ⟨_, rfl⟩
          rw [hp1] at SA1
          rw [hN1]
          rw [hN1, hp1] at hdd
          rw [hp1] at hoo
          clear hN1 hp1 h9 g9
          have c := XA1.cell (j := 1) rfl
          have f := XA1.thaw 1
          have X1 := hid (XA1.set 1 (.int .i64 (N1 : Int)))
          have SB1 := hid (SA1.far (x := X) (j := 1) hq9 (.int .i64 (N1 : Int)))
          have RB1 := hid (row_farG (x := X) (j := 1) (u := .int .i64 (N1 : Int)) RA1.out HG.out)
          clear XA1 SA1 RA1 X0 SB0 RB0
          go_wp2_with fail
          refine (E.out _ _ SB1.out.1).mono ?_
          rintro e wc ⟨rfl, h9, g9⟩
          have RA2 := hid (row_curS RB1.out SB1.out.1 g9 (by decide))
          have XA2 := blk_grown X1.out g9 (by omega)
          have SA2 := SB1.out.grown h9 g9
          obtain ⟨T2, hT2⟩ : ∃ x, tVal s (p1) = x := ⟨_, rfl⟩
          obtain ⟨p2, hp2⟩ : ∃ x, tSt s (p1) = x := ⟨_, rfl⟩
          rw [hp2] at SA2
          rw [hT2]
          rw [hT2] at hdd
          rw [hp2] at hoo
          clear hT2 hp2 h9 g9
          have c := XA2.cell (j := 2) rfl
          have f := XA2.thaw 2
          have X2 := hid (XA2.set 2 (.string T2))
          have SB2 := hid (SA2.far (x := X) (j := 2) hq9 (.string T2))
          have RB2 := hid (row_farG (x := X) (j := 2) (u := .string T2) RA2.out HG.out)
          clear XA2 SA2 RA2 X1 SB1 RB1
          obtain ⟨U, hU⟩ : ∃ U, wc.setCell ⟨X, 2, none⟩ (.string T2) = U := ⟨_, rfl⟩
          rw [hU] at X2 SB2 RB2
          have hY := below_more (Below.refl U.heap.size U) (.cells #[.int .i64 (N0 : Int), .int .i64 (N1 : Int), .string T2] 55)
          have Y0 := (show BlockIs (U.alloc (.cells #[.int .i64 (N0 : Int), .int .i64 (N1 : Int), .string T2] 55)) U.heap.size 55 [.int .i64 (N0 : Int), .int .i64 (N1 : Int), .string T2] from heap_alloc_new U _)
          have SC := hid (SB2.out.on hY)
          have RC := hid (row_onK RB2.out hY)
          have hM : Hid (SessionsAt (U.alloc (.cells #[.int .i64 (N0 : Int), .int .i64 (N1 : Int), .string T2] 55)) (some ⟨U.heap.size, 0, none⟩) [(⟨(N0 : Int), (N1 : Int), T2⟩ : SessionD)]) := sessionsAt_of (r := []) Y0
          have hsz : Hid (w.heap.size ≤ (U.alloc (.cells #[.int .i64 (N0 : Int), .int .i64 (N1 : Int), .string T2] 55)).heap.size) := SC.out.2.2.2.size
          have x0 := X2.out.cell (j := 0) rfl
          have x1 := X2.out.cell (j := 1) rfl
          have x2 := X2.out.cell (j := 2) rfl
          have y0 := SB2.out.2.1.cell (j := 0) rfl
          rw [← hdd] at HE2
          rw [← hoo] at HE2
          clear hY Y0 SB2 RB2 X2 HG
          go_wp2_with (at_builtin; refine wpList_append_sessions rfl (.tmp 45) (.tmp 47) rfl rfl (base := w.heap.size) (L := L) (M := [(⟨(N0 : Int), (N1 : Int), T2⟩ : SessionD)]) (N := L.length + 1) rfl rfl rfl (by simp) (by omega) hsz.out RC.out hM.out ?_; intro va' vc' w9 hro hgr; have z0 := (block_grown SC.out.2.1 RC.out hgr (by decide)).cell (j := 0) rfl; have zf := (block_grown SC.out.2.1 RC.out hgr (by decide)).thaw 0)
          have hlow : ∀ g, (Value.slice va L.length vc).ownBlock = some g → w.heap.size ≤ g := fun g hg => by obtain ⟨_, _, h9⟩ := row_block RC.out hg; exact h9
          have hst : St16 w9 (w.heap.size + 1) s p2 := by
            obtain ⟨k, e1, e2, e3⟩ := SC.out.1
            exact ⟨k, e1, block_grown e2 RC.out hgr (by decide), e3⟩
          have S9 : SKIn w w9 s p2 (.slice va L.length vc) (.slice none 0 0) := ⟨hst, block_grown SC.out.2.1 RC.out hgr (by decide), block_grown SC.out.2.2.1 RC.out hgr (by decide), SC.out.2.2.2.grown hgr SC.out.2.2.2.size hlow⟩
          have SN : Hid (SKIn w (w9.setCell ⟨w.heap.size + 1 + 1, 0, none⟩ (.slice va' (L.length + 1) vc')) s p2 (.slice va' (L.length + 1) vc') (.slice none 0 0)) := ⟨st_far S9.1 (by omega) _, S9.2.1.set 0 _, S9.2.2.1.far (by omega) _, S9.2.2.2.setCell (p := ⟨w.heap.size + 1 + 1, 0, none⟩) (show w.heap.size ≤ w.heap.size + 1 + 1 by omega) _⟩
          have RN : Hid ((w9.setCell ⟨w.heap.size + 1 + 1, 0, none⟩ (.slice va' (L.length + 1) vc')).ownsRow w.heap.size 55 3 (.slice va' (L.length + 1) vc') (L.length + 1) (sessionCells (L ++ [(⟨(N0 : Int), (N1 : Int), T2⟩ : SessionD)]))) := row_farK hro S9.2.1 (by decide) _
          clear SC RC hM hsz hro hgr hlow hst S9 x0 x1 x2 y0 c f
          go_wp2
          go_roundg g
          case measure => omega
          case rel =>
            have hl1 : (L ++ [(⟨(N0 : Int), (N1 : Int), T2⟩ : SessionD)]).length = L.length + 1 := by simp
            exact ⟨L ++ [(⟨(N0 : Int), (N1 : Int), T2⟩ : SessionD)], p2, va', vc', by rw [hl1]; omega, (by rw [hl1]; exact (show Value.int IntKind.i64 ((L.length : Int) + 1) = Value.int IntKind.i64 ((L.length + 1 : Nat) : Int) from rfl)), (show SKIn _ _ _ _ _ _ by rw [hl1]; exact SN.out), (show World.ownsRow _ _ _ _ _ _ _ by rw [hl1]; exact RN.out), HE2⟩
  case rest =>
  rename World => w2
  obtain ⟨sa, sc, S2, RS'⟩ := hcut
  obtain ⟨ls, hls⟩ : ∃ l, (ask1 s).1 = l := ⟨_, rfl⟩
  obtain ⟨o2, ho2⟩ : ∃ l, (ask1 s).2 = l := ⟨_, rfl⟩
  rw [hls] at S2 RS'
  rw [ho2] at S2
  go_wp2_with fail
  refine (D.out _ _ S2.out.1).mono ?_
  rintro e w3 ⟨rfl, h9, g9⟩
  have S3 := hid (S2.out.grown h9 g9)
  have RS : Hid (w3.ownsRow w.heap.size 55 3 (.slice sa ls.length sc) ls.length (sessionCells ls)) := row_curS RS'.out S2.out.1 g9 (by decide)
  clear h9 g9 S2 RS' S1 R1 HA1
  obtain ⟨m, hm⟩ : ∃ n, nVal s o2 = n := ⟨_, rfl⟩
  obtain ⟨o3, ho3⟩ : ∃ n, nSt s o2 = n := ⟨_, rfl⟩
  have HA2 : Hid (ask2 s = spRow (itV s) (itO s) (min m 50) o3) := (show _ = _ by rw [ask2, ho2, hm, ho3])
  rw [ho3] at S3
  rw [hm]
  have hmb : m ≤ 1000000000 := by rw [← hm]; exact nVal_le _ _
  clear hm ho3
  have HLS := hid (And.intro hls ho2)
  clear hls ho2
  have R3 : Hid (w3.ownsRow w.heap.size 58 3 (.slice none 0 0) 0 (itemCells [])) := ⟨rfl, Or.inl ⟨rfl, rfl⟩⟩
  go_upto_block 2 with fail
  go_cut [] (fun wx => ∃ (va : Option Addr) (vc : Nat), Hid (SKIn w wx s (ask2 s).2 (.slice sa ls.length sc) (.slice va (ask2 s).1.length vc)) ∧ Hid (wx.ownsRow w.heap.size 58 3 (.slice va (ask2 s).1.length vc) (ask2 s).1.length (itemCells (ask2 s).1)) ∧ Hid (wx.ownsRow w.heap.size 55 3 (.slice sa ls.length sc) ls.length (sessionCells ls)))
  case first =>
    go_wp2_with fail
    go_loopg [9] (min m 50) (fun g i wr => ∃ (L : List ItemD) (o' : Option Nat) (va : Option Addr) (vc : Nat), L.length + g = min m 50 ∧ i = .int .i64 (L.length : Int) ∧ Hid (SKIn w wr s o' (.slice sa ls.length sc) (.slice va L.length vc)) ∧ Hid (wr.ownsRow w.heap.size 58 3 (.slice va L.length vc) L.length (itemCells L)) ∧ Hid (ask2 s = (L ++ (spRow (itV s) (itO s) g o').1, (spRow (itV s) (itO s) g o').2)) ∧ Hid (wr.ownsRow w.heap.size 55 3 (.slice sa ls.length sc) ls.length (sessionCells ls)))
    case atStart => exact ⟨[], o3, none, 0, by simp, rfl, S3.out, R3.out, (show _ = _ by rw [HA2.out]; rfl), RS.out⟩
    case round =>
      obtain ⟨L, o', va, vc, hkg, rfl, SR, RR, HE, RO⟩ := hrel
      obtain ⟨kc, hkc, hcu, hj⟩ := SR.out.1
      have cb := BlockIs.cell hcu (j := 2) rfl
      have hb2 := BlockIs.lt hcu
      cases gk with
      | zero =>
        have HQ : Hid (ask2 s = (L, o')) := (show _ = _ by have := HE.out; rw [spRow] at this; simpa using this)
        have HS : Hid (SKIn w wr s (ask2 s).2 (.slice sa ls.length sc) (.slice va (ask2 s).1.length vc)) := (show SKIn _ _ _ _ _ _ by rw [HQ.out]; exact SR.out)
        have HRW : Hid (wr.ownsRow w.heap.size 58 3 (.slice va (ask2 s).1.length vc) (ask2 s).1.length (itemCells (ask2 s).1)) := (show World.ownsRow _ _ _ _ _ _ _ by rw [HQ.out]; exact RR.out)
        by_cases h50 : m ≤ 50
        · have hl9 : L.length = m := by omega
          have hlt : ¬ (L.length : Int) < (m : Int) := by omega
          have hlt0 : ¬ L.length < m := by omega
          have hltd : decide (L.length < m) = false := by simp; omega
          clear hcu hj SR RR HE HQ hkg hl9
          go_wp2
          go_meet
          exact ⟨va, vc, HS, HRW, RO⟩
        · have hl9 : L.length = 50 := by omega
          have hlt : (L.length : Int) < (m : Int) := by omega
          have hlt0 : L.length < m := by omega
          have hltd : decide (L.length < m) = true := by simp; omega
          have hlt5 : ¬ (L.length : Int) < 50 := by omega
          have hltd5 : decide ((L.length : Int) < 50) = false := by simp; omega
          clear hcu hj SR RR HE HQ hkg hl9
          go_wp2
          go_meet
          exact ⟨va, vc, HS, HRW, RO⟩
      | succ g =>
        have hlt : (L.length : Int) < (m : Int) := by omega
        have hlt0 : L.length < m := by omega
        have hltd : decide ((L.length : Int) < (m : Int)) = true := by simp; omega
        have hlt5 : (L.length : Int) < 50 := by omega
        have hltd5 : decide ((L.length : Int) < 50) = true := by simp; omega
        have hL50 : L.length < 50 := by omega
        cases o' with
        | none =>
          have HQ : Hid (ask2 s = (L, none)) := (show _ = _ by have := HE.out; rw [spRow_none] at this; simpa using this)
          have HS : Hid (SKIn w wr s (ask2 s).2 (.slice sa ls.length sc) (.slice va (ask2 s).1.length vc)) := (show SKIn _ _ _ _ _ _ by rw [HQ.out]; exact SR.out)
          have HRW : Hid (wr.ownsRow w.heap.size 58 3 (.slice va (ask2 s).1.length vc) (ask2 s).1.length (itemCells (ask2 s).1)) := (show World.ownsRow _ _ _ _ _ _ _ by rw [HQ.out]; exact RR.out)
          clear hcu hj SR RR HE HQ
          go_wp2
          go_meet
          exact ⟨va, vc, HS, HRW, RO⟩
        | some kk =>
          have HE2 : Hid (ask2 s = ((L ++ [itV s (some kk)]) ++ (spRow (itV s) (itO s) g (itO s (some kk))).1, (spRow (itV s) (itO s) g (itO s (some kk))).2)) := (show _ = _ by rw [HE.out, spRow]; simp)
          obtain ⟨dd, hdd⟩ : ∃ d, itV s (some kk) = d := ⟨_, rfl⟩
          obtain ⟨oo, hoo⟩ : ∃ d, itO s (some kk) = d := ⟨_, rfl⟩
          rw [hdd, hoo] at HE2
          unfold itV at hdd
          unfold itO at hoo
          clear hcu hj HE
          go_wp2_with fail
          refine (E.out _ _ SR.out.1).mono ?_
          rintro e wa ⟨rfl, h9, g9⟩
          have RA0 := hid (row_curS RR.out SR.out.1 g9 (by decide))
          have RO0 := hid (row_curS RO.out SR.out.1 g9 (by decide))
          have SA0 := SR.out.grown h9 g9
          obtain ⟨T0, hT0⟩ : ∃ x, tVal s (some kk) = x := ⟨_, rfl⟩
          obtain ⟨p0, hp0⟩ : ∃ x, tSt s (some kk) = x := ⟨_, rfl⟩
          rw [hp0] at SA0
          rw [hT0]
          rw [hT0, hp0] at hdd
          rw [hp0] at hoo
          clear hT0 hp0 h9 g9
          have hq9 : w.heap.size + 1 + 1 < wa.heap.size := SA0.2.1.lt
          have hX := below_more (Below.refl wa.heap.size wa) (.cells #[.string T0, .string ⟨#[]⟩, .int .i64 0] 58)
          have X0 : Hid (BlockIs (wa.alloc (.cells #[.string T0, .string ⟨#[]⟩, .int .i64 0] 58)) wa.heap.size 58 [.string T0, .string ⟨#[]⟩, .int .i64 0]) := heap_alloc_new wa _
          have HG : Hid (∀ g, (Value.slice va L.length vc).ownBlock = some g → g < wa.heap.size) := fun g hg => row_under RA0.out hg
          have SB0 := hid (SA0.on hX)
          have RB0 := hid (row_onK RA0.out hX)
          have ROf0 := hid (row_onK RO0.out hX)
          clear hX SA0 RA0 SR RR RO RO0
          obtain ⟨X, hXX⟩ : ∃ x, wa.heap.size = x := ⟨_, rfl⟩
          rw [hXX] at hq9 X0 HG
          have HXX := hid hXX
          clear hXX
          go_wp2_with fail
          rw [HXX.out]
          refine (E.out _ _ SB0.out.1).mono ?_
          rintro e wb ⟨rfl, h9, g9⟩
          have RA1 := hid (row_curS RB0.out SB0.out.1 g9 (by decide))
          have XA1 := blk_grown X0.out g9 (by omega)
          have RO1 := hid (row_curS ROf0.out SB0.out.1 g9 (by decide))
          have SA1 := SB0.out.grown h9 g9
          obtain ⟨T1, hT1⟩ : ∃ x, tVal s (p0) = x := ⟨_, rfl⟩
          obtain ⟨p1, hp1⟩ : ∃ x, tSt s (p0) = x := ⟨_, rfl⟩
          rw [hp1] at SA1
          rw [hT1]
          rw [hT1, hp1] at hdd
          rw [hp1] at hoo
          clear hT1 hp1 h9 g9
          have c := XA1.cell (j := 1) rfl
          have f := XA1.thaw 1
          have X1 := hid (XA1.set 1 (.string T1))
          have SB1 := hid (SA1.far (x := X) (j := 1) hq9 (.string T1))
          have RB1 := hid (row_farG (x := X) (j := 1) (u := .string T1) RA1.out HG.out)
          have ROf1 := hid (row_farK (j := 1) RO1.out XA1 (by decide) (.string T1))
          clear XA1 SA1 RA1 X0 SB0 RB0 RO1 ROf0
          go_wp2_with fail
          refine (D.out _ _ SB1.out.1).mono ?_
          rintro e wc ⟨rfl, h9, g9⟩
          have RA2 := hid (row_curS RB1.out SB1.out.1 g9 (by decide))
          have XA2 := blk_grown X1.out g9 (by omega)
          have RO2 := hid (row_curS ROf1.out SB1.out.1 g9 (by decide))
          have SA2 := SB1.out.grown h9 g9
          obtain ⟨N2, hN2⟩ : ∃ x, nVal s (p1) = x := ⟨_, rfl⟩
          obtain ⟨p2, hp2⟩ : ∃ x, nSt s (p1) = x := ⟨_, rfl⟩
          rw [hp2] at SA2
          rw [hN2]
          rw [hN2] at hdd
          rw [hp2] at hoo
          clear hN2 hp2 h9 g9
          have c := XA2.cell (j := 2) rfl
          have f := XA2.thaw 2
          have X2 := hid (XA2.set 2 (.int .i64 (N2 : Int)))
          have SB2 := hid (SA2.far (x := X) (j := 2) hq9 (.int .i64 (N2 : Int)))
          have RB2 := hid (row_farG (x := X) (j := 2) (u := .int .i64 (N2 : Int)) RA2.out HG.out)
          have ROf2 := hid (row_farK (j := 2) RO2.out XA2 (by decide) (.int .i64 (N2 : Int)))
          clear XA2 SA2 RA2 X1 SB1 RB1 RO2 ROf1
          obtain ⟨U, hU⟩ : ∃ U, wc.setCell ⟨X, 2, none⟩ (.int .i64 (N2 : Int)) = U := ⟨_, rfl⟩
          rw [hU] at X2 SB2 RB2 ROf2
          have hY := below_more (Below.refl U.heap.size U) (.cells #[.string T0, .string T1, .int .i64 (N2 : Int)] 58)
          have Y0 := (show BlockIs (U.alloc (.cells #[.string T0, .string T1, .int .i64 (N2 : Int)] 58)) U.heap.size 58 [.string T0, .string T1, .int .i64 (N2 : Int)] from heap_alloc_new U _)
          have SC := hid (SB2.out.on hY)
          have RC := hid (row_onK RB2.out hY)
          have ROC := hid (row_onK ROf2.out hY)
          have hM : Hid (ItemsAt (U.alloc (.cells #[.string T0, .string T1, .int .i64 (N2 : Int)] 58)) (some ⟨U.heap.size, 0, none⟩) [(⟨T0, T1, (N2 : Int)⟩ : ItemD)]) := itemsAt_of (r := []) Y0
          have hsz : Hid (w.heap.size ≤ (U.alloc (.cells #[.string T0, .string T1, .int .i64 (N2 : Int)] 58)).heap.size) := SC.out.2.2.2.size
          have x0 := X2.out.cell (j := 0) rfl
          have x1 := X2.out.cell (j := 1) rfl
          have x2 := X2.out.cell (j := 2) rfl
          have y0 := SB2.out.2.1.cell (j := 1) rfl
          rw [← hdd] at HE2
          rw [← hoo] at HE2
          clear hY Y0 SB2 RB2 X2 HG ROf2
          go_wp2_with (at_builtin; refine wpList_append_items rfl (.tmp 78) (.tmp 80) rfl rfl (base := w.heap.size) (L := L) (M := [(⟨T0, T1, (N2 : Int)⟩ : ItemD)]) (N := L.length + 1) rfl rfl rfl (by simp) (by omega) hsz.out RC.out hM.out ?_; intro va' vc' w9 hro hgr; have z0 := (block_grown SC.out.2.1 RC.out hgr (by decide)).cell (j := 1) rfl; have zf := (block_grown SC.out.2.1 RC.out hgr (by decide)).thaw 1)
          have hlow : ∀ g, (Value.slice va L.length vc).ownBlock = some g → w.heap.size ≤ g := fun g hg => by obtain ⟨_, _, h9⟩ := row_block RC.out hg; exact h9
          have hst : St16 w9 (w.heap.size + 1) s p2 := by
            obtain ⟨k, e1, e2, e3⟩ := SC.out.1
            exact ⟨k, e1, block_grown e2 RC.out hgr (by decide), e3⟩
          have S9 : SKIn w w9 s p2 (.slice sa ls.length sc) (.slice va L.length vc) := ⟨hst, block_grown SC.out.2.1 RC.out hgr (by decide), block_grown SC.out.2.2.1 RC.out hgr (by decide), SC.out.2.2.2.grown hgr SC.out.2.2.2.size hlow⟩
          have SN : Hid (SKIn w (w9.setCell ⟨w.heap.size + 1 + 1, 1, none⟩ (.slice va' (L.length + 1) vc')) s p2 (.slice sa ls.length sc) (.slice va' (L.length + 1) vc')) := ⟨st_far S9.1 (by omega) _, S9.2.1.set 1 _, S9.2.2.1.far (by omega) _, S9.2.2.2.setCell (p := ⟨w.heap.size + 1 + 1, 1, none⟩) (show w.heap.size ≤ w.heap.size + 1 + 1 by omega) _⟩
          have RN : Hid ((w9.setCell ⟨w.heap.size + 1 + 1, 1, none⟩ (.slice va' (L.length + 1) vc')).ownsRow w.heap.size 58 3 (.slice va' (L.length + 1) vc') (L.length + 1) (itemCells (L ++ [(⟨T0, T1, (N2 : Int)⟩ : ItemD)]))) := row_farK hro S9.2.1 (by decide) _
          have RON := hid (row_farK (j := 1) (row_grownK ROC.out RC.out hgr (by decide)) S9.2.1 (by decide) (.slice va' (L.length + 1) vc'))
          clear SC RC hM hsz hro hgr hlow hst S9 x0 x1 x2 y0 c f ROC
          go_wp2
          go_roundg g
          case measure => omega
          case rel =>
            have hl1 : (L ++ [(⟨T0, T1, (N2 : Int)⟩ : ItemD)]).length = L.length + 1 := by simp
            exact ⟨L ++ [(⟨T0, T1, (N2 : Int)⟩ : ItemD)], p2, va', vc', by rw [hl1]; omega, (by rw [hl1]; exact (show Value.int IntKind.i64 ((L.length : Int) + 1) = Value.int IntKind.i64 ((L.length + 1 : Nat) : Int) from rfl)), (show SKIn _ _ _ _ _ _ by rw [hl1]; exact SN.out), (show World.ownsRow _ _ _ _ _ _ _ by rw [hl1]; exact RN.out), HE2, RON.out⟩
  case rest =>
  rename World => w4
  obtain ⟨ia, ic, S4, I4, R4⟩ := hcut
  obtain ⟨li, hli⟩ : ∃ l, (ask2 s).1 = l := ⟨_, rfl⟩
  obtain ⟨o4, ho4⟩ : ∃ l, (ask2 s).2 = l := ⟨_, rfl⟩
  rw [hli] at S4 I4
  rw [ho4] at S4
  have hln : ls.length ≤ 50 := by rw [← HLS.out.1, ask1]; exact Nat.le_trans (spRow_len _ _) (Nat.min_le_right _ _)
  have hlm : li.length ≤ 50 := by rw [← hli, ask2]; exact Nat.le_trans (spRow_len _ _) (Nat.min_le_right _ _)
  have HQ : Hid (R = if o4.isSome = true ∧ keepOk ls li = true ∧ keepText ls li = s then some (ls, li) else none) := (show _ = _ by rw [← HASK.out, askKeep, hli, ho4, HLS.out.1])
  clear hli ho4 HASK HLS S3 R3 RS HA2 D E
  have q0 := S4.out.2.1.cell (j := 0) rfl
  have q1 := S4.out.2.1.cell (j := 1) rfl
  go_wp2_with fail
  refine (specKeepText_any sa ia ls li sc ic (by omega) (by omega) _ (sessionR_at R4.out) (itemR_at I4.out)).mono ?_
  rintro e w5 ⟨rfl, b5⟩
  have S5 := hid (S4.out.on b5)
  have I5 := hid (row_onK I4.out b5)
  have R5 := hid (row_onK R4.out b5)
  clear b5 S4 I4 R4 q0 q1
  obtain ⟨kc, hkc, hcu, _⟩ := S5.out.1
  have cb := BlockIs.cell hcu (j := 2) rfl
  clear hcu
  have q0 := S5.out.2.1.cell (j := 0) rfl
  have q1 := S5.out.2.1.cell (j := 1) rfl
  have p0 := S5.out.2.2.1.cell (j := 0) rfl
  have p1 := S5.out.2.2.1.cell (j := 1) rfl
  have pf0 := S5.out.2.2.1.thaw 0
  have pf1 := S5.out.2.2.1.thaw 1
  cases o4 with
  | none =>
    have ha : ∃ T ok, keepAns ls li = .tuple #[.string T, .bool ok] := by unfold keepAns; split <;> exact ⟨_, _, rfl⟩
    obtain ⟨T, ok, ha⟩ := ha
    rw [ha]
    clear ha
    have HN : Hid (R = none) := (show _ = _ by rw [HQ.out]; exact if_neg (by simp))
    go_wp2
    have PZ := (S5.out.2.2.1.set 0 (.slice none 0 0)).set 1 (.slice none 0 0)
    have d0 := PZ.cell (j := 0) rfl
    have d1 := PZ.cell (j := 1) rfl
    refine bodyPost_ret (v := .tuple #[.agg #[.slice none 0 0, .slice none 0 0], .bool false]) (by simp [results, Tryd.results11, go_sem, d0, d1]) rfl ?_
    show rkDid R w _ _
    rw [HN.out]
    exact rk_none ((S5.out.2.2.2.setCell (p := ⟨w.heap.size, 0, none⟩) (Nat.le_refl _) _).setCell (p := ⟨w.heap.size, 1, none⟩) (Nat.le_refl _) _)
  | some k6 =>
    cases hok : keepOk ls li with
    | false =>
      have ha : keepAns ls li = .tuple #[.string ByteArray.empty, .bool false] := by unfold keepAns; rw [hok]; rfl
      rw [ha]
      have HK := hid hok
      clear ha hok
      have HN : Hid (R = none) := (show _ = _ by rw [HQ.out]; exact if_neg (by rw [HK.out]; simp))
      go_wp2
      have PZ := (S5.out.2.2.1.set 0 (.slice none 0 0)).set 1 (.slice none 0 0)
      have d0 := PZ.cell (j := 0) rfl
      have d1 := PZ.cell (j := 1) rfl
      refine bodyPost_ret (v := .tuple #[.agg #[.slice none 0 0, .slice none 0 0], .bool false]) (by simp [results, Tryd.results11, go_sem, d0, d1]) rfl ?_
      show rkDid R w _ _
      rw [HN.out]
      exact rk_none ((S5.out.2.2.2.setCell (p := ⟨w.heap.size, 0, none⟩) (Nat.le_refl _) _).setCell (p := ⟨w.heap.size, 1, none⟩) (Nat.le_refl _) _)
    | true =>
      have ha : keepAns ls li = .tuple #[.string (keepText ls li), .bool true] := by unfold keepAns; rw [hok]; rfl
      rw [ha]
      have HK := hid hok
      clear ha hok
      by_cases ht : keepText ls li = s
      rotate_left
      · obtain ⟨T, hT⟩ : ∃ T, keepText ls li = T := ⟨_, rfl⟩
        rw [hT] at ht HQ ⊢
        have hl : (T.toList == s.toList) = false := by rw [beq_eq_false_iff_ne]; intro q; rw [ByteArray.toList_eq, ByteArray.toList_eq] at q; exact ht (ByteArray.ext (Array.toList_inj.1 q))
        have HT := hid ht
        clear hT ht
        have HN : Hid (R = none) := (show _ = _ by rw [HQ.out]; exact if_neg (fun q => HT.out q.2.2))
        go_wp2
        have PZ := (S5.out.2.2.1.set 0 (.slice none 0 0)).set 1 (.slice none 0 0)
        have d0 := PZ.cell (j := 0) rfl
        have d1 := PZ.cell (j := 1) rfl
        refine bodyPost_ret (v := .tuple #[.agg #[.slice none 0 0, .slice none 0 0], .bool false]) (by simp [results, Tryd.results11, go_sem, d0, d1]) rfl ?_
        show rkDid R w _ _
        rw [HN.out]
        exact rk_none ((S5.out.2.2.2.setCell (p := ⟨w.heap.size, 0, none⟩) (Nat.le_refl _) _).setCell (p := ⟨w.heap.size, 1, none⟩) (Nat.le_refl _) _)
      · rw [ht]
        have HN : Hid (R = some (ls, li)) := (show _ = _ by rw [HQ.out]; exact if_pos ⟨rfl, HK.out, ht⟩)
        clear ht HQ HK
        go_wp2
        have PZ := (S5.out.2.2.1.set 0 (.slice sa ls.length sc)).set 1 (.slice ia li.length ic)
        have d0 := PZ.cell (j := 0) rfl
        have d1 := PZ.cell (j := 1) rfl
        refine bodyPost_ret (v := .tuple #[.agg #[.slice sa ls.length sc, .slice ia li.length ic], .bool true]) (by simp [results, Tryd.results11, go_sem, d0, d1]) rfl ?_
        show rkDid R w _ _
        rw [HN.out]
        exact ⟨sa, sc, ia, ic, rfl, (KRows.far (show KRows w5 w.heap.size _ _ ls li from ⟨R5.out, I5.out⟩) S5.out.2.2.1 (by decide) (by decide) _).far (S5.out.2.2.1.set 0 _) (by decide) (by decide) _, (S5.out.2.2.2.setCell (p := ⟨w.heap.size, 0, none⟩) (Nat.le_refl _) _).setCell (p := ⟨w.heap.size, 1, none⟩) (Nat.le_refl _) _⟩
end Go.Proofs.YtihgkocfgjihhaaDoor

namespace Go.Proofs.YtihgkocfgjihhaaDoor
open Go.RowKit Go.Sort

set_option maxRecDepth 1000000 in
set_option maxHeartbeats 4000000 in
theorem specReadCommand_any (s : ByteArray) (hs : s.size ≤ 1048576) (w : World) : Calls Tryd.prog 16 #[.string s] w fun e w' => e = .returned (readCmdAns s) ∧ Below w.heap.size w w' := by
  by_cases h0 : s.size = 0
  · have HN : Hid (readCmdAns s = .tuple #[.agg #[.int .i64 0, .int .i64 0, .int .i64 0, .string ⟨#[]⟩, .string ⟨#[]⟩, .int .i64 0], .bool false]) := (show _ = _ by
      have hb : byteAt s 0 = none := by unfold byteAt; rw [List.getElem?_eq_none (by simpa using h0)]
      rw [readCmdAns, readCmdD, readCmd_empty hb]; rfl)
    have he : (s.toList == []) = true := by rw [empty_text, decide_eq_true h0]
    have P0 : Hid (BlockIs (w.alloc (.cells #[.int .i64 0, .int .i64 0, .int .i64 0, .string ⟨#[]⟩, .string ⟨#[]⟩, .int .i64 0] 37)) w.heap.size 37 [.int .i64 0, .int .i64 0, .int .i64 0, .string ⟨#[]⟩, .string ⟨#[]⟩, .int .i64 0]) := heap_alloc_new w _
    have B0 := hid (below_more (Below.refl w.heap.size w) (.cells #[.int .i64 0, .int .i64 0, .int .i64 0, .string ⟨#[]⟩, .string ⟨#[]⟩, .int .i64 0] 37))
    obtain ⟨W, hW⟩ : ∃ W, w.alloc (.cells #[.int .i64 0, .int .i64 0, .int .i64 0, .string ⟨#[]⟩, .string ⟨#[]⟩, .int .i64 0] 37) = W := ⟨_, rfl⟩
    rw [hW] at P0 B0
    have p0 := P0.out.cell (j := 0) rfl
    have p1 := P0.out.cell (j := 1) rfl
    have p2 := P0.out.cell (j := 2) rfl
    have p3 := P0.out.cell (j := 3) rfl
    have p4 := P0.out.cell (j := 4) rfl
    have p5 := P0.out.cell (j := 5) rfl
    have pf0 := P0.out.thaw 0
    have pf1 := P0.out.thaw 1
    have pf2 := P0.out.thaw 2
    have pf3 := P0.out.thaw 3
    have pf4 := P0.out.thaw 4
    have pf5 := P0.out.thaw 5
    go_enter Tryd.func16, Tryd.ntmps16
    go_wp2
    have PZ := ((((((P0.out).set 0 (.int .i64 0)).set 1 (.int .i64 0)).set 2 (.int .i64 0)).set 3 (.string ⟨#[]⟩)).set 4 (.string ⟨#[]⟩)).set 5 (.int .i64 0)
    have BZ := ((((((B0.out).setCell (p := ⟨w.heap.size, 0, none⟩) (Nat.le_refl _) (.int .i64 0)).setCell (p := ⟨w.heap.size, 1, none⟩) (Nat.le_refl _) (.int .i64 0)).setCell (p := ⟨w.heap.size, 2, none⟩) (Nat.le_refl _) (.int .i64 0)).setCell (p := ⟨w.heap.size, 3, none⟩) (Nat.le_refl _) (.string ⟨#[]⟩)).setCell (p := ⟨w.heap.size, 4, none⟩) (Nat.le_refl _) (.string ⟨#[]⟩)).setCell (p := ⟨w.heap.size, 5, none⟩) (Nat.le_refl _) (.int .i64 0)
    have z0 := PZ.cell (j := 0) rfl
    have z1 := PZ.cell (j := 1) rfl
    have z2 := PZ.cell (j := 2) rfl
    have z3 := PZ.cell (j := 3) rfl
    have z4 := PZ.cell (j := 4) rfl
    have z5 := PZ.cell (j := 5) rfl
    refine bodyPost_ret (v := .tuple #[.agg #[.int .i64 0, .int .i64 0, .int .i64 0, .string ⟨#[]⟩, .string ⟨#[]⟩, .int .i64 0], .bool false]) (by simp [results, Tryd.results16, go_sem, z0, z1, z2, z3, z4, z5]) rfl ?_
    exact ⟨by rw [HN.out], BZ⟩
  have hne : (s.toList == []) = false := by rw [empty_text, decide_eq_false h0]
  have i0 : 0 < s.size := by omega
  have hb255 : (s[0].toNat : Int) ≤ 255 := by have := s[0].toNat_lt; omega
  have hby : byteAt s 0 = some (s[0].toNat, 1) := by unfold byteAt; rw [List.getElem?_eq_getElem (by simpa using i0)]; rfl
  have hask := ask_cmd hby
  obtain ⟨b0, hx0⟩ : ∃ b : Nat, s[0].toNat = b := ⟨_, rfl⟩
  rw [hx0] at hb255 hask
  have hw0b : IntKind.i64.wrap (b0 : Int) = (b0 : Int) := by rw [IntKind.wrap_i64]; omega
  have D1' := fun W h => l16Var_n (w.heap.size + 1) s hs (some 1) W h
  obtain ⟨N1, hN1⟩ : ∃ x, nVal s (some 1) = x := ⟨_, rfl⟩
  obtain ⟨o1, ho1⟩ : ∃ x, nSt s (some 1) = x := ⟨_, rfl⟩
  rw [hN1, ho1] at D1'
  have D2' := fun W h => l16Var_n (w.heap.size + 1) s hs o1 W h
  obtain ⟨N2, hN2⟩ : ∃ x, nVal s o1 = x := ⟨_, rfl⟩
  obtain ⟨o2, ho2⟩ : ∃ x, nSt s o1 = x := ⟨_, rfl⟩
  rw [hN2, ho2] at D2'
  have D3' := fun W h => l16ReadShort_n (w.heap.size + 1) s hs o2 W h
  obtain ⟨T3, hT3⟩ : ∃ x, tVal s o2 = x := ⟨_, rfl⟩
  obtain ⟨o3, ho3⟩ : ∃ x, tSt s o2 = x := ⟨_, rfl⟩
  rw [hT3, ho3] at D3'
  have D4' := fun W h => l16ReadShort_n (w.heap.size + 1) s hs o3 W h
  obtain ⟨T4, hT4⟩ : ∃ x, tVal s o3 = x := ⟨_, rfl⟩
  obtain ⟨o4, ho4⟩ : ∃ x, tSt s o3 = x := ⟨_, rfl⟩
  rw [hT4, ho4] at D4'
  have D5' := fun W h => l16Var_n (w.heap.size + 1) s hs o4 W h
  obtain ⟨N5, hN5⟩ : ∃ x, nVal s o4 = x := ⟨_, rfl⟩
  obtain ⟨o5, ho5⟩ : ∃ x, nSt s o4 = x := ⟨_, rfl⟩
  rw [hN5, ho5] at D5'
  have hc5 : cmd5 s b0 = ⟨b0, N1, N2, T3, T4, N5⟩ := by simp only [cmd5, hN1, ho1, hN2, ho2, hT3, ho3, hT4, ho4, hN5]
  have he5 : end5 s = o5 := by simp only [end5, ho1, ho2, ho3, ho4, ho5]
  unfold askCmd at hask
  rw [hc5, he5] at hask
  have HA := hid hask
  have D1 := hid D1'
  have D2 := hid D2'
  have D3 := hid D3'
  have D4 := hid D4'
  have D5 := hid D5'
  clear D1' D2' D3' D4' D5' hN1 ho1 hN2 ho2 hT3 ho3 hT4 ho4 hN5 ho5 hc5 he5 hask hby h0
  have h2 := two_blocks w (.cells #[.int .i64 0, .int .i64 0, .int .i64 0, .string ⟨#[]⟩, .string ⟨#[]⟩, .int .i64 0] 37) (.cells #[.string s, .int .i64 1, .bool false] 72)
  have P0 : Hid (BlockIs _ w.heap.size 37 [.int .i64 0, .int .i64 0, .int .i64 0, .string ⟨#[]⟩, .string ⟨#[]⟩, .int .i64 0]) := h2.2.2.1
  have S0 : Hid (St16 _ (w.heap.size + 1) s (some 1)) := ⟨1, by omega, h2.2.2.2, fun j e => by cases e; rfl⟩
  have B0 := hid h2.1
  have HNB : Hid ((w.heap.size + 1) ≤ ((w.alloc (.cells #[.int .i64 0, .int .i64 0, .int .i64 0, .string ⟨#[]⟩, .string ⟨#[]⟩, .int .i64 0] 37)).alloc (.cells #[.string s, .int .i64 1, .bool false] 72)).heap.size) := (show _ ≤ _ by rw [h2.2.1]; omega)
  have hlt0 := P0.out.lt
  clear h2
  obtain ⟨W0, hW0⟩ : ∃ W, (w.alloc (.cells #[.int .i64 0, .int .i64 0, .int .i64 0, .string ⟨#[]⟩, .string ⟨#[]⟩, .int .i64 0] 37)).alloc (.cells #[.string s, .int .i64 1, .bool false] 72) = W := ⟨_, rfl⟩
  rw [hW0] at P0 S0 B0 HNB hlt0
  go_enter Tryd.func16, Tryd.ntmps16
  go_wp2
  refine wp_region_from (N := 52) (by kernel_rfl) (by kernel_rfl) rfl (by kernel_rfl) (fun W => Below (w.heap.size + 1) W0 W) (fun j v u W => match j with | 0 => v = .string s | 1 => v = .int .u8 (b0 : Int) | 2 => v = .int .i64 (b0 : Int) | 3 => v = .pointer (some ⟨(w.heap.size + 1), 0, none⟩) | 4 => v = .int .i64 (N1 : Int) ∧ St16 W (w.heap.size + 1) s o1 | 5 => v = .agg #[.int .i64 (b0 : Int), .int .i64 (N1 : Int), .int .i64 0, .string ⟨#[]⟩, .string ⟨#[]⟩, .int .i64 0] | 6 => ∃ X, v = .pointer (some ⟨X, 0, none⟩) ∧ W0.heap.size ≤ X ∧ BlockIs W X 37 [.int .i64 0, .int .i64 0, .int .i64 0, .string ⟨#[]⟩, .string ⟨#[]⟩, .int .i64 0] | 7 => ∃ X, u = .pointer (some ⟨X, 0, none⟩) ∧ W0.heap.size ≤ X ∧ BlockIs W X 37 [.int .i64 (b0 : Int), .int .i64 (N1 : Int), .int .i64 0, .string ⟨#[]⟩, .string ⟨#[]⟩, .int .i64 0] | _ => True) (fun i => if i = 7 then 6 else i) (fun j i => decide ((j, i) ∈ ([(6, 7)] : List (Nat × Nat)))) (fun i x y => x.heap.size ≤ y.heap.size ∧ ∀ g ty cs, BlockIs x g ty cs → (i = 7 → ty ≠ 37) → (i = 4 → ty ≠ 72) → BlockIs y g ty cs) (fun q9 W => match q9 with | 0 => St16 W (w.heap.size + 1) s (some 1) | _ => True) (fun m k => decide ((m, k) ∈ ([(0, 4)] : List (Nat × Nat)))) ?_ (fun i => if i = 7 then 5 else 0) (by kernel_rfl) (fun i hi => by have : 8 ≤ i := hi; simp; omega) ?_ (below_drewN (Below.refl _ _) 1) (fun q9 => match q9 with | 0 => S0.out | _ + 1 => trivial) ?_ ?_
  · intro i m x y hen hxy hm
    match m, hen, hm with
    | 0, hen, hm =>
      obtain ⟨k, e2, e3, e4⟩ := hm
      simp at hen
      exact ⟨k, e2, hxy.2 _ _ _ e3 (fun _ => by decide) (fun e => absurd e hen), e4⟩
    | n + 1, _, _ => exact trivial
  · intro i j v u x y hij hdd hwt hxy hg
    match j, hg with
    | 0, hg => exact hg
    | 1, hg => exact hg
    | 2, hg => exact hg
    | 3, hg => exact hg
    | 4, hg =>
      obtain ⟨e1, k, e2, e3, e4⟩ := hg
      exact ⟨e1, k, e2, hxy.2 _ _ _ e3 (fun _ => by decide) (fun e => absurd e hij), e4⟩
    | 5, hg => exact hg
    | 6, hg =>
      obtain ⟨X, e1, e2, e3⟩ := hg
      simp at hdd
      exact ⟨X, e1, e2, hxy.2 _ _ _ e3 (fun e => absurd e hdd) (fun _ => by decide)⟩
    | 7, hg =>
      obtain ⟨X, e1, e2, e3⟩ := hg
      exact ⟨X, e1, e2, hxy.2 _ _ _ e3 (fun e => absurd e hij) (fun _ => by decide)⟩
    | n + 8, _ => exact trivial
  · refine ⟨?_, ?_, ?_, ?_, ?_, ?_, ?_, ?_, trivial⟩
    · intro A W hC hI hg hb
      have h0 : A.eval (.tmp 0) = .string s := hb 0 (base_of (by kernel_rfl))
      exact does_value (v := .string s) (w' := W) (by simp only [execOp, h0]; simp [go_sem]) ⟨rfl, hC, Nat.le_refl _, fun _ _ _ h _ _ => h⟩
    · intro A W hC hI hg hb
      have h14 : A.eval (.tmp 14) = .string s := hg 0 14 (by decide) rfl (by simp [Op.operands]) (by kernel_rfl) rfl
      exact does_value (v := .int .u8 (b0 : Int)) (w' := W) (by simp only [execOp, h14]; simp [go_sem, i0, hx0]) ⟨rfl, hC, Nat.le_refl _, fun _ _ _ h _ _ => h⟩
    · intro A W hC hI hg hb
      have h15 : A.eval (.tmp 15) = .int .u8 (b0 : Int) := hg 1 15 (by decide) rfl (by simp [Op.operands]) (by kernel_rfl) rfl
      exact does_value (v := .int .i64 (b0 : Int)) (w' := W) (by simp only [execOp, h15]; simp [go_sem, hw0b]) ⟨rfl, hC, Nat.le_refl _, fun _ _ _ h _ _ => h⟩
    · intro A W hC hI hg hb
      have h4 : A.eval (.tmp 4) = .pointer (some ⟨(w.heap.size + 1), 0, none⟩) := hb 4 (base_of (by kernel_rfl))
      exact does_value (v := .pointer (some ⟨(w.heap.size + 1), 0, none⟩)) (w' := W) (by simp only [execOp, h4]; simp [go_sem]) ⟨rfl, hC, Nat.le_refl _, fun _ _ _ h _ _ => h⟩
    · intro A W hC hI hg hb
      have h17 : A.eval (.tmp 17) = .pointer (some ⟨(w.heap.size + 1), 0, none⟩) := hg 3 17 (by decide) rfl (by simp [Op.operands, Call.operands]) (by kernel_rfl) rfl
      simp [go_sem] at h17
      have hst := hI 0 (by decide)
      change St16 W (w.heap.size + 1) s (some 1) at hst
      refine does_enter (f := 33) (args := #[.pointer (some ⟨(w.heap.size + 1), 0, none⟩)]) (w' := W) (by simp [go_sem, h17]) ?_
      refine (D1.out W hst).mono ?_
      rintro e w3 ⟨rfl, hs3, hg3⟩
      refine ⟨_, rfl, ⟨rfl, hs3⟩, below_grown hC hg3 (Nat.le_refl _) (Nat.le_trans HNB.out hC.size), hg3.size, fun q ty cs hq _ hn => blk_grown hq hg3 (fun e => by subst e; obtain ⟨k, _, hk, _⟩ := hst; exact hn rfl (block_one hq hk).1)⟩
    · intro A W hC hI hg hb
      have h16 : A.eval (.tmp 16) = .int .i64 (b0 : Int) := hg 2 16 (by decide) rfl (by simp [Op.operands]) (by kernel_rfl) rfl
      have g4 := hg 4 18 (by decide) rfl (by simp [Op.operands]) (by kernel_rfl) rfl
      obtain ⟨h18, _⟩ := g4
      simp [go_sem] at h16 h18
      exact does_value (v := .agg #[.int .i64 (b0 : Int), .int .i64 (N1 : Int), .int .i64 0, .string ⟨#[]⟩, .string ⟨#[]⟩, .int .i64 0]) (w' := W) (by simp [execOp, go_sem, h16, h18]) ⟨rfl, hC, Nat.le_refl _, fun _ _ _ h _ _ => h⟩
    · intro A W hC hI hg hb
      have hbm := below_more (Below.refl W.heap.size W) (.cells #[.int .i64 0, .int .i64 0, .int .i64 0, .string ⟨#[]⟩, .string ⟨#[]⟩, .int .i64 0] 37)
      exact does_value (v := .pointer (some ⟨W.heap.size, 0, none⟩)) (w' := W.alloc (.cells #[.int .i64 0, .int .i64 0, .int .i64 0, .string ⟨#[]⟩, .string ⟨#[]⟩, .int .i64 0] 37)) (by simp [execOp, go_sem]) ⟨⟨_, rfl, hC.size, heap_alloc_new W _⟩, hC.trans (hbm.mono (Nat.le_trans HNB.out hC.size)), hbm.size, fun _ _ _ h _ _ => h.on hbm h.lt⟩
    · intro A W hC hI hg hb
      have g6 := hg 6 5 (by decide) rfl (by simp [Op.operands]) (by kernel_rfl) rfl
      have h19 : A.eval (.tmp 19) = .agg #[.int .i64 (b0 : Int), .int .i64 (N1 : Int), .int .i64 0, .string ⟨#[]⟩, .string ⟨#[]⟩, .int .i64 0] := hg 5 19 (by decide) rfl (by simp [Op.operands]) (by kernel_rfl) rfl
      obtain ⟨X, h5, hlo, hX⟩ := g6
      have c0 := hX.cell (j := 0) rfl
      have c1 := hX.cell (j := 1) rfl
      have c2 := hX.cell (j := 2) rfl
      have c3 := hX.cell (j := 3) rfl
      have c4 := hX.cell (j := 4) rfl
      have c5 := hX.cell (j := 5) rfl
      have f0 := hX.thaw 0
      have f1 := hX.thaw 1
      have f2 := hX.thaw 2
      have f3 := hX.thaw 3
      have f4 := hX.thaw 4
      have f5 := hX.thaw 5
      have hX6 : BlockIs ((((((W.setCell ⟨X, 0, none⟩ (.int .i64 (b0 : Int))).setCell ⟨X, 1, none⟩ (.int .i64 (N1 : Int))).setCell ⟨X, 2, none⟩ (.int .i64 0)).setCell ⟨X, 3, none⟩ (.string ⟨#[]⟩)).setCell ⟨X, 4, none⟩ (.string ⟨#[]⟩)).setCell ⟨X, 5, none⟩ (.int .i64 0)) X 37 [.int .i64 (b0 : Int), .int .i64 (N1 : Int), .int .i64 0, .string ⟨#[]⟩, .string ⟨#[]⟩, .int .i64 0] := ((((((hX).set 0 (.int .i64 (b0 : Int))).set 1 (.int .i64 (N1 : Int))).set 2 (.int .i64 0)).set 3 (.string ⟨#[]⟩)).set 4 (.string ⟨#[]⟩)).set 5 (.int .i64 0)
      refine does_skip (w' := ((((((W.setCell ⟨X, 0, none⟩ (.int .i64 (b0 : Int))).setCell ⟨X, 1, none⟩ (.int .i64 (N1 : Int))).setCell ⟨X, 2, none⟩ (.int .i64 0)).setCell ⟨X, 3, none⟩ (.string ⟨#[]⟩)).setCell ⟨X, 4, none⟩ (.string ⟨#[]⟩)).setCell ⟨X, 5, none⟩ (.int .i64 0))) (by simp only [execOp, h5, h19]; simp [go_sem, c0, c1, c2, c3, c4, c5, f0, f1, f2, f3, f4, f5]) ⟨⟨X, h5, hlo, hX6⟩, ((((((hC).setCell (Nat.le_trans HNB.out hlo) _).setCell (Nat.le_trans HNB.out hlo) _).setCell (Nat.le_trans HNB.out hlo) _).setCell (Nat.le_trans HNB.out hlo) _).setCell (Nat.le_trans HNB.out hlo) _).setCell (Nat.le_trans HNB.out hlo) _, by simp [World.size_setCell], fun q ty cs hq hne _ => ?_⟩
      have hqX : X ≠ q := by intro e; subst e; exact hne rfl (block_one hq hX).1
      exact ((((((hq).far hqX _).far hqX _).far hqX _).far hqX _).far hqX _).far hqX _
  intro vs w5 hC _ hg
  obtain ⟨X, hX4, hlo, hbl⟩ := hg 7 (by decide) (fun k => by simp)
  change vs 6 = _ at hX4
  have hst := (hg 4 (by decide) (fun k => by simp)).2
  clear hg
  have X5 := hid hbl
  have P5 := hid (P0.out.on hC (Nat.lt_succ_self _))
  have B5 := hid (B0.out.trans (hC.mono (Nat.le_succ _)))
  have S5 := hid hst
  have hnX : w.heap.size + 1 < X := by have := HNB.out; obtain ⟨k, _, hk, _⟩ := S0.out; have := BlockIs.lt hk; omega
  change Exit.then _ _ _ (laidBy _ vs _ 8 _) w5
  simp only [laidBy, if_true, dstAt, List.getElem?_toArray, List.getElem?_cons_succ, List.getElem?_cons_zero, Option.bind_some]
  simp only [Act.put, List.setIfInBounds_toArray, List.set_cons_succ, List.set_cons_zero]
  rw [hX4]
  clear hX4 hC hbl hst P0 S0 B0 hW0 HNB hlt0 hlo D1
  go_wp2_with fail
  refine (D2.out _ S5.out).mono ?_
  rintro e u6 ⟨rfl, hs6, hg⟩
  have Xa := blk_grown X5.out hg (by omega)
  have Pa := blk_grown P5.out hg (by omega)
  have Ba := below_grown B5.out hg (by omega) B5.out.size
  have c := Xa.cell (j := 2) rfl
  have f := Xa.thaw 2
  have X6 := hid (Xa.set 2 (.int .i64 (N2 : Int)))
  have P6 := hid (Pa.far (b := X) (j := 2) (by omega) (.int .i64 (N2 : Int)))
  have S6 := hid (st_far hs6 (show X ≠ w.heap.size + 1 by omega) (j := 2) (.int .i64 (N2 : Int)))
  have B6 := hid (Ba.setCell (p := ⟨X, 2, none⟩) (show w.heap.size ≤ X by omega) (.int .i64 (N2 : Int)))
  clear hs6 hg Xa Pa Ba X5 P5 S5 B5 D2
  go_wp2_with fail
  refine (D3.out _ S6.out).mono ?_
  rintro e u7 ⟨rfl, hs7, hg⟩
  have Xa := blk_grown X6.out hg (by omega)
  have Pa := blk_grown P6.out hg (by omega)
  have Ba := below_grown B6.out hg (by omega) B6.out.size
  have c := Xa.cell (j := 3) rfl
  have f := Xa.thaw 3
  have X7 := hid (Xa.set 3 (.string T3))
  have P7 := hid (Pa.far (b := X) (j := 3) (by omega) (.string T3))
  have S7 := hid (st_far hs7 (show X ≠ w.heap.size + 1 by omega) (j := 3) (.string T3))
  have B7 := hid (Ba.setCell (p := ⟨X, 3, none⟩) (show w.heap.size ≤ X by omega) (.string T3))
  clear hs7 hg Xa Pa Ba X6 P6 S6 B6 D3
  go_wp2_with fail
  refine (D4.out _ S7.out).mono ?_
  rintro e u8 ⟨rfl, hs8, hg⟩
  have Xa := blk_grown X7.out hg (by omega)
  have Pa := blk_grown P7.out hg (by omega)
  have Ba := below_grown B7.out hg (by omega) B7.out.size
  have c := Xa.cell (j := 4) rfl
  have f := Xa.thaw 4
  have X8 := hid (Xa.set 4 (.string T4))
  have P8 := hid (Pa.far (b := X) (j := 4) (by omega) (.string T4))
  have S8 := hid (st_far hs8 (show X ≠ w.heap.size + 1 by omega) (j := 4) (.string T4))
  have B8 := hid (Ba.setCell (p := ⟨X, 4, none⟩) (show w.heap.size ≤ X by omega) (.string T4))
  clear hs8 hg Xa Pa Ba X7 P7 S7 B7 D4
  go_wp2_with fail
  refine (D5.out _ S8.out).mono ?_
  rintro e u9 ⟨rfl, hs9, hg⟩
  have Xa := blk_grown X8.out hg (by omega)
  have Pa := blk_grown P8.out hg (by omega)
  have Ba := below_grown B8.out hg (by omega) B8.out.size
  have c := Xa.cell (j := 5) rfl
  have f := Xa.thaw 5
  have X9 := hid (Xa.set 5 (.int .i64 (N5 : Int)))
  have P9 := hid (Pa.far (b := X) (j := 5) (by omega) (.int .i64 (N5 : Int)))
  have S9 := hid (st_far hs9 (show X ≠ w.heap.size + 1 by omega) (j := 5) (.int .i64 (N5 : Int)))
  have B9 := hid (Ba.setCell (p := ⟨X, 5, none⟩) (show w.heap.size ≤ X by omega) (.int .i64 (N5 : Int)))
  clear hs9 hg Xa Pa Ba X8 P8 S8 B8 D5
  have y0 := X9.out.cell (j := 0) rfl
  have y1 := X9.out.cell (j := 1) rfl
  have y2 := X9.out.cell (j := 2) rfl
  have y3 := X9.out.cell (j := 3) rfl
  have y4 := X9.out.cell (j := 4) rfl
  have y5 := X9.out.cell (j := 5) rfl
  go_wp2_with fail
  refine (specCommandText_any ⟨(b0 : Int), (N1 : Int), (N2 : Int), T3, T4, (N5 : Int)⟩ _).mono ?_
  rintro e u10 ⟨rfl, b10⟩
  have X10 := hid (X9.out.on b10 X9.out.lt)
  have P10 := hid (P9.out.on b10 P9.out.lt)
  have S10 := hid (st_on S9.out b10)
  have B10 := hid (below_via B9.out b10)
  clear b10 X9 P9 S9 B9 y0 y1 y2 y3 y4 y5 c f
  obtain ⟨k9, hk9, hcu, _⟩ := S10.out
  have cb := BlockIs.cell hcu (j := 2) rfl
  clear hcu
  have p0 := P10.out.cell (j := 0) rfl
  have p1 := P10.out.cell (j := 1) rfl
  have p2 := P10.out.cell (j := 2) rfl
  have p3 := P10.out.cell (j := 3) rfl
  have p4 := P10.out.cell (j := 4) rfl
  have p5 := P10.out.cell (j := 5) rfl
  have pf0 := P10.out.thaw 0
  have pf1 := P10.out.thaw 1
  have pf2 := P10.out.thaw 2
  have pf3 := P10.out.thaw 3
  have pf4 := P10.out.thaw 4
  have pf5 := P10.out.thaw 5
  have y0 := X10.out.cell (j := 0) rfl
  have y1 := X10.out.cell (j := 1) rfl
  have y2 := X10.out.cell (j := 2) rfl
  have y3 := X10.out.cell (j := 3) rfl
  have y4 := X10.out.cell (j := 4) rfl
  have y5 := X10.out.cell (j := 5) rfl
  cases ho : o5 with
  | none =>
    rw [ho] at cb HA
    have ha : ∃ T ok, cmdAns ⟨(b0 : Int), (N1 : Int), (N2 : Int), T3, T4, (N5 : Int)⟩ = .tuple #[.string T, .bool ok] := by unfold cmdAns; split <;> exact ⟨_, _, rfl⟩
    obtain ⟨T, ok, ha⟩ := ha
    rw [ha]
    clear ha ho
    have HN : Hid (readCmdAns s = .tuple #[.agg #[.int .i64 0, .int .i64 0, .int .i64 0, .string ⟨#[]⟩, .string ⟨#[]⟩, .int .i64 0], .bool false]) := (show _ = _ by
      have hq : readCmd s = none := by rw [← HA.out]; exact if_neg (by simp)
      rw [readCmdAns, readCmdD, hq]; rfl)
    go_wp2
    have PZ := ((((((P10.out).set 0 (.int .i64 0)).set 1 (.int .i64 0)).set 2 (.int .i64 0)).set 3 (.string ⟨#[]⟩)).set 4 (.string ⟨#[]⟩)).set 5 (.int .i64 0)
    have BZ := ((((((B10.out).setCell (p := ⟨w.heap.size, 0, none⟩) (Nat.le_refl _) (.int .i64 0)).setCell (p := ⟨w.heap.size, 1, none⟩) (Nat.le_refl _) (.int .i64 0)).setCell (p := ⟨w.heap.size, 2, none⟩) (Nat.le_refl _) (.int .i64 0)).setCell (p := ⟨w.heap.size, 3, none⟩) (Nat.le_refl _) (.string ⟨#[]⟩)).setCell (p := ⟨w.heap.size, 4, none⟩) (Nat.le_refl _) (.string ⟨#[]⟩)).setCell (p := ⟨w.heap.size, 5, none⟩) (Nat.le_refl _) (.int .i64 0)
    have z0 := PZ.cell (j := 0) rfl
    have z1 := PZ.cell (j := 1) rfl
    have z2 := PZ.cell (j := 2) rfl
    have z3 := PZ.cell (j := 3) rfl
    have z4 := PZ.cell (j := 4) rfl
    have z5 := PZ.cell (j := 5) rfl
    refine bodyPost_ret (v := .tuple #[.agg #[.int .i64 0, .int .i64 0, .int .i64 0, .string ⟨#[]⟩, .string ⟨#[]⟩, .int .i64 0], .bool false]) (by simp [results, Tryd.results16, go_sem, z0, z1, z2, z3, z4, z5]) rfl ?_
    exact ⟨by rw [HN.out], BZ⟩
  | some k6 =>
    rw [ho] at cb HA
    clear ho
    cases hok : commandOk ⟨(b0 : Int), (N1 : Int), (N2 : Int), T3, T4, (N5 : Int)⟩ with
    | false =>
      have ha : cmdAns ⟨(b0 : Int), (N1 : Int), (N2 : Int), T3, T4, (N5 : Int)⟩ = .tuple #[.string ByteArray.empty, .bool false] := by unfold cmdAns; rw [hok]; rfl
      rw [ha]
      have HK := hid hok
      clear ha hok
      have HN : Hid (readCmdAns s = .tuple #[.agg #[.int .i64 0, .int .i64 0, .int .i64 0, .string ⟨#[]⟩, .string ⟨#[]⟩, .int .i64 0], .bool false]) := (show _ = _ by
        have hq : readCmd s = none := by rw [← HA.out]; exact if_neg (by rw [HK.out]; simp)
        rw [readCmdAns, readCmdD, hq]; rfl)
      go_wp2
      have PZ := ((((((P10.out).set 0 (.int .i64 0)).set 1 (.int .i64 0)).set 2 (.int .i64 0)).set 3 (.string ⟨#[]⟩)).set 4 (.string ⟨#[]⟩)).set 5 (.int .i64 0)
      have BZ := ((((((B10.out).setCell (p := ⟨w.heap.size, 0, none⟩) (Nat.le_refl _) (.int .i64 0)).setCell (p := ⟨w.heap.size, 1, none⟩) (Nat.le_refl _) (.int .i64 0)).setCell (p := ⟨w.heap.size, 2, none⟩) (Nat.le_refl _) (.int .i64 0)).setCell (p := ⟨w.heap.size, 3, none⟩) (Nat.le_refl _) (.string ⟨#[]⟩)).setCell (p := ⟨w.heap.size, 4, none⟩) (Nat.le_refl _) (.string ⟨#[]⟩)).setCell (p := ⟨w.heap.size, 5, none⟩) (Nat.le_refl _) (.int .i64 0)
      have z0 := PZ.cell (j := 0) rfl
      have z1 := PZ.cell (j := 1) rfl
      have z2 := PZ.cell (j := 2) rfl
      have z3 := PZ.cell (j := 3) rfl
      have z4 := PZ.cell (j := 4) rfl
      have z5 := PZ.cell (j := 5) rfl
      refine bodyPost_ret (v := .tuple #[.agg #[.int .i64 0, .int .i64 0, .int .i64 0, .string ⟨#[]⟩, .string ⟨#[]⟩, .int .i64 0], .bool false]) (by simp [results, Tryd.results16, go_sem, z0, z1, z2, z3, z4, z5]) rfl ?_
      exact ⟨by rw [HN.out], BZ⟩
    | true =>
      have ha : cmdAns ⟨(b0 : Int), (N1 : Int), (N2 : Int), T3, T4, (N5 : Int)⟩ = .tuple #[.string (cmdText ⟨(b0 : Int), (N1 : Int), (N2 : Int), T3, T4, (N5 : Int)⟩), .bool true] := by unfold cmdAns; rw [hok]; rfl
      rw [ha]
      have HK := hid hok
      clear ha hok
      by_cases ht : cmdText ⟨(b0 : Int), (N1 : Int), (N2 : Int), T3, T4, (N5 : Int)⟩ = s
      rotate_left
      · obtain ⟨T, hT⟩ : ∃ T, cmdText ⟨(b0 : Int), (N1 : Int), (N2 : Int), T3, T4, (N5 : Int)⟩ = T := ⟨_, rfl⟩
        rw [hT] at ht HA ⊢
        have hl : (T.toList == s.toList) = false := by rw [beq_eq_false_iff_ne]; intro q; rw [ByteArray.toList_eq, ByteArray.toList_eq] at q; exact ht (ByteArray.ext (Array.toList_inj.1 q))
        have HT := hid ht
        clear hT ht
        have HN : Hid (readCmdAns s = .tuple #[.agg #[.int .i64 0, .int .i64 0, .int .i64 0, .string ⟨#[]⟩, .string ⟨#[]⟩, .int .i64 0], .bool false]) := (show _ = _ by
          have hq : readCmd s = none := by rw [← HA.out]; exact if_neg (fun q => HT.out q.2.2)
          rw [readCmdAns, readCmdD, hq]; rfl)
        go_wp2
        have PZ := ((((((P10.out).set 0 (.int .i64 0)).set 1 (.int .i64 0)).set 2 (.int .i64 0)).set 3 (.string ⟨#[]⟩)).set 4 (.string ⟨#[]⟩)).set 5 (.int .i64 0)
        have BZ := ((((((B10.out).setCell (p := ⟨w.heap.size, 0, none⟩) (Nat.le_refl _) (.int .i64 0)).setCell (p := ⟨w.heap.size, 1, none⟩) (Nat.le_refl _) (.int .i64 0)).setCell (p := ⟨w.heap.size, 2, none⟩) (Nat.le_refl _) (.int .i64 0)).setCell (p := ⟨w.heap.size, 3, none⟩) (Nat.le_refl _) (.string ⟨#[]⟩)).setCell (p := ⟨w.heap.size, 4, none⟩) (Nat.le_refl _) (.string ⟨#[]⟩)).setCell (p := ⟨w.heap.size, 5, none⟩) (Nat.le_refl _) (.int .i64 0)
        have z0 := PZ.cell (j := 0) rfl
        have z1 := PZ.cell (j := 1) rfl
        have z2 := PZ.cell (j := 2) rfl
        have z3 := PZ.cell (j := 3) rfl
        have z4 := PZ.cell (j := 4) rfl
        have z5 := PZ.cell (j := 5) rfl
        refine bodyPost_ret (v := .tuple #[.agg #[.int .i64 0, .int .i64 0, .int .i64 0, .string ⟨#[]⟩, .string ⟨#[]⟩, .int .i64 0], .bool false]) (by simp [results, Tryd.results16, go_sem, z0, z1, z2, z3, z4, z5]) rfl ?_
        exact ⟨by rw [HN.out], BZ⟩
      · rw [ht]
        have hq : readCmd s = some ⟨(b0 : Int), (N1 : Int), (N2 : Int), T3, T4, (N5 : Int)⟩ := by rw [← HA.out]; exact if_pos ⟨rfl, HK.out, ht⟩
        have HN : Hid (readCmdAns s = .tuple #[.agg #[.int .i64 (b0 : Int), .int .i64 (N1 : Int), .int .i64 (N2 : Int), .string T3, .string T4, .int .i64 (N5 : Int)], .bool true]) := (show _ = _ by rw [readCmdAns, readCmdD, hq]; rfl)
        clear ht hq HK HA
        go_wp2
        go_wp2
        have PZ := ((((((P10.out).set 0 (.int .i64 (b0 : Int))).set 1 (.int .i64 (N1 : Int))).set 2 (.int .i64 (N2 : Int))).set 3 (.string T3)).set 4 (.string T4)).set 5 (.int .i64 (N5 : Int))
        have BZ := ((((((B10.out).setCell (p := ⟨w.heap.size, 0, none⟩) (Nat.le_refl _) (.int .i64 (b0 : Int))).setCell (p := ⟨w.heap.size, 1, none⟩) (Nat.le_refl _) (.int .i64 (N1 : Int))).setCell (p := ⟨w.heap.size, 2, none⟩) (Nat.le_refl _) (.int .i64 (N2 : Int))).setCell (p := ⟨w.heap.size, 3, none⟩) (Nat.le_refl _) (.string T3)).setCell (p := ⟨w.heap.size, 4, none⟩) (Nat.le_refl _) (.string T4)).setCell (p := ⟨w.heap.size, 5, none⟩) (Nat.le_refl _) (.int .i64 (N5 : Int))
        have z0 := PZ.cell (j := 0) rfl
        have z1 := PZ.cell (j := 1) rfl
        have z2 := PZ.cell (j := 2) rfl
        have z3 := PZ.cell (j := 3) rfl
        have z4 := PZ.cell (j := 4) rfl
        have z5 := PZ.cell (j := 5) rfl
        refine bodyPost_ret (v := .tuple #[.agg #[.int .i64 (b0 : Int), .int .i64 (N1 : Int), .int .i64 (N2 : Int), .string T3, .string T4, .int .i64 (N5 : Int)], .bool true]) (by simp [results, Tryd.results16, go_sem, z0, z1, z2, z3, z4, z5]) rfl ?_
        exact ⟨by rw [HN.out], BZ⟩
end Go.Proofs.YtihgkocfgjihhaaDoor

namespace Go.Proofs.YtihgkocfgjihhaaDoor
open Go.RowKit Go.Sort

def byteDid (o : Option (Nat × Nat)) (s : ByteArray) (b : Nat) (w : World) (e : Ending) (w' : World) : Prop := match o with
  | none => e = .panicked [misreadP] ∧ w.grownBy w' (some b)
  | some (n, k) => e = .returned (.int .i64 (n : Int)) ∧ RdIs w' b s k ∧ w.grownBy w' (some b)
set_option maxRecDepth 1000000 in
set_option maxHeartbeats 1000000 in
theorem oneByte_at (b : Nat) (s : ByteArray) (k : Nat) (hs : s.size ≤ 1048576) (hk : k ≤ s.size) (w : World) (hr : RdIs w b s k) :
    Calls Tryd.prog 74 #[.pointer (some ⟨b, 0, none⟩)] w fun e w' => byteDid (byteAt s k) s b w e w' := by
  have HR := hid hr
  have c0 := hr.cell (j := 0) rfl
  have c1 := hr.cell (j := 1) rfl
  have f1 := hr.thaw 1
  clear hr
  by_cases hlt : k < s.size
  · have HA : Hid (byteAt s k = some (s[k].toNat, k + 1)) := (show _ = _ by unfold byteAt; rw [List.getElem?_eq_getElem (by simpa using hlt)]; rfl)
    rw [HA.out]
    clear HA hk
    have hb : (s[k].toNat : Int) ≤ 255 := by have := s[k].toNat_lt; omega
    have hlt2 : (k : Int) < (s.size : Int) := by omega
    have cN := hid (fun r w => need_yes r w)
    have HZ := hid (HR.out.set 1 (.int .i64 ((k : Int) + 1)))
    have z0 := HZ.out.cell (j := 0) rfl
    have z1 := HZ.out.cell (j := 1) rfl
    go_enter Tryd.func74, Tryd.ntmps74
    go_wp2
    go_quiet (first | (go_at_call 54; refine Calls.quiet_of_same (cN.out _ _)) | fail)
    go_wp2
    go_quiet (fail)
    go_wp2
    go_ret
    exact ⟨rfl, HZ.out, ((grown_draws _ _ _).trans (grownBy_set _ _ _ _)).trans (grown_draws _ _ _)⟩
  · have HA : Hid (byteAt s k = none) := (show _ = _ by unfold byteAt; rw [List.getElem?_eq_none (by simpa using Nat.le_of_not_lt hlt)])
    rw [HA.out]
    obtain rfl : k = s.size := by omega
    have hk3 : decide ((s.size : Int) < (s.size : Int)) = false := by simp
    have cN := hid (fun r w => need_no r w)
    clear HA hk hlt
    go_enter Tryd.func74, Tryd.ntmps74
    go_wp2
    refine wp_region_any (by kernel_rfl) ?_
    refine wpAny_take (i := 0) (v := (.pointer (some ⟨b, 0, none⟩))) rfl (by kernel_rfl) (by kernel_rfl) (by kernel_rfl) (fun _ _ _ h => h) (Or.inl ⟨by rfl, by intro w; go_simp⟩) ?_
    refine wpAny_take (i := 1) (v := (.pointer (some ⟨b, 0, none⟩))) rfl (by kernel_rfl) (by kernel_rfl) (by kernel_rfl) (fun _ _ _ h => h) (Or.inl ⟨by rfl, by intro w; go_simp⟩) ?_
    refine wpAny_take (i := 2) (v := (.pointer (some ⟨b, 0, none⟩))) rfl (by kernel_rfl) (by kernel_rfl) (by kernel_rfl) (fun _ _ _ h => h) (Or.inl ⟨by rfl, by intro w; go_simp⟩) ?_
    refine wpAny_take (i := 3) (v := (.pointer (some ⟨b, 1, none⟩))) rfl (by kernel_rfl) (by kernel_rfl) (by kernel_rfl) (fun _ _ _ h => h) (Or.inl ⟨by rfl, by intro w; go_simp⟩) ?_
    refine wpAny_take (i := 5) (v := (.pointer (some ⟨b, 0, none⟩))) rfl (by kernel_rfl) (by kernel_rfl) (by kernel_rfl) (fun _ _ _ h => h) (Or.inl ⟨by rfl, by intro w; go_simp⟩) ?_
    refine wpAny_take (i := 6) (v := (.pointer (some ⟨b, 0, none⟩))) rfl (by kernel_rfl) (by kernel_rfl) (by kernel_rfl) (fun _ _ _ h => h) (Or.inl ⟨by rfl, by intro w; go_simp⟩) ?_
    refine wpAny_take (i := 7) (v := (.pointer (some ⟨b, 0, none⟩))) rfl (by kernel_rfl) (by kernel_rfl) (by kernel_rfl) (fun _ _ _ h => h) (Or.inl ⟨by rfl, by intro w; go_simp⟩) ?_
    refine wpAny_ready (rs := [4, 8]) (by kernel_rfl) (by simp) (AllReady.cons rfl (fun K hK => ?_) (AllReady.cons rfl (fun K hK => ?_) AllReady.nil))
    · go_simp
      refine hK _ _ ?_
      clear hK K
      refine wpAny_ready (rs := [8]) (by kernel_rfl) (by simp) (AllReady.cons rfl (fun K hK => ?_) AllReady.nil)
      go_simp
      refine hK _ _ ?_
      clear hK K
      refine wpAny_take (i := 9) (v := (.int .i64 (s.size : Int))) rfl (by kernel_rfl) (by kernel_rfl) (by kernel_rfl) (fun _ _ _ h => h) (Or.inl ⟨by rfl, by intro w; go_simp⟩) ?_
      refine wpAny_take (i := 10) (v := (.bool false)) rfl (by kernel_rfl) (by kernel_rfl) (by kernel_rfl) (fun _ _ _ h => h) (Or.inl ⟨by rfl, by intro w; go_simp⟩) ?_
      refine wpAny_ready (rs := [11]) (by kernel_rfl) (by simp) (AllReady.cons rfl (fun K hK => ?_) AllReady.nil)
      go_simp
      go_wp2_with (go_at_call 54; refine (cN.out _ _).mono ?_; rintro e w1 ⟨rfl, hw⟩; rw [hw]; clear hw w1)
      exact ⟨rfl, rfl, grown_draws _ _ 1⟩
    · go_simp
      refine hK _ _ ?_
      clear hK K
      refine wpAny_take (i := 9) (v := (.int .i64 (s.size : Int))) rfl (by kernel_rfl) (by kernel_rfl) (by kernel_rfl) (fun _ _ _ h => h) (Or.inl ⟨by rfl, by intro w; go_simp⟩) ?_
      refine wpAny_ready (rs := [4]) (by kernel_rfl) (by simp) (AllReady.cons rfl (fun K hK => ?_) AllReady.nil)
      go_simp
      refine hK _ _ ?_
      clear hK K
      refine wpAny_take (i := 10) (v := (.bool false)) rfl (by kernel_rfl) (by kernel_rfl) (by kernel_rfl) (fun _ _ _ h => h) (Or.inl ⟨by rfl, by intro w; go_simp⟩) ?_
      refine wpAny_ready (rs := [11]) (by kernel_rfl) (by simp) (AllReady.cons rfl (fun K hK => ?_) AllReady.nil)
      go_simp
      go_wp2_with (go_at_call 54; refine (cN.out _ _).mono ?_; rintro e w1 ⟨rfl, hw⟩; rw [hw]; clear hw w1)
      exact ⟨rfl, rfl, grown_draws _ _ 1⟩
end Go.Proofs.YtihgkocfgjihhaaDoor

namespace Go.Proofs.YtihgkocfgjihhaaDoor
open Go.RowKit

set_option maxRecDepth 1000000 in
set_option maxHeartbeats 2000000 in
theorem implCommandOk_any (d : CommandD) (w : World) :
    Calls Tryd.prog 37 #[.agg #[.int .i64 d.op, .int .i64 d.token, .int .i64 d.seq, .string d.key, .string d.val, .int .i64 d.ver]] w fun e w' => e = .returned (.bool (commandOk d)) ∧ Below w.heap.size w w' := by
  obtain ⟨op, tok, seq, key, val, ver⟩ := d
  dsimp only
  have HB := hid (below_more (Below.refl w.heap.size w) (.cells #[.int .i64 op, .int .i64 tok, .int .i64 seq, .string key, .string val, .int .i64 ver] 37))
  have hx : BlockIs (w.alloc (.cells #[.int .i64 op, .int .i64 tok, .int .i64 seq, .string key, .string val, .int .i64 ver] 37)) w.heap.size 37 [.int .i64 op, .int .i64 tok, .int .i64 seq, .string key, .string val, .int .i64 ver] := heap_alloc_new w _
  obtain ⟨W, hW⟩ : ∃ W, w.alloc (.cells #[.int .i64 op, .int .i64 tok, .int .i64 seq, .string key, .string val, .int .i64 ver] 37) = W := ⟨_, rfl⟩
  rw [hW] at HB hx
  have c0 := hx.cell (j := 0) rfl
  have c1 := hx.cell (j := 1) rfl
  have c2 := hx.cell (j := 2) rfl
  have c3 := hx.cell (j := 3) rfl
  have c4 := hx.cell (j := 4) rfl
  have c5 := hx.cell (j := 5) rfl
  clear hx
  have hk := empty_text key
  have hv := empty_text val
  have cS := hid (fun x w => seqOk_any x w)
  have cK := hid (fun x w => keyOk_any x w)
  have cV := hid (fun x w => valOk_any x w)
  have cR := hid (fun x w => verOk_any x w)
  by_cases hop : op = 1
  · subst hop
    by_cases t0 : tok = 0
    rotate_left
    · skip
      have HR : Hid (commandOk ⟨1, tok, seq, key, val, ver⟩ = false) := by show _ = _; simp [commandOk, t0]
      go_enter Tryd.func37, Tryd.ntmps37
      go_wp2_with (first | (go_at_call 66; with_reducible refine Calls.mono (cS.out _ _) ?_; rintro e w1 ⟨rfl, hw⟩; rw [hw]; clear hw w1) | (go_at_call 67; with_reducible refine Calls.mono (cK.out _ _) ?_; rintro e w1 ⟨rfl, hw⟩; rw [hw]; clear hw w1) | (go_at_call 68; with_reducible refine Calls.mono (cV.out _ _) ?_; rintro e w1 ⟨rfl, hw⟩; rw [hw]; clear hw w1) | (go_at_call 69; with_reducible refine Calls.mono (cR.out _ _) ?_; rintro e w1 ⟨rfl, hw⟩; rw [hw]; clear hw w1) | fail)
      go_ret
      exact ⟨by rw [HR.out]; rfl, HB.out⟩
    subst t0
    by_cases q0 : seq = 0
    rotate_left
    · skip
      have HR : Hid (commandOk ⟨1, 0, seq, key, val, ver⟩ = false) := by show _ = _; simp [commandOk, q0]
      go_enter Tryd.func37, Tryd.ntmps37
      go_wp2_with (first | (go_at_call 66; with_reducible refine Calls.mono (cS.out _ _) ?_; rintro e w1 ⟨rfl, hw⟩; rw [hw]; clear hw w1) | (go_at_call 67; with_reducible refine Calls.mono (cK.out _ _) ?_; rintro e w1 ⟨rfl, hw⟩; rw [hw]; clear hw w1) | (go_at_call 68; with_reducible refine Calls.mono (cV.out _ _) ?_; rintro e w1 ⟨rfl, hw⟩; rw [hw]; clear hw w1) | (go_at_call 69; with_reducible refine Calls.mono (cR.out _ _) ?_; rintro e w1 ⟨rfl, hw⟩; rw [hw]; clear hw w1) | fail)
      go_ret
      exact ⟨by rw [HR.out]; rfl, HB.out⟩
    subst q0
    by_cases y0 : key.size = 0
    rotate_left
    · rw [decide_eq_false y0] at hk
      have HR : Hid (commandOk ⟨1, 0, 0, key, val, ver⟩ = false) := by show _ = _; simp [commandOk, y0]
      go_enter Tryd.func37, Tryd.ntmps37
      go_wp2_with (first | (go_at_call 66; with_reducible refine Calls.mono (cS.out _ _) ?_; rintro e w1 ⟨rfl, hw⟩; rw [hw]; clear hw w1) | (go_at_call 67; with_reducible refine Calls.mono (cK.out _ _) ?_; rintro e w1 ⟨rfl, hw⟩; rw [hw]; clear hw w1) | (go_at_call 68; with_reducible refine Calls.mono (cV.out _ _) ?_; rintro e w1 ⟨rfl, hw⟩; rw [hw]; clear hw w1) | (go_at_call 69; with_reducible refine Calls.mono (cR.out _ _) ?_; rintro e w1 ⟨rfl, hw⟩; rw [hw]; clear hw w1) | fail)
      go_ret
      exact ⟨by rw [HR.out]; rfl, HB.out⟩
    rw [decide_eq_true y0] at hk
    by_cases v0 : val.size = 0
    rotate_left
    · rw [decide_eq_false v0] at hv
      have HR : Hid (commandOk ⟨1, 0, 0, key, val, ver⟩ = false) := by show _ = _; simp [commandOk, v0]
      go_enter Tryd.func37, Tryd.ntmps37
      go_wp2_with (first | (go_at_call 66; with_reducible refine Calls.mono (cS.out _ _) ?_; rintro e w1 ⟨rfl, hw⟩; rw [hw]; clear hw w1) | (go_at_call 67; with_reducible refine Calls.mono (cK.out _ _) ?_; rintro e w1 ⟨rfl, hw⟩; rw [hw]; clear hw w1) | (go_at_call 68; with_reducible refine Calls.mono (cV.out _ _) ?_; rintro e w1 ⟨rfl, hw⟩; rw [hw]; clear hw w1) | (go_at_call 69; with_reducible refine Calls.mono (cR.out _ _) ?_; rintro e w1 ⟨rfl, hw⟩; rw [hw]; clear hw w1) | fail)
      go_ret
      exact ⟨by rw [HR.out]; rfl, HB.out⟩
    rw [decide_eq_true v0] at hv
    have z1 : within 0 0 1000000 = true := by decide
    have z2 : within 1 1 5 = true := by decide
    by_cases r0 : ver = 0
    · subst r0
      have HR : Hid (commandOk ⟨1, 0, 0, key, val, 0⟩ = true) := by show _ = _; simp [commandOk, y0, v0, z1, z2]
      go_enter Tryd.func37, Tryd.ntmps37
      go_wp2_with (first | (go_at_call 66; with_reducible refine Calls.mono (cS.out _ _) ?_; rintro e w1 ⟨rfl, hw⟩; rw [hw]; clear hw w1) | (go_at_call 67; with_reducible refine Calls.mono (cK.out _ _) ?_; rintro e w1 ⟨rfl, hw⟩; rw [hw]; clear hw w1) | (go_at_call 68; with_reducible refine Calls.mono (cV.out _ _) ?_; rintro e w1 ⟨rfl, hw⟩; rw [hw]; clear hw w1) | (go_at_call 69; with_reducible refine Calls.mono (cR.out _ _) ?_; rintro e w1 ⟨rfl, hw⟩; rw [hw]; clear hw w1) | fail)
      go_ret
      exact ⟨by rw [HR.out]; rfl, HB.out⟩
    have HR : Hid (commandOk ⟨1, 0, 0, key, val, ver⟩ = false) := by show _ = _; simp [commandOk, r0]
    go_enter Tryd.func37, Tryd.ntmps37
    go_wp2_with (first | (go_at_call 66; with_reducible refine Calls.mono (cS.out _ _) ?_; rintro e w1 ⟨rfl, hw⟩; rw [hw]; clear hw w1) | (go_at_call 67; with_reducible refine Calls.mono (cK.out _ _) ?_; rintro e w1 ⟨rfl, hw⟩; rw [hw]; clear hw w1) | (go_at_call 68; with_reducible refine Calls.mono (cV.out _ _) ?_; rintro e w1 ⟨rfl, hw⟩; rw [hw]; clear hw w1) | (go_at_call 69; with_reducible refine Calls.mono (cR.out _ _) ?_; rintro e w1 ⟨rfl, hw⟩; rw [hw]; clear hw w1) | fail)
    go_ret
    exact ⟨by rw [HR.out]; rfl, HB.out⟩
  by_cases h1 : 0 ≤ tok ∧ tok ≤ 1000000
  rotate_left
  · have e1 := within_no (x := tok) (a := 0) (b := 1000000) (by omega)
    have HR : Hid (commandOk ⟨op, tok, seq, key, val, ver⟩ = false) := by show _ = _; simp [commandOk, hop, e1]
    go_enter Tryd.func37, Tryd.ntmps37
    go_wp2_with (first | (go_at_call 66; with_reducible refine Calls.mono (cS.out _ _) ?_; rintro e w1 ⟨rfl, hw⟩; rw [hw]; clear hw w1) | (go_at_call 67; with_reducible refine Calls.mono (cK.out _ _) ?_; rintro e w1 ⟨rfl, hw⟩; rw [hw]; clear hw w1) | (go_at_call 68; with_reducible refine Calls.mono (cV.out _ _) ?_; rintro e w1 ⟨rfl, hw⟩; rw [hw]; clear hw w1) | (go_at_call 69; with_reducible refine Calls.mono (cR.out _ _) ?_; rintro e w1 ⟨rfl, hw⟩; rw [hw]; clear hw w1) | fail)
    go_ret
    exact ⟨by rw [HR.out]; rfl, HB.out⟩
  have e1 := within_yes (x := tok) (a := 0) (b := 1000000) h1.1 h1.2
  by_cases h2 : 0 ≤ seq ∧ seq ≤ 1000000
  rotate_left
  · have e2 := within_no (x := seq) (a := 0) (b := 1000000) (by omega)
    have HR : Hid (commandOk ⟨op, tok, seq, key, val, ver⟩ = false) := by show _ = _; simp [commandOk, hop, e1, e2]
    go_enter Tryd.func37, Tryd.ntmps37
    go_wp2_with (first | (go_at_call 66; with_reducible refine Calls.mono (cS.out _ _) ?_; rintro e w1 ⟨rfl, hw⟩; rw [hw]; clear hw w1) | (go_at_call 67; with_reducible refine Calls.mono (cK.out _ _) ?_; rintro e w1 ⟨rfl, hw⟩; rw [hw]; clear hw w1) | (go_at_call 68; with_reducible refine Calls.mono (cV.out _ _) ?_; rintro e w1 ⟨rfl, hw⟩; rw [hw]; clear hw w1) | (go_at_call 69; with_reducible refine Calls.mono (cR.out _ _) ?_; rintro e w1 ⟨rfl, hw⟩; rw [hw]; clear hw w1) | fail)
    go_ret
    exact ⟨by rw [HR.out]; rfl, HB.out⟩
  have e2 := within_yes (x := seq) (a := 0) (b := 1000000) h2.1 h2.2
  by_cases hkl : 1 ≤ (key.size : Int) ∧ (key.size : Int) ≤ 8
  rotate_left
  · have e4 := within_no (x := (key.size : Int)) (a := 1) (b := 8) (by omega)
    have HR : Hid (commandOk ⟨op, tok, seq, key, val, ver⟩ = false) := by show _ = _; simp [commandOk, hop, e1, e2, e4]
    go_enter Tryd.func37, Tryd.ntmps37
    go_wp2_with (first | (go_at_call 66; with_reducible refine Calls.mono (cS.out _ _) ?_; rintro e w1 ⟨rfl, hw⟩; rw [hw]; clear hw w1) | (go_at_call 67; with_reducible refine Calls.mono (cK.out _ _) ?_; rintro e w1 ⟨rfl, hw⟩; rw [hw]; clear hw w1) | (go_at_call 68; with_reducible refine Calls.mono (cV.out _ _) ?_; rintro e w1 ⟨rfl, hw⟩; rw [hw]; clear hw w1) | (go_at_call 69; with_reducible refine Calls.mono (cR.out _ _) ?_; rintro e w1 ⟨rfl, hw⟩; rw [hw]; clear hw w1) | fail)
    go_ret
    exact ⟨by rw [HR.out]; rfl, HB.out⟩
  have e4 := within_yes (x := (key.size : Int)) (a := 1) (b := 8) hkl.1 hkl.2
  by_cases op2 : op = 2
  · subst op2
    have e3 : within 2 1 5 = true := by decide
    by_cases hvl : 20 < (val.size : Int)
    · have n20 : ¬ (val.size : Int) ≤ 20 := by omega
      have HR : Hid (commandOk ⟨2, tok, seq, key, val, ver⟩ = false) := by show _ = _; simp [commandOk, e1, e2, e4, e3, n20]
      go_enter Tryd.func37, Tryd.ntmps37
      go_wp2_with (first | (go_at_call 66; with_reducible refine Calls.mono (cS.out _ _) ?_; rintro e w1 ⟨rfl, hw⟩; rw [hw]; clear hw w1) | (go_at_call 67; with_reducible refine Calls.mono (cK.out _ _) ?_; rintro e w1 ⟨rfl, hw⟩; rw [hw]; clear hw w1) | (go_at_call 68; with_reducible refine Calls.mono (cV.out _ _) ?_; rintro e w1 ⟨rfl, hw⟩; rw [hw]; clear hw w1) | (go_at_call 69; with_reducible refine Calls.mono (cR.out _ _) ?_; rintro e w1 ⟨rfl, hw⟩; rw [hw]; clear hw w1) | fail)
      go_ret
      exact ⟨by rw [HR.out]; rfl, HB.out⟩
    have y20 : (val.size : Int) ≤ 20 := by omega
    have HR : Hid (commandOk ⟨2, tok, seq, key, val, ver⟩ = decide (ver = 0)) := by show _ = _; simp [commandOk, e1, e2, e4, e3, y20]
    go_enter Tryd.func37, Tryd.ntmps37
    go_wp2_with (first | (go_at_call 66; with_reducible refine Calls.mono (cS.out _ _) ?_; rintro e w1 ⟨rfl, hw⟩; rw [hw]; clear hw w1) | (go_at_call 67; with_reducible refine Calls.mono (cK.out _ _) ?_; rintro e w1 ⟨rfl, hw⟩; rw [hw]; clear hw w1) | (go_at_call 68; with_reducible refine Calls.mono (cV.out _ _) ?_; rintro e w1 ⟨rfl, hw⟩; rw [hw]; clear hw w1) | (go_at_call 69; with_reducible refine Calls.mono (cR.out _ _) ?_; rintro e w1 ⟨rfl, hw⟩; rw [hw]; clear hw w1) | fail)
    go_ret
    exact ⟨by rw [HR.out]; rfl, HB.out⟩
  by_cases op5 : op = 5
  · subst op5
    have e3 : within 5 1 5 = true := by decide
    by_cases hvl : 20 < (val.size : Int)
    · have n20 : ¬ (val.size : Int) ≤ 20 := by omega
      have HR : Hid (commandOk ⟨5, tok, seq, key, val, ver⟩ = false) := by show _ = _; simp [commandOk, e1, e2, e4, e3, n20]
      go_enter Tryd.func37, Tryd.ntmps37
      go_wp2_with (first | (go_at_call 66; with_reducible refine Calls.mono (cS.out _ _) ?_; rintro e w1 ⟨rfl, hw⟩; rw [hw]; clear hw w1) | (go_at_call 67; with_reducible refine Calls.mono (cK.out _ _) ?_; rintro e w1 ⟨rfl, hw⟩; rw [hw]; clear hw w1) | (go_at_call 68; with_reducible refine Calls.mono (cV.out _ _) ?_; rintro e w1 ⟨rfl, hw⟩; rw [hw]; clear hw w1) | (go_at_call 69; with_reducible refine Calls.mono (cR.out _ _) ?_; rintro e w1 ⟨rfl, hw⟩; rw [hw]; clear hw w1) | fail)
      go_ret
      exact ⟨by rw [HR.out]; rfl, HB.out⟩
    have y20 : (val.size : Int) ≤ 20 := by omega
    have HR : Hid (commandOk ⟨5, tok, seq, key, val, ver⟩ = within ver 1 1000000000) := by show _ = _; simp [commandOk, e1, e2, e4, e3, y20]
    go_enter Tryd.func37, Tryd.ntmps37
    go_wp2_with (first | (go_at_call 66; with_reducible refine Calls.mono (cS.out _ _) ?_; rintro e w1 ⟨rfl, hw⟩; rw [hw]; clear hw w1) | (go_at_call 67; with_reducible refine Calls.mono (cK.out _ _) ?_; rintro e w1 ⟨rfl, hw⟩; rw [hw]; clear hw w1) | (go_at_call 68; with_reducible refine Calls.mono (cV.out _ _) ?_; rintro e w1 ⟨rfl, hw⟩; rw [hw]; clear hw w1) | (go_at_call 69; with_reducible refine Calls.mono (cR.out _ _) ?_; rintro e w1 ⟨rfl, hw⟩; rw [hw]; clear hw w1) | fail)
    go_ret
    exact ⟨by rw [HR.out]; rfl, HB.out⟩
  by_cases op3 : op = 3
  · subst op3
    have e3 : within 3 1 5 = true := by decide
    by_cases v0 : val.size = 0
    rotate_left
    · rw [decide_eq_false v0] at hv
      have HR : Hid (commandOk ⟨3, tok, seq, key, val, ver⟩ = false) := by show _ = _; simp [commandOk, e1, e2, e4, e3, v0]
      go_enter Tryd.func37, Tryd.ntmps37
      go_wp2_with (first | (go_at_call 66; with_reducible refine Calls.mono (cS.out _ _) ?_; rintro e w1 ⟨rfl, hw⟩; rw [hw]; clear hw w1) | (go_at_call 67; with_reducible refine Calls.mono (cK.out _ _) ?_; rintro e w1 ⟨rfl, hw⟩; rw [hw]; clear hw w1) | (go_at_call 68; with_reducible refine Calls.mono (cV.out _ _) ?_; rintro e w1 ⟨rfl, hw⟩; rw [hw]; clear hw w1) | (go_at_call 69; with_reducible refine Calls.mono (cR.out _ _) ?_; rintro e w1 ⟨rfl, hw⟩; rw [hw]; clear hw w1) | fail)
      go_ret
      exact ⟨by rw [HR.out]; rfl, HB.out⟩
    rw [decide_eq_true v0] at hv
    have HR : Hid (commandOk ⟨3, tok, seq, key, val, ver⟩ = decide (ver = 0)) := by show _ = _; simp [commandOk, e1, e2, e4, e3, v0]
    go_enter Tryd.func37, Tryd.ntmps37
    go_wp2_with (first | (go_at_call 66; with_reducible refine Calls.mono (cS.out _ _) ?_; rintro e w1 ⟨rfl, hw⟩; rw [hw]; clear hw w1) | (go_at_call 67; with_reducible refine Calls.mono (cK.out _ _) ?_; rintro e w1 ⟨rfl, hw⟩; rw [hw]; clear hw w1) | (go_at_call 68; with_reducible refine Calls.mono (cV.out _ _) ?_; rintro e w1 ⟨rfl, hw⟩; rw [hw]; clear hw w1) | (go_at_call 69; with_reducible refine Calls.mono (cR.out _ _) ?_; rintro e w1 ⟨rfl, hw⟩; rw [hw]; clear hw w1) | fail)
    go_ret
    exact ⟨by rw [HR.out]; rfl, HB.out⟩
  by_cases op4 : op = 4
  · subst op4
    have e3 : within 4 1 5 = true := by decide
    by_cases v0 : val.size = 0
    rotate_left
    · rw [decide_eq_false v0] at hv
      have HR : Hid (commandOk ⟨4, tok, seq, key, val, ver⟩ = false) := by show _ = _; simp [commandOk, e1, e2, e4, e3, v0]
      go_enter Tryd.func37, Tryd.ntmps37
      go_wp2_with (first | (go_at_call 66; with_reducible refine Calls.mono (cS.out _ _) ?_; rintro e w1 ⟨rfl, hw⟩; rw [hw]; clear hw w1) | (go_at_call 67; with_reducible refine Calls.mono (cK.out _ _) ?_; rintro e w1 ⟨rfl, hw⟩; rw [hw]; clear hw w1) | (go_at_call 68; with_reducible refine Calls.mono (cV.out _ _) ?_; rintro e w1 ⟨rfl, hw⟩; rw [hw]; clear hw w1) | (go_at_call 69; with_reducible refine Calls.mono (cR.out _ _) ?_; rintro e w1 ⟨rfl, hw⟩; rw [hw]; clear hw w1) | fail)
      go_ret
      exact ⟨by rw [HR.out]; rfl, HB.out⟩
    rw [decide_eq_true v0] at hv
    have HR : Hid (commandOk ⟨4, tok, seq, key, val, ver⟩ = decide (ver = 0)) := by show _ = _; simp [commandOk, e1, e2, e4, e3, v0]
    go_enter Tryd.func37, Tryd.ntmps37
    go_wp2_with (first | (go_at_call 66; with_reducible refine Calls.mono (cS.out _ _) ?_; rintro e w1 ⟨rfl, hw⟩; rw [hw]; clear hw w1) | (go_at_call 67; with_reducible refine Calls.mono (cK.out _ _) ?_; rintro e w1 ⟨rfl, hw⟩; rw [hw]; clear hw w1) | (go_at_call 68; with_reducible refine Calls.mono (cV.out _ _) ?_; rintro e w1 ⟨rfl, hw⟩; rw [hw]; clear hw w1) | (go_at_call 69; with_reducible refine Calls.mono (cR.out _ _) ?_; rintro e w1 ⟨rfl, hw⟩; rw [hw]; clear hw w1) | fail)
    go_ret
    exact ⟨by rw [HR.out]; rfl, HB.out⟩
  have e3 := within_no (x := op) (a := 1) (b := 5) (by omega)
  have HR : Hid (commandOk ⟨op, tok, seq, key, val, ver⟩ = false) := by show _ = _; simp [commandOk, e1, e2, e4, e3]
  go_enter Tryd.func37, Tryd.ntmps37
  go_wp2_with (first | (go_at_call 66; with_reducible refine Calls.mono (cS.out _ _) ?_; rintro e w1 ⟨rfl, hw⟩; rw [hw]; clear hw w1) | (go_at_call 67; with_reducible refine Calls.mono (cK.out _ _) ?_; rintro e w1 ⟨rfl, hw⟩; rw [hw]; clear hw w1) | (go_at_call 68; with_reducible refine Calls.mono (cV.out _ _) ?_; rintro e w1 ⟨rfl, hw⟩; rw [hw]; clear hw w1) | (go_at_call 69; with_reducible refine Calls.mono (cR.out _ _) ?_; rintro e w1 ⟨rfl, hw⟩; rw [hw]; clear hw w1) | fail)
  go_ret
  exact ⟨by rw [HR.out]; rfl, HB.out⟩
end Go.Proofs.YtihgkocfgjihhaaDoor

namespace Go.Proofs.YtihgkocfgjihhaaDoor
open Go.RowKit Go.Sort

def cmdAtDid (o : Option (CommandD × Nat)) (s : ByteArray) (b : Nat) (w : World) (e : Ending) (w' : World) : Prop := match o with
  | none => e = .panicked [misreadP] ∧ w.grownBy w' (some b)
  | some (d, k) => e = .returned (.agg (commandEnc d).toArray) ∧ RdIs w' b s k ∧ w.grownBy w' (some b)
theorem cmdAt_fits {s : ByteArray} {k : Nat} {d : CommandD} (h : cmdAt s = some (d, k)) : k ≤ s.size := by
  unfold cmdAt at h
  cases h0 : byteAt s 0 with
  | none => rw [h0] at h; cases h
  | some p0 =>
  obtain ⟨x0, k1⟩ := p0
  have hk1 : k1 ≤ s.size := by have := byteAt_fits h0; omega
  rw [h0] at h
  simp only [Option.bind_some] at h
  cases h1 : numAt s 1000000 k1 with
  | none => rw [h1] at h; cases h
  | some p1 =>
  obtain ⟨x1, k2⟩ := p1
  have hk2 := (numAt_fits hk1 h1).2.2.2.1
  rw [h1] at h
  simp only [Option.bind_some] at h
  cases h2 : numAt s 1000000 k2 with
  | none => rw [h2] at h; cases h
  | some p2 =>
  obtain ⟨x2, k3⟩ := p2
  have hk3 := (numAt_fits hk2 h2).2.2.2.1
  rw [h2] at h
  simp only [Option.bind_some] at h
  cases h3 : txtAt s k3 with
  | none => rw [h3] at h; cases h
  | some p3 =>
  obtain ⟨x3, k4⟩ := p3
  have hk4 := (txtAt_fits hk3 h3).2.2.1
  rw [h3] at h
  simp only [Option.bind_some] at h
  cases h4 : txtAt s k4 with
  | none => rw [h4] at h; cases h
  | some p4 =>
  obtain ⟨x4, k5⟩ := p4
  have hk5 := (txtAt_fits hk4 h4).2.2.1
  rw [h4] at h
  simp only [Option.bind_some] at h
  cases h5 : numAt s 1000000000 k5 with
  | none => rw [h5] at h; cases h
  | some p5 =>
  obtain ⟨x5, k6⟩ := p5
  have hk6 := (numAt_fits hk5 h5).2.2.2.1
  rw [h5] at h
  simp only [Option.bind_some] at h
  split at h
  · cases h; exact hk6
  · cases h

set_option maxRecDepth 1000000 in
set_option maxHeartbeats 4000000 in
theorem command_at (b : Nat) (s : ByteArray) (hs : s.size ≤ 1048576) (w : World) (hr : RdIs w b s 0) :
    Calls Tryd.prog 41 #[.pointer (some ⟨b, 0, none⟩)] w fun e w' => cmdAtDid (cmdAt s) s b w e w' := by
  have hX := below_more (Below.refl w.heap.size w) (.cells #[.int .i64 0, .int .i64 0, .int .i64 0, .string ⟨#[]⟩, .string ⟨#[]⟩, .int .i64 0] 37)
  have hb := BlockIs.lt hr
  have P0 : Hid (BlockIs (w.alloc (.cells #[.int .i64 0, .int .i64 0, .int .i64 0, .string ⟨#[]⟩, .string ⟨#[]⟩, .int .i64 0] 37)) w.heap.size 37 [.int .i64 0, .int .i64 0, .int .i64 0, .string ⟨#[]⟩, .string ⟨#[]⟩, .int .i64 0]) := heap_alloc_new w _
  have R0 : Hid (RdIs _ b s 0) := BlockIs.on hr hX hb
  have G0 := hid (grown_of_below hX (some b))
  clear hX hr
  obtain ⟨w0, hw0⟩ : ∃ W, w.alloc (.cells #[.int .i64 0, .int .i64 0, .int .i64 0, .string ⟨#[]⟩, .string ⟨#[]⟩, .int .i64 0] 37) = W := ⟨_, rfl⟩
  rw [hw0] at P0 R0 G0
  go_enter Tryd.func41, Tryd.ntmps41
  go_wp2_with fail
  refine (oneByte_at b s 0 hs (Nat.zero_le _) _ R0.out).mono ?_
  intro e w1 hd
  clear hw0
  cases h0 : byteAt s 0 with
  | none =>
    rw [h0] at hd
    obtain ⟨rfl, hg⟩ := hd
    have HR : Hid (cmdAt s = none) := (show _ = _ by simp [cmdAt, h0])
    clear h0
    go_wp2
    rw [HR.out]
    exact And.intro rfl (And.intro rfl (G0.out.trans hg))
  | some p =>
  obtain ⟨x0, k1⟩ := p
  rw [h0] at hd
  obtain ⟨rfl, hr, hg⟩ := hd
  have hk1 : k1 ≤ s.size := by have := byteAt_fits h0; omega
  have hlt : w.heap.size < w1.heap.size := (blk_grown P0.out hg (by omega)).lt
  have hy := below_more (Below.refl w1.heap.size w1) (.cells #[.int .i64 (x0 : Int), .int .i64 0, .int .i64 0, .string ⟨#[]⟩, .string ⟨#[]⟩, .int .i64 0] 37)
  have X1 : Hid (BlockIs (w1.alloc (.cells #[.int .i64 (x0 : Int), .int .i64 0, .int .i64 0, .string ⟨#[]⟩, .string ⟨#[]⟩, .int .i64 0] 37)) w1.heap.size 37 [.int .i64 (x0 : Int), .int .i64 0, .int .i64 0, .string ⟨#[]⟩, .string ⟨#[]⟩, .int .i64 0]) := heap_alloc_new w1 _
  have P1 := hid ((blk_grown P0.out hg (by omega)).on hy hlt)
  have R1 : Hid (RdIs _ b s k1) := BlockIs.on hr hy (BlockIs.lt hr)
  have G1 := hid (grown_new (G0.out.trans hg) (.cells #[.int .i64 (x0 : Int), .int .i64 0, .int .i64 0, .string ⟨#[]⟩, .string ⟨#[]⟩, .int .i64 0] 37))
  have H0 := hid h0
  obtain ⟨q, hq⟩ : ∃ q, w1.heap.size = q := ⟨_, rfl⟩
  rw [hq] at hlt X1
  obtain ⟨v1, hv1⟩ : ∃ W, w1.alloc (.cells #[.int .i64 (x0 : Int), .int .i64 0, .int .i64 0, .string ⟨#[]⟩, .string ⟨#[]⟩, .int .i64 0] 37) = W := ⟨_, rfl⟩
  rw [hv1] at X1 P1 R1 G1
  have HV := hid hv1
  have HQ := hid hq
  clear h0 hr hg hy P0 R0 G0 hv1 hq
  go_wp2_with fail
  rw [HV.out, HQ.out]
  refine (number_at b s k1 1000000 hs hk1 _ R1.out _ rfl).mono ?_
  intro e u1 hd
  cases h1 : numAt s 1000000 k1 with
  | none =>
    rw [h1] at hd
    obtain ⟨rfl, hg⟩ := hd
    have HR : Hid (cmdAt s = none) := (show _ = _ by simp [cmdAt, h1, H0.out])
    clear h1
    go_wp2
    rw [HR.out]
    exact And.intro rfl (And.intro rfl (G1.out.trans hg))
  | some p =>
  obtain ⟨x1, k2⟩ := p
  rw [h1] at hd
  obtain ⟨rfl, hr, hg⟩ := hd
  have hk2 := (numAt_fits hk1 h1).2.2.2.1
  have H1 := hid h1
  have Xa := blk_grown X1.out hg (by omega)
  have Pa := blk_grown P1.out hg (by omega)
  have Ga := G1.out.trans hg
  have c := Xa.cell (j := 1) rfl
  have f := Xa.thaw 1
  have X2 := hid (Xa.set 1 (.int .i64 (x1 : Int)))
  have P2 := hid (Pa.far (b := q) (j := 1) (by omega) (.int .i64 (x1 : Int)))
  have R2 : Hid (RdIs _ b s k2) := BlockIs.far hr (b := q) (j := 1) (by omega) (.int .i64 (x1 : Int))
  have G2 := hid (grown_put Ga (show w.heap.size ≤ q by omega) (j := 1) (.int .i64 (x1 : Int)))
  clear h1 hr hg Xa Pa Ga P1 R1 G1 X1
  go_wp2_with fail
  refine (number_at b s k2 1000000 hs hk2 _ R2.out _ rfl).mono ?_
  intro e u2 hd
  cases h2 : numAt s 1000000 k2 with
  | none =>
    rw [h2] at hd
    obtain ⟨rfl, hg⟩ := hd
    have HR : Hid (cmdAt s = none) := (show _ = _ by simp [cmdAt, h2, H0.out, H1.out])
    clear h2
    go_wp2
    rw [HR.out]
    exact And.intro rfl (And.intro rfl (G2.out.trans hg))
  | some p =>
  obtain ⟨x2, k3⟩ := p
  rw [h2] at hd
  obtain ⟨rfl, hr, hg⟩ := hd
  have hk3 := (numAt_fits hk2 h2).2.2.2.1
  have H2 := hid h2
  have Xa := blk_grown X2.out hg (by omega)
  have Pa := blk_grown P2.out hg (by omega)
  have Ga := G2.out.trans hg
  have c := Xa.cell (j := 2) rfl
  have f := Xa.thaw 2
  have X3 := hid (Xa.set 2 (.int .i64 (x2 : Int)))
  have P3 := hid (Pa.far (b := q) (j := 2) (by omega) (.int .i64 (x2 : Int)))
  have R3 : Hid (RdIs _ b s k3) := BlockIs.far hr (b := q) (j := 2) (by omega) (.int .i64 (x2 : Int))
  have G3 := hid (grown_put Ga (show w.heap.size ≤ q by omega) (j := 2) (.int .i64 (x2 : Int)))
  clear h2 hr hg Xa Pa Ga P2 R2 G2 X2
  go_wp2_with fail
  refine (short_at b s k3 hs _ R3.out).mono ?_
  intro e u3 hd
  cases h3 : txtAt s k3 with
  | none =>
    rw [h3] at hd
    obtain ⟨rfl, hg⟩ := hd
    have HR : Hid (cmdAt s = none) := (show _ = _ by simp [cmdAt, h3, H0.out, H1.out, H2.out])
    clear h3
    go_wp2
    rw [HR.out]
    exact And.intro rfl (And.intro rfl (G3.out.trans hg))
  | some p =>
  obtain ⟨x3, k4⟩ := p
  rw [h3] at hd
  obtain ⟨rfl, hr, hg⟩ := hd
  have hk4 := (txtAt_fits hk3 h3).2.2.1
  have H3 := hid h3
  have Xa := blk_grown X3.out hg (by omega)
  have Pa := blk_grown P3.out hg (by omega)
  have Ga := G3.out.trans hg
  have c := Xa.cell (j := 3) rfl
  have f := Xa.thaw 3
  have X4 := hid (Xa.set 3 (.string x3))
  have P4 := hid (Pa.far (b := q) (j := 3) (by omega) (.string x3))
  have R4 : Hid (RdIs _ b s k4) := BlockIs.far hr (b := q) (j := 3) (by omega) (.string x3)
  have G4 := hid (grown_put Ga (show w.heap.size ≤ q by omega) (j := 3) (.string x3))
  clear h3 hr hg Xa Pa Ga P3 R3 G3 X3
  go_wp2_with fail
  refine (short_at b s k4 hs _ R4.out).mono ?_
  intro e u4 hd
  cases h4 : txtAt s k4 with
  | none =>
    rw [h4] at hd
    obtain ⟨rfl, hg⟩ := hd
    have HR : Hid (cmdAt s = none) := (show _ = _ by simp [cmdAt, h4, H0.out, H1.out, H2.out, H3.out])
    clear h4
    go_wp2
    rw [HR.out]
    exact And.intro rfl (And.intro rfl (G4.out.trans hg))
  | some p =>
  obtain ⟨x4, k5⟩ := p
  rw [h4] at hd
  obtain ⟨rfl, hr, hg⟩ := hd
  have hk5 := (txtAt_fits hk4 h4).2.2.1
  have H4 := hid h4
  have Xa := blk_grown X4.out hg (by omega)
  have Pa := blk_grown P4.out hg (by omega)
  have Ga := G4.out.trans hg
  have c := Xa.cell (j := 4) rfl
  have f := Xa.thaw 4
  have X5 := hid (Xa.set 4 (.string x4))
  have P5 := hid (Pa.far (b := q) (j := 4) (by omega) (.string x4))
  have R5 : Hid (RdIs _ b s k5) := BlockIs.far hr (b := q) (j := 4) (by omega) (.string x4)
  have G5 := hid (grown_put Ga (show w.heap.size ≤ q by omega) (j := 4) (.string x4))
  clear h4 hr hg Xa Pa Ga P4 R4 G4 X4
  go_wp2_with fail
  refine (number_at b s k5 1000000000 hs hk5 _ R5.out _ rfl).mono ?_
  intro e u5 hd
  cases h5 : numAt s 1000000000 k5 with
  | none =>
    rw [h5] at hd
    obtain ⟨rfl, hg⟩ := hd
    have HR : Hid (cmdAt s = none) := (show _ = _ by simp [cmdAt, h5, H0.out, H1.out, H2.out, H3.out, H4.out])
    clear h5
    go_wp2
    rw [HR.out]
    exact And.intro rfl (And.intro rfl (G5.out.trans hg))
  | some p =>
  obtain ⟨x5, k6⟩ := p
  rw [h5] at hd
  obtain ⟨rfl, hr, hg⟩ := hd
  have hk6 := (numAt_fits hk5 h5).2.2.2.1
  have H5 := hid h5
  have Xa := blk_grown X5.out hg (by omega)
  have Pa := blk_grown P5.out hg (by omega)
  have Ga := G5.out.trans hg
  have c := Xa.cell (j := 5) rfl
  have f := Xa.thaw 5
  have X6 := hid (Xa.set 5 (.int .i64 (x5 : Int)))
  have P6 := hid (Pa.far (b := q) (j := 5) (by omega) (.int .i64 (x5 : Int)))
  have R6 : Hid (RdIs _ b s k6) := BlockIs.far hr (b := q) (j := 5) (by omega) (.int .i64 (x5 : Int))
  have G6 := hid (grown_put Ga (show w.heap.size ≤ q by omega) (j := 5) (.int .i64 (x5 : Int)))
  clear h5 hr hg Xa Pa Ga P5 R5 G5 X5
  have y0 := X6.out.cell (j := 0) rfl
  have y1 := X6.out.cell (j := 1) rfl
  have y2 := X6.out.cell (j := 2) rfl
  have y3 := X6.out.cell (j := 3) rfl
  have y4 := X6.out.cell (j := 4) rfl
  have y5 := X6.out.cell (j := 5) rfl
  go_wp2_with fail
  refine (implCommandOk_any ⟨(x0 : Int), (x1 : Int), (x2 : Int), x3, x4, (x5 : Int)⟩ _).mono ?_
  rintro e u6 ⟨rfl, b6⟩
  have X7 := hid (X6.out.on b6 X6.out.lt)
  have P7 := hid (P6.out.on b6 P6.out.lt)
  have R7 : Hid (RdIs u6 b s k6) := BlockIs.on R6.out b6 (BlockIs.lt R6.out)
  have G7 := hid (G6.out.trans (grown_of_below b6 (some b)))
  clear b6 X6 P6 R6 G6 y0 y1 y2 y3 y4 y5 c f
  cases hok : commandOk ⟨(x0 : Int), (x1 : Int), (x2 : Int), x3, x4, (x5 : Int)⟩ with
  | false =>
    have HR : Hid (cmdAt s = none) := (show _ = _ by simp [cmdAt, H0.out, H1.out, H2.out, H3.out, H4.out, H5.out, hok])
    clear hok
    go_wp2_with fail
    refine (need_no _ _).mono ?_
    rintro e w3 ⟨rfl, hw⟩
    rw [hw]
    clear hw w3
    go_wp2
    rw [HR.out]
    exact And.intro rfl (And.intro rfl G7.out)
  | true =>
    have HR : Hid (cmdAt s = some (⟨(x0 : Int), (x1 : Int), (x2 : Int), x3, x4, (x5 : Int)⟩, k6)) := (show _ = _ by simp [cmdAt, H0.out, H1.out, H2.out, H3.out, H4.out, H5.out, hok])
    clear hok
    go_wp2_with fail
    refine (need_yes _ _).mono ?_
    rintro e w3 ⟨rfl, hw⟩
    rw [hw]
    clear hw w3
    have y0 := X7.out.cell (j := 0) rfl
    have c0 := P7.out.cell (j := 0) rfl
    have f0 := P7.out.thaw 0
    have y1 := X7.out.cell (j := 1) rfl
    have c1 := P7.out.cell (j := 1) rfl
    have f1 := P7.out.thaw 1
    have y2 := X7.out.cell (j := 2) rfl
    have c2 := P7.out.cell (j := 2) rfl
    have f2 := P7.out.thaw 2
    have y3 := X7.out.cell (j := 3) rfl
    have c3 := P7.out.cell (j := 3) rfl
    have f3 := P7.out.thaw 3
    have y4 := X7.out.cell (j := 4) rfl
    have c4 := P7.out.cell (j := 4) rfl
    have f4 := P7.out.thaw 4
    have y5 := X7.out.cell (j := 5) rfl
    have c5 := P7.out.cell (j := 5) rfl
    have f5 := P7.out.thaw 5
    go_wp2
    have PZ := ((((((P7.out.set 0 (.int .i64 (x0 : Int))).set 1 (.int .i64 (x1 : Int))).set 2 (.int .i64 (x2 : Int))).set 3 (.string x3)).set 4 (.string x4)).set 5 (.int .i64 (x5 : Int)))
    have d0 := PZ.cell (j := 0) rfl
    have d1 := PZ.cell (j := 1) rfl
    have d2 := PZ.cell (j := 2) rfl
    have d3 := PZ.cell (j := 3) rfl
    have d4 := PZ.cell (j := 4) rfl
    have d5 := PZ.cell (j := 5) rfl
    refine bodyPost_ret (v := .agg #[.int .i64 (x0 : Int), .int .i64 (x1 : Int), .int .i64 (x2 : Int), .string x3, .string x4, .int .i64 (x5 : Int)]) (by simp [results, Tryd.results41, go_sem, d0, d1, d2, d3, d4, d5]) rfl ?_
    rw [HR.out]
    exact And.intro rfl (And.intro ((BlockIs.far (BlockIs.far (BlockIs.far (BlockIs.far (BlockIs.far (BlockIs.far R7.out (b := w.heap.size) (j := 0) (by omega) (.int .i64 (x0 : Int))) (b := w.heap.size) (j := 1) (by omega) (.int .i64 (x1 : Int))) (b := w.heap.size) (j := 2) (by omega) (.int .i64 (x2 : Int))) (b := w.heap.size) (j := 3) (by omega) (.string x3)) (b := w.heap.size) (j := 4) (by omega) (.string x4)) (b := w.heap.size) (j := 5) (by omega) (.int .i64 (x5 : Int)))) ((grown_put (grown_put (grown_put (grown_put (grown_put (grown_put G7.out (Nat.le_refl w.heap.size) (j := 0) (.int .i64 (x0 : Int))) (Nat.le_refl w.heap.size) (j := 1) (.int .i64 (x1 : Int))) (Nat.le_refl w.heap.size) (j := 2) (.int .i64 (x2 : Int))) (Nat.le_refl w.heap.size) (j := 3) (.string x3)) (Nat.le_refl w.heap.size) (j := 4) (.string x4)) (Nat.le_refl w.heap.size) (j := 5) (.int .i64 (x5 : Int)))))
end Go.Proofs.YtihgkocfgjihhaaDoor
