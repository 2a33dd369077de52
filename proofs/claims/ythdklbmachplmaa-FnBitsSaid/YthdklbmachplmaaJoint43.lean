/-
  The walk of (*impl.pile).take: a part comes to bits.
-/
import Derived.Test.YthdklbmachplmaaJoint37
import Derived.Test.YthdklbmachplmaaJoint40
import Derived.Deep.DeepCutAuto
namespace Go.Proofs.Ythdklbmachplmaa
open Go.RowKit Go.Maps

set_option maxRecDepth 1000000 in
set_option maxHeartbeats 8000000 in
theorem pileTake_any (pb : Nat) (l1 : List BitD) (e : BitD) (l2 : List BitD) (im : Nat → Option Nat) (lo hi N : Nat) (va : Option Addr) (vc mb g : Nat) (rs : List BitsD) (d : DgramD) (hN : N ≤ 4194305) (hk : im l1.length = some g) (hs : SmallB e) (hl : (l1 ++ e :: l2).length ≤ 1048577)
    (hd0 : 0 ≤ d.place) (hd1 : d.place ≤ 160) (hdb : d.body.size ≤ 160) (w : World) (hp : PileAt w pb (l1 ++ e :: l2) im lo hi N va vc mb rs) :
    Calls Try.prog 29 #[.pointer (some ⟨pb, 0, none⟩), .int .i64 (l1.length : Int), .agg #[.int .i64 d.src, .int .i64 d.dst, .int .i64 d.ident, .int .i64 d.place, .bool d.more, .string d.body]] w fun e' w' => e' = .returned (.tuple #[]) ∧ ∃ rs', PileRead w' pb (l1 ++ takeD e d :: l2) im (N + 1) va vc mb rs' l1.length g (takeD e d) ∧ Below lo w w' := by
  have hlo : lo ≤ w.heap.size := Nat.le_trans hp.nest.le hp.top
  have hkl : l1.length ≤ 1048576 := by simp at hl; omega
  have bx := below_more (Below.refl w.heap.size w) (.cells #[.int .i64 d.src, .int .i64 d.dst, .int .i64 d.ident, .int .i64 d.place, .bool d.more, .string d.body] 26)
  have hx : BlockIs (w.alloc (.cells #[.int .i64 d.src, .int .i64 d.dst, .int .i64 d.ident, .int .i64 d.place, .bool d.more, .string d.body] 26)) w.heap.size 26 [.int .i64 d.src, .int .i64 d.dst, .int .i64 d.ident, .int .i64 d.place, .bool d.more, .string d.body] := heap_alloc_new w _
  have hp0 := hp.on bx
  obtain ⟨W0, hW0⟩ : ∃ W, w.alloc (.cells #[.int .i64 d.src, .int .i64 d.dst, .int .i64 d.ident, .int .i64 d.place, .bool d.more, .string d.body] 26) = W := ⟨_, rfl⟩
  rw [hW0] at bx hx hp0
  have bd : Below W0.heap.size W0 W0.drew := below_drewN (Below.refl W0.heap.size W0) 1
  have hel : (l1 ++ e :: l2)[l1.length]? = some e := by simp
  have rd := (hp0.on bd).read hk hel
  have hwf : (Lit.int .i64 d.place).wf = true := by
    have h1 : IntKind.i64.min = -9223372036854775808 := rfl
    have h2 : IntKind.i64.max = 9223372036854775807 := rfl
    simp [Lit.wf]
    omega
  have hlk1 := rd.outer.get Try.underlying60 (zeroM _) coded_nil (outerM_wf l1.length (by omega))
  have hlk2 := rd.inner.look Try.underlying81 (zero3 _) (coded_int 0) hwf
  have hom : outerM im (l1.length : Int) = some (.map (some g)) := by simp [outerM, hk]
  rw [hom] at hlk1
  simp only [Option.getD_some] at hlk1
  have p1 := hp0.blk.cell (j := 1) rfl
  have x3 := hx.cell (j := 3) rfl
  have P0 := hid hp0
  have X0 := hid hx
  have B0 := hid bx
  have HWF := hid hwf
  have HK := hid hk
  clear hp hp0 hx bx hom hk hel bd rd hwf
  go_enter Try.func29, Try.ntmps29
  cases hfa : firstAt e.ats d.place with
  | some i =>
    rw [show firstMap e.ats d.place = some (.int .i64 (i : Int)) by rw [firstMap, hfa]; rfl] at hlk2
    simp only [Option.getD_some, Option.isSome_some] at hlk2
    have HTD : Hid (takeD e d = e) := (show _ = _ by rw [takeD, hfa]; rfl)
    clear hfa
    have rd := P0.out.read HK.out (show (l1 ++ e :: l2)[l1.length]? = some e by simp)
    have RD := hid (rd.on (show Below W0.heap.size W0 W0.drew from below_drewN (Below.refl _ _) 1))
    have B1 := hid (below_via B0.out (show Below W0.heap.size W0 W0.drew from below_drewN (Below.refl _ _) 1))
    clear rd
    go_wp2
    go_region
    all_goals
      go_wp2
      refine bodyPost_ret (v := .tuple #[]) (by simp [results, Try.results29, go_sem]) rfl ?_
      refine ⟨rfl, rs, ?_, B1.out.mono hlo⟩
      rw [HTD.out]
      exact ⟨RD.out.blk, RD.out.at_, RD.out.two, RD.out.outer.up (by omega), RD.out.ink, RD.out.elem, RD.out.inner.up (by omega), RD.out.gm, RD.out.far⟩
  | none =>
    rw [show firstMap e.ats d.place = none by rw [firstMap, hfa]; rfl] at hlk2
    simp only [Option.getD_none, Option.isSome_none] at hlk2
    have HTD : Hid (takeD e d = addPart e d) := (show _ = _ by rw [takeD, hfa]; rfl)
    obtain ⟨hs1, hs2, _⟩ := hs
    have hlen := P0.out.nest.length
    obtain ⟨rs1, R, rs2, a, b, hrs, n1, ob, n2⟩ := P0.out.nest.split
    subst hrs
    obtain ⟨ta, tc, aa, ac, m, hRe, rt, ra, hm1, hm2⟩ := ob
    subst hRe
    have hk1 : rs1.length = l1.length := n1.length.symm
    obtain ⟨hg1, hg2, e', he', hin⟩ := P0.out.inner _ _ HK.out
    have hee : e' = e := by simpa using he'.symm
    subst hee
    have hrow := P0.out.row
    have hM0 : ∃ rb r0, va = some ⟨rb, 0, none⟩ ∧ lo ≤ rb ∧ (rs1 ++ rawB e' ta tc aa ac :: rs2).length ≤ vc ∧ BlockIs W0 rb 35 (bitsCells (rs1 ++ rawB e' ta tc aa ac :: rs2) ++ r0) := by
      rcases own_of_row hrow with h0 | ⟨rb, r0, h1, h2, _, h4⟩
      · simp at h0
      · exact ⟨rb, r0, h1, h2, (row_cap hrow).1, h4⟩
    obtain ⟨rb, r0, rfl, hrb, hcap, hrbk⟩ := hM0
    rw [midCs_raw] at hrbk
    have mid0 : Mid W0 pb w.heap.size rb g mb N (midCs rs1 rs2 r0 e' (.slice ta e'.texts.length tc) (.slice aa e'.ats.length ac) e'.total) l1 l2 rs1 rs2 lo a m b hi (.slice ta e'.texts.length tc) e'.texts (.slice aa e'.ats.length ac) e'.ats (some ⟨rb, 0, none⟩) vc (rs1 ++ rawB e' ta tc aa ac :: rs2).length im (firstMap e'.ats) d :=
      ⟨P0.out.blk, hrbk, n1, n2, rt.1, ra.1, P0.out.outer, hin, X0.out⟩
    have hin3 : ∀ q, (Value.slice aa e'.ats.length ac).ownBlock = some q → m ≤ q ∧ q < b := fun q hq => ⟨(ra.1.lt q hq).1, ra.2 q hq⟩
    have hin9 : ∀ q, (Value.slice ta e'.texts.length tc).ownBlock = some q → a ≤ q ∧ q < m := fun q hq => ⟨(rt.1.lt q hq).1, rt.2 q hq⟩
    have hbW : b ≤ W0.heap.size := Nat.le_trans n2.le P0.out.top
    have hla := n1.le
    have hnn : (rs1 ++ rawB e' ta tc aa ac :: rs2).length = rs1.length + 1 + rs2.length := by rw [List.length_append, List.length_cons]; omega
    obtain ⟨n, hn⟩ : ∃ n, (rs1 ++ rawB e' ta tc aa ac :: rs2).length = n := ⟨_, rfl⟩
    rw [hn] at mid0 hnn hcap hlen
    have hnl : l1.length < n := by rw [← hlen]; simp
    have hnlI : (l1.length : Int) < (n : Int) := by omega
    have hnI : (n : Int) ≤ 1048577 := by rw [← hlen]; omega
    have bd2 : Below W0.heap.size W0 W0.drew.drew := below_drewN (Below.refl W0.heap.size W0) 2
    have mid1 := mid0.on bd2
    have hom : outerM im (l1.length : Int) = some (.map (some g)) := by simp [outerM, HK.out]
    have hlk3 := mid1.outer.get Try.underlying60 (zeroM _) coded_nil (outerM_wf l1.length (by omega))
    rw [hom] at hlk3
    simp only [Option.getD_some] at hlk3
    obtain ⟨w4, hup, hm4, ht4⟩ := mid1.inner.put (by unfold maxLen; omega) Try.underlying81 HWF.out (coded_int (e'.ats.length : Int))
    have mid4 := mid1.turn hg2 (hm4.ext fun x _ => (firstMap_new hfa).symm) ht4
    have bl4 : Below lo w w4 := ((B0.out.mono hlo).trans (bd2.mono (by have := B0.out.size; omega))).grown ht4.grown (by have := B0.out.size; have := bd2.size; omega) (fun j e9 => by simp at e9; omega)
    have hw4 : W0.heap.size ≤ w4.heap.size := Nat.le_trans bd2.size ht4.grown.size
    have c0 := mid0.blk.cell (j := 0) rfl
    have hat := midCs_at rs1 rs2 r0 e' (.slice ta e'.texts.length tc) (.slice aa e'.ats.length ac) e'.total hk1
    have c3 := mid0.row.cell hat.2.1
    have M4 := hid mid4
    have BL4 := hid bl4
    have HIN3 := hid hin3
    have HIN9 := hid hin9
    have HNN := hid hnn
    have HK1 := hid hk1
    have HG := hid (And.intro hg1 hg2)
    have HRBL := hid hrb
    clear hfa hlen n1 n2 rt ra hin hin3 hin9 hrow hrbk mid0 mid1 hm4 ht4 mid4 bl4 bd2 hom hnn hk1 hg1 hg2 he' hat P0 hn hrb
    go_wp2
    go_region
    go_wp2
    go_region
    clear hlk1 hlk2 hlk3 hup p1 x3 c0 c3
    have hk1 := HK1.out
    have hat := midCs_at rs1 rs2 r0 e' (.slice ta e'.texts.length tc) (.slice aa e'.ats.length ac) e'.total hk1
    have ba := below_more (Below.refl w4.heap.size w4) (.cells #[.int .i64 d.place] 3)
    have hnw : BlockIs (w4.alloc (.cells #[.int .i64 d.place] 3)) w4.heap.size 3 (intCells [d.place] ++ []) := heap_alloc_new w4 _
    have c3 := M4.out.row.cell hat.2.1
    have x3 := M4.out.box.cell (j := 3) rfl
    have md5 := M4.out.on ba
    have c3a := md5.row.cell hat.2.1
    have x3a := md5.box.cell (j := 3) rfl
    obtain ⟨W5, hW5⟩ : ∃ W, w4.alloc (.cells #[.int .i64 d.place] 3) = W := ⟨_, rfl⟩
    rw [hW5] at ba hnw md5 c3a x3a
    have bd5 : Below W5.heap.size W5 W5.drew := below_drewN (Below.refl _ _) 1
    have md5d := md5.on bd5
    have hv5 := valsAt_of (hnw.on bd5 hnw.lt)
    have hax5 := md5d.ax
    have hb5 : m ≤ W5.drew.heap.size := by have := ba.size; have := bd5.size; omega
    have M5 := hid md5d
    have BL5 := hid (BL4.out.trans (((Below.refl lo w4).trans (ba.mono (by have := BL4.out.size; omega))).trans (bd5.mono (by have := BL4.out.size; have := ba.size; omega))))
    have HAT := hid hat
    have hsz5 : w4.heap.size ≤ W5.drew.heap.size := Nat.le_trans ba.size bd5.size
    clear ba hnw md5 bd5 md5d M4 BL4 hat
    go_upto_region 5 with fail
    go_cut [8] (fun s8 wx => s8 = .pointer (some ⟨rb, l1.length * 6, none⟩) ∧ ∃ va5 vc5, Hid (Mid wx pb w.heap.size rb g mb (N + 1) (midCs rs1 rs2 r0 e' (.slice ta e'.texts.length tc) (.slice va5 (e'.ats ++ [d.place]).length vc5) e'.total) l1 l2 rs1 rs2 lo a m b hi (.slice ta e'.texts.length tc) e'.texts (.slice va5 (e'.ats ++ [d.place]).length vc5) (e'.ats ++ [d.place]) (some ⟨rb, 0, none⟩) vc n im (firstMap (e'.ats ++ [d.place])) d ∧ Below lo w wx ∧ b ≤ wx.heap.size))
    case first =>
     go_region_law (refine step_append_vals Try.underlying33 vals_info3 rfl (by decide) rfl (.tmp 45) (.tmp 48) rfl rfl (base := m) (xs := intCells e'.ats) (ys := intCells [d.place]) (n := e'.ats.length) (N := e'.ats.length + 1) rfl rfl rfl (intCells_length _) rfl (int_one _) (by omega) hb5 hax5 hv5 ?_; intro va5 vc5 w5 hrow5 hgr5; have hgr6 : W5.drew.grownBy w5 (Value.slice aa e'.ats.length ac).ownBlock := hgr5; have hrw5 := block_row M5.out.row M5.out.ax hgr6 (by decide); have c5 := hrw5.cell HAT.out.2.1; have cf5 := hrw5.thaw (l1.length * 6 + 3))
     all_goals
      have hrow6 : w5.ownsRow m 3 1 (.slice va5 (e'.ats ++ [d.place]).length vc5) (e'.ats ++ [d.place]).length (intCells (e'.ats ++ [d.place])) := by
        rw [intCells_append, List.length_append]
        exact hrow5
      have md6 := M5.out.ats HIN3.out hm1 hrow6 hgr6
      have bl6 := row_grow BL5.out M5.out.ax hgr6 (by omega) (by have := BL5.out.size; omega)
      have hlz : (e'.ats ++ [d.place]).length = e'.ats.length + 1 := by simp
      have md7 := md6.set (l1.length * 6 + 3) (.slice va5 (e'.ats.length + 1) vc5)
      rw [(midCs_set rs1 rs2 r0 e' (.slice ta e'.texts.length tc) (.slice aa e'.ats.length ac) e'.total HK1.out (.slice va5 (e'.ats.length + 1) vc5) 0).2.1, ← hlz] at md7
      have bl7 := bl6.setCell (p := ⟨rb, l1.length * 6 + 3, none⟩) (show lo ≤ rb from HRBL.out) (.slice va5 (e'.ats.length + 1) vc5)
      have hsz7 : W5.drew.heap.size ≤ (w5.setCell ⟨rb, l1.length * 6 + 3, none⟩ (.slice va5 (e'.ats.length + 1) vc5)).heap.size := by rw [World.size_setCell]; exact hgr6.size
      rw [← hlz] at bl7 hsz7 ⊢
      obtain ⟨V7, hV7⟩ : ∃ W, w5.setCell ⟨rb, l1.length * 6 + 3, none⟩ (.slice va5 (e'.ats ++ [d.place]).length vc5) = W := ⟨_, rfl⟩
      rw [hV7] at md7 bl7 hsz7 ⊢
      go_wp2_with fail
      go_meet
      exact ⟨rfl, va5, vc5, md7, bl7, by omega⟩
    case rest =>
      obtain ⟨rfl, va5, vc5, H7⟩ := hcut
      obtain ⟨md7, bl7, hb7⟩ := H7.out
      obtain ⟨ZS, hZS⟩ : ∃ z, e'.ats ++ [d.place] = z := ⟨_, rfl⟩
      rw [hZS] at md7
      have HZS := hid hZS
      have hat := midCs_at rs1 rs2 r0 e' (.slice ta e'.texts.length tc) (.slice va5 ZS.length vc5) e'.total HK1.out
      have HAT7 := hid hat
      have c2 := md7.row.cell hat.1
      have x5 := md7.box.cell (j := 5) rfl
      have bd7 : Below wc.heap.size wc wc.drew := below_drewN (Below.refl _ _) 1
      have M7 := hid (md7.on bd7)
      have hlo7 : lo ≤ wc.heap.size := by have := bl7.size; omega
      have BL7 := hid (bl7.trans ((Below.refl lo wc).trans (bd7.mono hlo7)))
      have hmV : b ≤ wc.drew.heap.size := by have := bd7.size; omega
      have CC : Hid (Calls Try.prog 27 #[.string d.body] wc.drew fun e9 w6 => e9 = .returned (.string d.body) ∧ w6.cell? ⟨rb, l1.length * 6 + 2, none⟩ = some (.slice ta e'.texts.length tc) ∧ (w6.alloc (.cells #[.string d.body] 9)).cell? ⟨rb, l1.length * 6 + 2, none⟩ = some (.slice ta e'.texts.length tc) ∧ Hid (Mid (w6.alloc (.cells #[.string d.body] 9)) pb w.heap.size rb g mb (N + 1) (midCs rs1 rs2 r0 e' (.slice ta e'.texts.length tc) (.slice va5 ZS.length vc5) e'.total) l1 l2 rs1 rs2 lo a m b hi (.slice ta e'.texts.length tc) e'.texts (.slice va5 ZS.length vc5) ZS (some ⟨rb, 0, none⟩) vc n im (firstMap ZS) d ∧ ValsAt (w6.alloc (.cells #[.string d.body] 9)) (some ⟨w6.heap.size, 0, none⟩) (st [d.body]) ∧ Below lo w (w6.alloc (.cells #[.string d.body] 9)) ∧ b ≤ (w6.alloc (.cells #[.string d.body] 9)).heap.size)) := by
        refine Calls.mono (clone_any d.body (by omega) wc.drew) ?_
        rintro e9 w6 ⟨rfl, b6⟩
        have ba := below_more (Below.refl w6.heap.size w6) (.cells #[.string d.body] 9)
        have m6 := M7.out.on b6
        have m6a := m6.on ba
        have hnw : BlockIs (w6.alloc (.cells #[.string d.body] 9)) w6.heap.size 9 (st [d.body] ++ []) := heap_alloc_new w6 _
        have hl6 : lo ≤ wc.drew.heap.size := Nat.le_trans hlo7 bd7.size
        exact ⟨rfl, m6.row.cell HAT7.out.1, m6a.row.cell HAT7.out.1, m6a, valsAt_of hnw, (BL7.out.trans ((Below.refl lo wc.drew).trans (b6.mono hl6))).trans ((Below.refl lo w6).trans (ba.mono (Nat.le_trans hl6 b6.size))), Nat.le_trans hmV (Nat.le_trans b6.size ba.size)⟩
      clear c3 x3 c3a x3a md7 bl7 bd7 hat hax5 hv5 hb5 M5 BL5 hsz5 hW5 M7 BL7 hZS H7 hb7
      go_upto_region 6 with fail
      go_cut [8] (fun s8 wx => s8 = .pointer (some ⟨rb, l1.length * 6, none⟩) ∧ ∃ va9 vc9, Hid (Mid wx pb w.heap.size rb g mb (N + 1) (midCs rs1 rs2 r0 e' (.slice va9 (e'.texts ++ [d.body]).length vc9) (.slice va5 ZS.length vc5) e'.total) l1 l2 rs1 rs2 lo a m b hi (.slice va9 (e'.texts ++ [d.body]).length vc9) (e'.texts ++ [d.body]) (.slice va5 ZS.length vc5) ZS (some ⟨rb, 0, none⟩) vc n im (firstMap ZS) d ∧ Below lo w wx))
      case first =>
       go_region_law (first | (refine step_append_vals Try.underlying32 vals_info9 rfl (by decide) rfl (.tmp 56) (.tmp 60) rfl rfl (base := a) (xs := st e'.texts) (ys := st [d.body]) (n := e'.texts.length) (N := e'.texts.length + 1) rfl rfl rfl (st_length _) rfl (st_one _) (by omega) (by have := H6.out.2.2.2; omega) H6.out.1.tx H6.out.2.1 ?_; intro va9 vc9 w9 hrow9 hgr9; have hgr10 : (w6.alloc (.cells #[.string d.body] 9)).grownBy w9 (Value.slice ta e'.texts.length tc).ownBlock := hgr9; have hrw9 := block_row H6.out.1.row H6.out.1.tx hgr10 (by decide); have c9 := hrw9.cell HAT7.out.1; have cf9 := hrw9.thaw (l1.length * 6 + 2)) | (go_simp; go_wp2_with (go_at_call 27; refine Calls.mono CC.out ?_; rintro e9 w6 ⟨rfl, d6, d6a, H6⟩)))
       all_goals
        have hrow10 : w9.ownsRow a 9 1 (.slice va9 (e'.texts ++ [d.body]).length vc9) (e'.texts ++ [d.body]).length (st (e'.texts ++ [d.body])) := by
          rw [st_append, List.length_append]
          exact hrow9
        have md10 := H6.out.1.texts HIN9.out hm2 hrow10 hgr10
        have bl10 := row_grow H6.out.2.2.1 H6.out.1.tx hgr10 (by omega) (by have := H6.out.2.2.1.size; omega)
        have hlt : (e'.texts ++ [d.body]).length = e'.texts.length + 1 := by simp
        have md11 := md10.set (l1.length * 6 + 2) (.slice va9 (e'.texts.length + 1) vc9)
        rw [(midCs_set rs1 rs2 r0 e' (.slice ta e'.texts.length tc) (.slice va5 ZS.length vc5) e'.total HK1.out (.slice va9 (e'.texts.length + 1) vc9) 0).1, ← hlt] at md11
        have bl11 := bl10.setCell (p := ⟨rb, l1.length * 6 + 2, none⟩) (show lo ≤ rb from HRBL.out) (.slice va9 (e'.texts.length + 1) vc9)
        rw [← hlt] at bl11 ⊢
        go_wp2_with fail
        go_meet
        exact ⟨rfl, va9, vc9, md11, bl11⟩
      case rest =>
        obtain ⟨rfl, va9, vc9, H9⟩ := hcut
        rename_i wc9
        obtain ⟨md9, bl9⟩ := H9.out
        obtain ⟨TS, hTS⟩ : ∃ z, e'.texts ++ [d.body] = z := ⟨_, rfl⟩
        rw [hTS] at md9
        have HTS := hid hTS
        have hat := midCs_at rs1 rs2 r0 e' (.slice va9 TS.length vc9) (.slice va5 ZS.length vc5) e'.total HK1.out
        have c4 := md9.row.cell hat.2.2
        have cf4 := md9.row.thaw (l1.length * 6 + 4)
        have x3 := md9.box.cell (j := 3) rfl
        have x4 := md9.box.cell (j := 4) rfl
        have x5 := md9.box.cell (j := 5) rfl
        have HADD : Hid (∀ tot, (if d.more = false ∧ e'.total = 0 then d.place + (d.body.size : Int) else e'.total) = tot → addPart e' d = ⟨e'.src, e'.ident, TS, ZS, tot, e'.lim⟩) := fun tot ht => by rw [addPart, ht, HTS.out, HZS.out]
        have M9 := hid md9
        have BL9 := hid bl9
        clear md9 bl9 H9 hTS hat CC c2 HAT7
        by_cases hmo : d.more = false
        · by_cases hto : e'.total = 0
          · have md10 := M9.out.set (l1.length * 6 + 4) (.int .i64 (d.place + (d.body.size : Int)))
            rw [(midCs_set rs1 rs2 r0 e' (.slice va9 TS.length vc9) (.slice va5 ZS.length vc5) e'.total HK1.out (.slice none 0 0) (d.place + (d.body.size : Int))).2.2] at md10
            have R10 := hid (md10.read HNN.out HK.out HG.out.2)
            have BL10 := hid (BL9.out.setCell (p := ⟨rb, l1.length * 6 + 4, none⟩) (show lo ≤ rb from HRBL.out) (.int .i64 (d.place + (d.body.size : Int))))
            have HA := hid (HADD.out _ (if_pos ⟨hmo, hto⟩))
            clear md10 HADD M9 BL9
            go_wp2
            go_end0
            refine ⟨rfl, ?_⟩
            rw [HTD.out, HA.out]
            exact ⟨_, R10.out, BL10.out⟩
          · have hto' : (e'.total == 0) = false := by simpa using hto
            have R10 := hid (M9.out.read HNN.out HK.out HG.out.2)
            have HA := hid (HADD.out _ (if_neg (fun q => hto q.2)))
            clear HADD M9
            go_wp2
            go_end0
            refine ⟨rfl, ?_⟩
            rw [HTD.out, HA.out]
            exact ⟨_, R10.out, BL9.out⟩
        · have hmo' : d.more = true := by simpa using hmo
          have R10 := hid (M9.out.read HNN.out HK.out HG.out.2)
          have HA := hid (HADD.out _ (if_neg (fun q => hmo q.1)))
          clear HADD M9 hmo
          go_wp2
          go_end0
          refine ⟨rfl, ?_⟩
          rw [HTD.out, HA.out]
          exact ⟨_, R10.out, BL9.out⟩
end Go.Proofs.Ythdklbmachplmaa
