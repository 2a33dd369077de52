/-
  The walk of spec.JoinBits, for lists of at most three bits that are good: the same answer as impl's.
-/
import Derived.Test.YthdklbmachplmaaJoint4
import Derived.Test.YthdklbmachplmaaJoint5
import Derived.Test.YthdklbmachplmaaJoint7
import Derived.Test.YthdklbmachplmaaJoint8
import Derived.Test.YthdklbmachplmaaJoint6
import Derived.BigRegion
import Derived.BigQuiet
import Derived.Lib.QuietBelow
import Derived.Deep.QuietTactic
import Derived.Deep.DeepCutAuto
import Derived.Deep.CutBlock
import Derived.Deep.LoopGhost
import Derived.WalkSmall
import Derived.WalkKit
namespace Go.Proofs.Ythdklbmachplmaa
open Go.RowKit

set_option maxRecDepth 1000000 in
set_option maxHeartbeats 8000000 in
theorem specJoin_Y (ao : Option Addr) (l : List BitD) (cap : Nat) (d : DgramD) (now : Int) (hl : l.length ≤ 3) (hg : ∀ e ∈ l, GoodB e ∧ e.ats.length ≤ 900) (hds : d.body.size ≤ 1048576) (w : World) (ha : BitsHold w ao l) (hj0 : joinOk d now = true) (hn0 : ¬ (d.place = 0 ∧ d.more = false)) (hhas : (firstAt (joinAt l d now).2.1.ats d.place).isSome = true) :
    Calls Try.prog 8 #[.slice ao l.length cap, .agg #[.int .i64 d.src, .int .i64 d.dst, .int .i64 d.ident, .int .i64 d.place, .bool d.more, .string d.body], .int .i64 now] w fun e w' => JoinDidT (joinB l d now) w e w' := by
  have HJ0 := hid hj0
  have HN0 := hid hn0
  have HHAS := hid hhas
  clear hj0 hn0 hhas
  have hx : BlockIs (w.alloc (.cells #[.int .i64 d.src, .int .i64 d.dst, .int .i64 d.ident, .int .i64 d.place, .bool d.more, .string d.body] 26)) w.heap.size 26 [.int .i64 d.src, .int .i64 d.dst, .int .i64 d.ident, .int .i64 d.place, .bool d.more, .string d.body] := heap_alloc_new w _
  have hb1 := below_more (Below.refl w.heap.size w) (.cells #[.int .i64 d.src, .int .i64 d.dst, .int .i64 d.ident, .int .i64 d.place, .bool d.more, .string d.body] 26)
  have hz1 : (w.alloc (.cells #[.int .i64 d.src, .int .i64 d.dst, .int .i64 d.ident, .int .i64 d.place, .bool d.more, .string d.body] 26)).heap.size = w.heap.size + 1 := by simp [World.alloc, -World.alloc_eq]
  obtain ⟨Wa, hWa⟩ : ∃ W, w.alloc (.cells #[.int .i64 d.src, .int .i64 d.dst, .int .i64 d.ident, .int .i64 d.place, .bool d.more, .string d.body] 26) = W := ⟨_, rfl⟩
  rw [hWa] at hx hb1 hz1
  have hb2 := below_more (Below.refl Wa.heap.size Wa) (.cells #[.int .i64 0, .int .i64 0, .int .i64 0, .int .i64 0, .bool false, .string ⟨#[]⟩] 26)
  have hz : BlockIs (Wa.alloc (.cells #[.int .i64 0, .int .i64 0, .int .i64 0, .int .i64 0, .bool false, .string ⟨#[]⟩] 26)) Wa.heap.size 26 [.int .i64 0, .int .i64 0, .int .i64 0, .int .i64 0, .bool false, .string ⟨#[]⟩] := heap_alloc_new Wa _
  have hz2 : (Wa.alloc (.cells #[.int .i64 0, .int .i64 0, .int .i64 0, .int .i64 0, .bool false, .string ⟨#[]⟩] 26)).heap.size = w.heap.size + 2 := (show (Wa.alloc (.cells #[.int .i64 0, .int .i64 0, .int .i64 0, .int .i64 0, .bool false, .string ⟨#[]⟩] 26)).heap.size = Wa.heap.size + 1 by simp [World.alloc, -World.alloc_eq]).trans (by omega)
  obtain ⟨W0, hW0⟩ : ∃ W, Wa.alloc (.cells #[.int .i64 0, .int .i64 0, .int .i64 0, .int .i64 0, .bool false, .string ⟨#[]⟩] 26) = W := ⟨_, rfl⟩
  rw [hW0] at hb2 hz hz2
  rw [hz1] at hz
  have J0 : Hid (JoinW w d W0) := ⟨hx.on hb2 hx.lt, hz, below_via hb1 hb2⟩
  have HA := hid (ha.on (below_via hb1 hb2))
  have HG := hid hg
  have HZ2 := hid hz2
  have HWA := hid hz1
  clear hx hb1 hb2 hz hz2 ha hg
  go_enter Try.func8, Try.ntmps8
  go_wp2_with fail
  refine (l11CopyRow_any ao l cap (by omega) (fun e he => (HG.out e he).1.small) W0 HA.out).mono ?_
  rintro e w1 ⟨va, vc, rs, rfl, hrow, hnest, b1⟩
  rw [HZ2.out] at hrow hnest
  have O1 : Hid (OutS w d w1 va vc l rs) := ⟨hrow, hnest, J0.out.on b1 (by rw [HZ2.out]; exact Nat.le_refl _)⟩
  clear hrow hnest b1 J0 HA hW0 hWa hz1 HZ2 HWA
  have x0 := O1.out.j.x.cell (j := 0) rfl
  have x1 := O1.out.j.x.cell (j := 1) rfl
  have x2 := O1.out.j.x.cell (j := 2) rfl
  have x3 := O1.out.j.x.cell (j := 3) rfl
  have x4 := O1.out.j.x.cell (j := 4) rfl
  have x5 := O1.out.j.x.cell (j := 5) rfl
  have CD := hid (fun W => specDgramOk_any d (by omega) W)
  have CI := fun W => l01In_any now 0 999999990 W
  cases hE : dgramOk d with
  | false =>
    exact absurd HJ0.out (by simp [joinOk, hE])
  | true =>
    rw [hE] at CD
    have HD := hid hE
    clear hE
    go_wp2_with fail
    refine Calls.mono (CD.out _) ?_
    rintro e w2 ⟨rfl, b2⟩
    have O2 := hid (O1.out.on b2)
    clear b2 O1 CD x0 x1 x2 x3 x4 x5
    cases hN : within now 0 999999990 with
    | false =>
      exact absurd HJ0.out (by rw [joinOk_late hN]; decide)
    | true =>
      rw [hN] at CI
      obtain ⟨hn0, hn1⟩ := within_iff.1 hN
      have HJ : Hid (joinOk d now = true) := (show _ = _ by simp [joinOk, HD.out, hn0, hn1])
      have CI2 := hid CI
      clear hN CI
      go_wp2_with fail
      refine Calls.mono (CI2.out _) ?_
      rintro e w9 ⟨rfl, hw9⟩
      rw [hw9]
      clear hw9 w9 CI2
      have x0 := O2.out.j.x.cell (j := 0) rfl
      have x1 := O2.out.j.x.cell (j := 1) rfl
      have x2 := O2.out.j.x.cell (j := 2) rfl
      have x3 := O2.out.j.x.cell (j := 3) rfl
      have x4 := O2.out.j.x.cell (j := 4) rfl
      have x5 := O2.out.j.x.cell (j := 5) rfl
      obtain ⟨_, _, _, ⟨hp0, hp1⟩, _, ⟨_, hbz⟩, _⟩ := dgramOk_bd HD.out
      have hbz2 : (d.body.size : Int) ≤ 160 := by omega
      by_cases hone : d.place = 0 ∧ d.more = false
      · exact absurd hone HN0.out
      have hguard : d.place = 0 → d.more = true := fun q => by
        cases hm : d.more with
        | true => rfl
        | false => exact absurd ⟨q, hm⟩ hone
      have HNO := hid hone
      clear hone
      go_upto_region 4 with fail
      go_cut [36] (fun s36 wx => s36 = .bool false ∧ wx = w2)
      case first =>
        by_cases hp : d.place = 0
        · have hm := hguard hp
          rw [hp] at x3
          rw [hm] at x4
          go_wp2_with fail
          go_meet
          exact ⟨rfl, rfl⟩
        · have hpb : (d.place == 0) = false := by simpa using hp
          go_wp2_with fail
          go_meet
          exact ⟨rfl, rfl⟩
      case rest =>
        obtain ⟨rfl, rfl⟩ := hcut
        clear hguard x0 x1 x2 x3 x4 x5
        go_wp2
        go_loopg [10, 11] l.length (fun q a b wr => ∃ ii : Int, a = .int .i64 (fkB l d q) ∧ b = .int .i64 ii ∧ ii = (q : Int) - 1 ∧ q ≤ l.length ∧ Hid (OutS w d wr va vc l rs))
        case atStart => exact ⟨_, by rw [fkB_end], rfl, by omega, Nat.le_refl _, O2⟩
        case round =>
          obtain ⟨ii, rfl, rfl, hii, hql, OR⟩ := hrel
          clear O2
          cases gk with
          | succ q =>
            obtain rfl : ii = (q : Int) := by omega
            clear hii
            have hq : q < l.length := by omega
            have hqi : (q : Int) < (l.length : Int) := by omega
            have hq0 : (0 : Int) ≤ (q : Int) := by omega
            have hlen := OR.out.nest.length
            have hqr : q < rs.length := by omega
            have hho := OR.out.nest.holds.get q hq hqr
            have hne : rs ≠ [] := by intro e; rw [e] at hqr; simp at hqr
            obtain ⟨b, off, rfl, hc⟩ := OR.out.at_ hne
            obtain ⟨y0, y1, y2, y3, y4, y5⟩ := hc q hqr
            clear y2 y3 y4 y5
            obtain ⟨R, hR⟩ : ∃ R, rs[q] = R := ⟨_, rfl⟩
            rw [hR] at y0 y1 hho
            obtain ⟨E, hE⟩ : ∃ E, l[q] = E := ⟨_, rfl⟩
            rw [hE] at hho
            obtain ⟨ta, tc, aa, ac, rfl, _, _⟩ := hho
            simp only [rawB] at y0 y1
            have x0 := OR.out.j.x.cell (j := 0) rfl
            have x2 := OR.out.j.x.cell (j := 2) rfl
            have Y0 := cell_regrown y0
            have Y1 := cell_regrown y1
            have X0 := cell_regrown x0
            have X2 := cell_regrown x2
            have HEQ := hid hE
            clear hc hR hE hlen hne hqr
            by_cases h1 : E.src = d.src
            · by_cases h2 : E.ident = d.ident
              · have HF : Hid (fkB l d q = (q : Int)) := fkB_hit hq (by rw [HEQ.out]; simp [isOf, h1, h2])
                rw [h1] at y0 Y0
                rw [h2] at y1 Y1
                clear h1 h2
                go_wp2
                refine wp_region_quiet_below (by kernel_rfl) (by kernel_rfl) ?_
                repeat (go_big_quiet_step (fail))
                refine wpQuiet_nil ?_
                intro _ hw'
                obtain ⟨⟨dq, osq⟩, hw''⟩ := hw'
                subst hw''
                have OQ := hid (OR.out.on (below_regrown wr dq osq))
                generalize Go.Sort.grow (redrawn wr dq) osq = wq at OQ ⊢
                go_wp2
                go_roundg q
                case measure => omega
                case rel => exact ⟨_, by rw [HF.out], rfl, by omega, by omega, OQ⟩
              · have HF : Hid (fkB l d q = fkB l d (q + 1)) := fkB_miss hq (by rw [HEQ.out]; simp [isOf, h2])
                have g2 : (E.ident == d.ident) = false := by simpa using h2
                rw [h1] at y0 Y0
                clear h1 h2
                go_wp2
                refine wp_region_quiet_below (by kernel_rfl) (by kernel_rfl) ?_
                repeat (go_big_quiet_step (fail))
                refine wpQuiet_nil ?_
                intro _ hw'
                obtain ⟨⟨dq, osq⟩, hw''⟩ := hw'
                subst hw''
                have OQ := hid (OR.out.on (below_regrown wr dq osq))
                generalize Go.Sort.grow (redrawn wr dq) osq = wq at OQ ⊢
                go_wp2
                go_roundg q
                case measure => omega
                case rel => exact ⟨_, by rw [HF.out], rfl, by omega, by omega, OQ⟩
            · have HF : Hid (fkB l d q = fkB l d (q + 1)) := fkB_miss hq (by rw [HEQ.out]; simp [isOf, h1])
              have g1 : (E.src == d.src) = false := by simpa using h1
              clear h1
              go_wp2
              refine wp_region_quiet_below (by kernel_rfl) (by kernel_rfl) ?_
              repeat (go_big_quiet_step (fail))
              refine wpQuiet_nil ?_
              intro _ hw'
              obtain ⟨⟨dq, osq⟩, hw''⟩ := hw'
              subst hw''
              have OQ := hid (OR.out.on (below_regrown wr dq osq))
              generalize Go.Sort.grow (redrawn wr dq) osq = wq at OQ ⊢
              go_wp2
              go_roundg q
              case measure => omega
              case rel => exact ⟨_, by rw [HF.out], rfl, by omega, by omega, OQ⟩
          | zero =>
            obtain rfl : ii = -1 := by omega
            clear hii
            obtain ⟨K, hK⟩ : ∃ K, fkB l d 0 = K := ⟨_, rfl⟩
            rw [hK]
            have HK := hid hK
            clear hK
            have KB : Hid ((∃ k, foundB l d = some k ∧ K = (k : Int)) ∨ (foundB l d = none ∧ K = -1)) := (show _ ∨ _ by
              cases hf : foundB l d with
              | none => exact Or.inr ⟨rfl, by rw [← HK.out, fkB_none hf]⟩
              | some k => exact Or.inl ⟨k, rfl, by rw [← HK.out, fkB_some hf]⟩)
            clear HK
            go_upto_if 66 with fail
            go_cut [0, 9, 10] (fun _ s9 s10 wx => ∃ va' vc' L1 e L2 rs', s9 = .slice va' (L1 ++ e :: L2).length vc' ∧ s10 = .int .i64 (L1.length : Int) ∧ Hid (OutS w d wx va' vc' (L1 ++ e :: L2) rs' ∧ joinAt l d now = (L1, e, L2)))
            case first =>
              rcases KB.out with ⟨k, hf, rfl⟩ | ⟨hf, rfl⟩
              · obtain ⟨hk, hj⟩ := joinAt_some (now := now) hf
                have hp := list_parts hk
                have OK : Hid (OutS w d wr va vc (l.take k ++ l[k] :: l.drop (k + 1)) rs ∧ joinAt l d now = (l.take k, l[k], l.drop (k + 1))) := ⟨by rw [hp]; exact OR.out, hj⟩
                have HP : Hid (l.length = (l.take k ++ l[k] :: l.drop (k + 1)).length) := (show _ = _ by rw [hp])
                have HT : Hid ((l.take k).length = k) := (show _ = _ by rw [List.length_take]; omega)
                clear hf hj hp KB
                go_wp2_with fail
                go_meet
                exact ⟨va, vc, l.take k, l[k], l.drop (k + 1), rs, by rw [← HP.out], by rw [HT.out], OK⟩
              · exact absurd HHAS.out (by rw [joinAt_new2 hf]; decide)
            case rest =>
              obtain ⟨va', vc', L1, e, L2, rs', rfl, rfl, HH⟩ := hcut
              obtain ⟨hO, hJ⟩ := HH.out
              have HJA := hid hJ
              obtain ⟨⟨hge, hge9⟩, hL3, hmem⟩ := joinAt_good hJ hl HG.out
              have HGE := hid hge
              have HMEM := hid hmem
              have hfew := hge.few
              have HVC := hid (row_cap hO.row).1
              obtain ⟨rs1, R, rs2, a, b, hrs, n1, ob, n2⟩ := hO.nest.split
              subst hrs
              obtain ⟨ta, tc, aa, ac, m, hRe, rt, ra, hm1, hm2⟩ := ob
              subst hRe
              have hk1 : rs1.length = L1.length := n1.length.symm
              have hk2 : rs2.length = L2.length := n2.length.symm
              have hM0 : ∃ rb r0, va' = some ⟨rb, 0, none⟩ ∧ w.heap.size + 2 ≤ rb ∧ BlockIs wc rb 35 (bitsCells (rs1 ++ rawB e ta tc aa ac :: rs2) ++ r0) := by
                rcases own_of_row hO.row with h0 | ⟨rb, r0, h1, h2, _, h4⟩
                · simp at h0
                · exact ⟨rb, r0, h1, h2, h4⟩
              obtain ⟨rb, r0, rfl, hrb, hrbk⟩ := hM0
              rw [midCs_raw] at hrbk
              obtain ⟨hi, hhi⟩ : ∃ hi, wc.heap.size = hi := ⟨_, rfl⟩
              rw [hhi] at n2
              have M0 : Hid (MidS w wc rb (midCs rs1 rs2 r0 e (.slice ta e.texts.length tc) (.slice aa e.ats.length ac) e.total) L1 L2 rs1 rs2 (w.heap.size + 2) a m b hi (.slice ta e.texts.length tc) e.texts (.slice aa e.ats.length ac) e.ats d) := ⟨hrbk, n1, n2, rt.1, ra.1, hO.j⟩
              have HIN3 : Hid (∀ q, (Value.slice aa e.ats.length ac).ownBlock = some q → m ≤ q ∧ q < b) := fun q hq => ⟨(ra.1.lt q hq).1, ra.2 q hq⟩
              have HIN9 : Hid (∀ q, (Value.slice ta e.texts.length tc).ownBlock = some q → a ≤ q ∧ q < m) := fun q hq => ⟨(rt.1.lt q hq).1, rt.2 q hq⟩
              have HIB : Hid (b ≤ wc.heap.size) := (show _ ≤ _ by have := n2.le; omega)
              have HAL : Hid (w.heap.size + 2 ≤ a) := n1.le
              obtain ⟨n, hn⟩ : ∃ n, (L1 ++ e :: L2).length = n := ⟨_, rfl⟩
              have hnk : L1.length < n := by rw [← hn]; simp
              have hnkI : (L1.length : Int) < (n : Int) := by omega
              have HN := hid hn
              rw [hn] at hL3 HVC ⊢
              have HK1 := hid hk1
              have HK2 := hid hk2
              have HRB := hid hrb
              have HHI := hid hhi
              clear hO hJ HH hge hmem n1 n2 rt ra hrbk hrb hhi hk1 hk2 hn OR KB
              go_wp2_with fail
              go_loopg [12, 13] e.ats.length (fun q s12 s13 wr => ∃ j : Nat, j + q = e.ats.length ∧ s13 = .int .i64 j ∧ s12 = .bool (firstAt (e.ats.take j) d.place).isSome ∧ Hid (Below wc.heap.size wc wr) ∧ Hid (MidS w wr rb (midCs rs1 rs2 r0 e (.slice ta e.texts.length tc) (.slice aa e.ats.length ac) e.total) L1 L2 rs1 rs2 (w.heap.size + 2) a m b hi (.slice ta e.texts.length tc) e.texts (.slice aa e.ats.length ac) e.ats d))
              case atStart => exact ⟨0, by omega, rfl, rfl, Below.refl _ _, M0⟩
              case round =>
                obtain ⟨j, hjq, rfl, rfl, BR, MR⟩ := hrel
                clear M0
                have hat := midCs_at rs1 rs2 r0 e (.slice ta e.texts.length tc) (.slice aa e.ats.length ac) e.total HK1.out
                have c3 := MR.out.row.cell hat.2.1
                cases gk with
                | succ q =>
                  have hj : j < e.ats.length := by omega
                  have hjI : (j : Int) < (e.ats.length : Int) := by omega
                  have htk : e.ats.take (j + 1) = e.ats.take j ++ [e.ats[j]] := List.take_succ_eq_append_getElem hj
                  have hfs := firstAt_snoc (e.ats.take j) e.ats[j] d.place
                  rw [← htk] at hfs
                  obtain ⟨z, hz⟩ : ∃ z, e.ats[j] = z := ⟨_, rfl⟩
                  have hva := (own_of_row MR.out.ax).vals (intCells_length _)
                  obtain ⟨ab, ao2, rfl, hac⟩ := hva (by intro h; have h9 := congrArg List.length h; rw [intCells_length] at h9; simp at h9; rw [h9] at hj; simp at hj)
                  have ca := hac j (by rw [intCells_length]; exact hj)
                  have ea : (intCells e.ats)[j]'(by rw [intCells_length]; exact hj) = .int .i64 e.ats[j] := by simp [intCells]
                  rw [ea, hz] at ca
                  rw [hz] at hfs
                  have x3 := MR.out.j.x.cell (j := 3) rfl
                  have C3 := cell_regrown c3
                  have CA := cell_regrown ca
                  have X3 := cell_regrown x3
                  clear hac ea htk hat hz
                  cases hb : (firstAt (e.ats.take j) d.place).isSome with
                  | true =>
                    have HF : Hid ((firstAt (e.ats.take (j + 1)) d.place).isSome = true) := (show _ = _ by rw [hfs]; simp [hb])
                    clear hfs hb
                    go_wp2
                    refine wp_region_quiet_below (by kernel_rfl) (by kernel_rfl) ?_
                    repeat (go_big_quiet_step (fail))
                    refine wpQuiet_nil ?_
                    intro _ hw'
                    obtain ⟨⟨dq, osq⟩, hw''⟩ := hw'
                    subst hw''
                    have MQ := hid (MR.out.on (below_regrown wr dq osq))
                    have BQ := hid (below_via BR.out (below_regrown wr dq osq))
                    generalize Go.Sort.grow (redrawn wr dq) osq = wq at MQ BQ ⊢
                    go_wp2
                    go_roundg q
                    case measure => omega
                    case rel => exact ⟨j + 1, by omega, by go_num, by rw [HF.out], BQ, MQ⟩
                  | false =>
                    by_cases hzp : z = d.place
                    · have HF : Hid ((firstAt (e.ats.take (j + 1)) d.place).isSome = true) := (show _ = _ by rw [hfs, if_pos hzp]; simp)
                      subst hzp
                      clear hfs hb
                      go_wp2
                      refine wp_region_quiet_below (by kernel_rfl) (by kernel_rfl) ?_
                      repeat (go_big_quiet_step (fail))
                      refine wpQuiet_nil ?_
                      intro _ hw'
                      obtain ⟨⟨dq, osq⟩, hw''⟩ := hw'
                      subst hw''
                      have MQ := hid (MR.out.on (below_regrown wr dq osq))
                      have BQ := hid (below_via BR.out (below_regrown wr dq osq))
                      generalize Go.Sort.grow (redrawn wr dq) osq = wq at MQ BQ ⊢
                      go_wp2
                      go_roundg q
                      case measure => omega
                      case rel => exact ⟨j + 1, by omega, by go_num, by rw [HF.out], BQ, MQ⟩
                    · have HF : Hid ((firstAt (e.ats.take (j + 1)) d.place).isSome = false) := (show _ = _ by rw [hfs, if_neg hzp]; simpa using hb)
                      have hzb : (z == d.place) = false := by simpa using hzp
                      clear hfs hb hzp
                      go_wp2
                      refine wp_region_quiet_below (by kernel_rfl) (by kernel_rfl) ?_
                      repeat (go_big_quiet_step (fail))
                      refine wpQuiet_nil ?_
                      intro _ hw'
                      obtain ⟨⟨dq, osq⟩, hw''⟩ := hw'
                      subst hw''
                      have MQ := hid (MR.out.on (below_regrown wr dq osq))
                      have BQ := hid (below_via BR.out (below_regrown wr dq osq))
                      generalize Go.Sort.grow (redrawn wr dq) osq = wq at MQ BQ ⊢
                      go_wp2
                      go_roundg q
                      case measure => omega
                      case rel => exact ⟨j + 1, by omega, by go_num, by rw [HF.out], BQ, MQ⟩
                | zero =>
                  have hjn : ¬ (j : Int) < (e.ats.length : Int) := by omega
                  rw [List.take_of_length_le (show e.ats.length ≤ j by omega)]
                  have B4 := BR
                  have M4 := MR
                  clear BR MR hat
                  obtain ⟨HS, hHS⟩ : ∃ q, (firstAt e.ats d.place).isSome = q := ⟨_, rfl⟩
                  rw [hHS]
                  have HHS := hid hHS
                  clear hHS
                  go_upto_if 111 with fail
                  go_cut [12] (fun _ wx => ∃ rsx, Hid (BitsTy wx (some ⟨rb, 0, none⟩) (L1 ++ takeD e d :: L2) rsx (w.heap.size + 2) ∧ JoinW w d wx))
                  case first =>
                    cases hfa : firstAt e.ats d.place with
                    | some i =>
                      obtain rfl : HS = true := by rw [← HHS.out, hfa]; rfl
                      have HT : Hid (takeD e d = e) := (show _ = _ by rw [takeD, hfa]; rfl)
                      clear hfa HHS
                      go_wp2_with fail
                      go_meet
                      exact ⟨_, by rw [HT.out]; exact M4.out.ty HRB.out hm1 hm2, M4.out.j⟩
                    | none => exact absurd HHAS.out (by rw [HJA.out]; show ¬ (firstAt e.ats d.place).isSome = true; rw [hfa]; decide)
                  case rest =>
                    obtain ⟨rsx, HX⟩ := hcut
                    have hgt := takeD_good HGE.out hge9 HD.out
                    obtain ⟨E, hE⟩ : ∃ E, takeD e d = E := ⟨_, rfl⟩
                    rw [hE] at HX hgt
                    have HEE := hid hE
                    have hnE : (L1 ++ E :: L2).length = n := by have := HN.out; simp at this ⊢; omega
                    have hlen : (L1 ++ E :: L2).length = rsx.length := HX.out.1.2.length
                    have hkr : L1.length < rsx.length := by rw [← hlen, hnE]; exact hnk
                    have hho := HX.out.1.2.get L1.length (by rw [hnE]; exact hnk) hkr
                    have hEk : (L1 ++ E :: L2)[L1.length]'(by rw [hnE]; exact hnk) = E := by simp
                    rw [hEk] at hho
                    obtain ⟨b9, off9, e9, hc⟩ := HX.out.1.at_ (by intro q; rw [q] at hkr; simp at hkr)
                    cases e9
                    obtain ⟨y0, y1, y2, y3, y4, y5⟩ := hc L1.length hkr
                    obtain ⟨R, hR⟩ : ∃ R, rsx[L1.length] = R := ⟨_, rfl⟩
                    rw [hR] at y0 y1 y2 y3 y4 y5 hho
                    obtain ⟨ta2, tc2, aa2, ac2, rfl, hv9, hv3⟩ := hho
                    simp only [rawB, Nat.zero_add] at y0 y1 y2 y3 y4 y5
                    have cw := l11Whole_any E ta2 tc2 aa2 ac2 hgt wc hv9.vals hv3.vals
                    have hbw := body_whole hgt
                    have hwz : (wholeS E).size ≤ 1200 := iterW_size hgt _ _ (Nat.zero_le _)
                    obtain ⟨SX, hSX⟩ : ∃ s, wholeS E = s := ⟨_, rfl⟩
                    rw [hSX] at cw hbw hwz
                    obtain ⟨okk, hokk⟩ : ∃ q, (decide (0 < E.total) && decide ((SX.size : Int) = E.total)) = q := ⟨_, rfl⟩
                    rw [hokk] at cw
                    have CW := hid cw
                    have HOK := hid hokk
                    have HBW := hid hbw
                    have HNE := hid hnE
                    have HLE := hid hlen
                    clear hE hnE hlen hkr hEk hc hR hv9 hv3 cw hbw hSX hokk hgt M4 B4 HHS c3 hjn
                    go_wp2_with fail
                    refine Calls.mono CW.out ?_
                    rintro e9 w7 ⟨rfl, b7⟩
                    have T7 := hid (HX.out.1.on b7)
                    have J7 := hid (HX.out.2.on b7 HX.out.2.big)
                    clear b7 HX CW y0 y1 y2 y3 y4 y5
                    cases okk with
                    | false =>
                      have HBN : Hid (bodyB E = none) := (show _ = _ by rw [HBW.out, if_neg (fun q => by have := HOK.out; simp [q.1, q.2] at this)])
                      have HR : Hid (joinB l d now = (L1 ++ E :: L2, zeroG, false)) := (show _ = _ by
                        rw [joinB_none HJ.out HNO.out (by rw [HJA.out]; show bodyB (takeD e d) = none; rw [HEE.out]; exact HBN.out), HJA.out]
                        show (L1 ++ takeD e d :: L2, zeroG, false) = _
                        rw [HEE.out])
                      have z0 := J7.out.z.cell (j := 0) rfl
                      have z1 := J7.out.z.cell (j := 1) rfl
                      have z2 := J7.out.z.cell (j := 2) rfl
                      have z3 := J7.out.z.cell (j := 3) rfl
                      have z4 := J7.out.z.cell (j := 4) rfl
                      have z5 := J7.out.z.cell (j := 5) rfl
                      have zf0 := J7.out.z.thaw 0
                      have zf1 := J7.out.z.thaw 1
                      have zf2 := J7.out.z.thaw 2
                      have zf3 := J7.out.z.thaw 3
                      have zf4 := J7.out.z.thaw 4
                      have zf5 := J7.out.z.thaw 5
                      have TYL := hid (((((((T7.out).six (j := 0) (J7.out.z) (.int .i64 0)).six (j := 1) ((J7.out.z).set 0 (.int .i64 0)) (.int .i64 0)).six (j := 2) (((J7.out.z).set 0 (.int .i64 0)).set 1 (.int .i64 0)) (.int .i64 0)).six (j := 3) ((((J7.out.z).set 0 (.int .i64 0)).set 1 (.int .i64 0)).set 2 (.int .i64 0)) (.int .i64 0)).six (j := 4) (((((J7.out.z).set 0 (.int .i64 0)).set 1 (.int .i64 0)).set 2 (.int .i64 0)).set 3 (.int .i64 0)) (.bool false)).six (j := 5) ((((((J7.out.z).set 0 (.int .i64 0)).set 1 (.int .i64 0)).set 2 (.int .i64 0)).set 3 (.int .i64 0)).set 4 (.bool false)) (.string ⟨#[]⟩))
                      have BLL := hid (((((((J7.out.b).setCell (p := ⟨w.heap.size + 1, 0, none⟩) (show w.heap.size ≤ w.heap.size + 1 by omega) (.int .i64 0)).setCell (p := ⟨w.heap.size + 1, 1, none⟩) (show w.heap.size ≤ w.heap.size + 1 by omega) (.int .i64 0)).setCell (p := ⟨w.heap.size + 1, 2, none⟩) (show w.heap.size ≤ w.heap.size + 1 by omega) (.int .i64 0)).setCell (p := ⟨w.heap.size + 1, 3, none⟩) (show w.heap.size ≤ w.heap.size + 1 by omega) (.int .i64 0)).setCell (p := ⟨w.heap.size + 1, 4, none⟩) (show w.heap.size ≤ w.heap.size + 1 by omega) (.bool false)).setCell (p := ⟨w.heap.size + 1, 5, none⟩) (show w.heap.size ≤ w.heap.size + 1 by omega) (.string ⟨#[]⟩))
                      clear T7 J7
                      go_wp2
                      refine bodyPost_ret (v := .tuple #[.slice (some ⟨rb, 0, none⟩) n vc', .agg #[.int .i64 0, .int .i64 0, .int .i64 0, .int .i64 0, .bool false, .string ⟨#[]⟩], .bool false]) (by simp [results, Try.results8, go_sem, z0, z1, z2, z3, z4, z5]) rfl ?_
                      rw [HR.out]
                      exact ⟨some ⟨rb, 0, none⟩, vc', rsx, by rw [HNE.out]; rfl, by rw [HNE.out]; exact HVC.out, TYL.out.low (by omega), BLL.out⟩
                    | true =>
                      have HBN : Hid (bodyB E = some SX) := (show _ = _ by rw [HBW.out, if_pos (by have := HOK.out; simpa using this)])
                      have HR : Hid (joinB l d now = (L1 ++ L2, wholeG d SX, true)) := (show _ = _ by
                        rw [joinB_some HJ.out HNO.out (S := SX) (by rw [HJA.out]; show bodyB (takeD e d) = _; rw [HEE.out]; exact HBN.out), HJA.out])
                      have hblk : ∃ r9, BlockIs w7 rb 35 (bitsCells rsx ++ r9) := by
                        rcases T7.out.1 with h0 | ⟨rb2, r9, e1, _, h4⟩
                        · have := HLE.out; rw [h0, HNE.out] at this; simp at this; omega
                        · cases e1; exact ⟨r9, h4⟩
                      obtain ⟨r9, hblk⟩ := hblk
                      have htk : (rsx.take L1.length).length = L1.length := by rw [List.length_take, ← HLE.out, HNE.out]; omega
                      have hdk : (rsx.drop (L1.length + 1)).length = n - (L1.length + 1) := by rw [List.length_drop, ← HLE.out, HNE.out]
                      have hLL : (L1 ++ L2).length = n - 1 := by have := HNE.out; simp at this ⊢; omega
                      have hNN : (rsx.take L1.length ++ rsx.drop (L1.length + 1)).length = (L1 ++ L2).length := by rw [List.length_append, htk, hdk, hLL]; omega
                      have hbt := bitssAt_take L1.length hblk
                      have hbd := bitssAt_drop (k := L1.length + 1) rfl (bitssAt_of hblk)
                      rw [Nat.zero_add] at hbd
                      have hvc1 : L1.length ≤ vc' := by have := HVC.out; omega
                      have hvc2 : L1.length + 1 ≤ vc' := by have := HVC.out; omega
                      have hvcn : n ≤ vc' := HVC.out
                      have hr0 := bitsR_nil w7 w7.heap.size (Nat.le_refl _)
                      have ba := below_more (Below.refl w7.heap.size w7) (.cells #[] 35)
                      obtain ⟨Wb, hWb⟩ : ∃ W, w7.alloc (.cells #[] 35) = W := ⟨_, rfl⟩
                      rw [hWb] at hr0 ba
                      have bd : Below w7.heap.size w7 Wb.drew := ba.trans (below_drewN (Below.refl _ _) 1)
                      have hr1 : Wb.drew.ownsRow w7.heap.size 35 6 (.slice (some ⟨w7.heap.size, 0, none⟩) 0 0) ([] : List BitsD).length (bitsCells []) := rows_below hr0 (below_drewN (Below.refl _ _) 1)
                      have hbt1 := hbt.on bd
                      have hsz1 : w7.heap.size ≤ Wb.drew.heap.size := bd.size
                      have HTWO : Hid (Two (HoldsB w7) (L1 ++ L2) (rsx.take L1.length ++ rsx.drop (L1.length + 1))) := (show Two _ _ _ by
                        have h2 := T7.out.2.mono (fun _ _ q => q.holds)
                        have h3 := h2.take L1.length
                        have h4 := h2.drop (L1.length + 1)
                        rw [List.take_left] at h3
                        rw [show (L1 ++ E :: L2).drop (L1.length + 1) = L2 by rw [← List.drop_drop, List.drop_left]; rfl] at h4
                        exact Two.append h4 h3)
                      have HBD := hid bd
                      have HBDD := hid hbd
                      have HR1 := hid hr1
                      have HTK := hid htk
                      have HNN := hid hNN
                      have hsm : ∀ e ∈ L1 ++ L2, SmallB e := fun e he => (HG.out e (HMEM.out e he)).1.small
                      have HSM := hid hsm
                      have hl3 : (L1 ++ L2).length ≤ 3 := by omega
                      obtain ⟨N9, hN9⟩ : ∃ k, (L1 ++ L2).length = k := ⟨_, rfl⟩
                      have HN9 := hid hN9
                      rw [hN9] at hNN hl3
                      clear hbd bd hr0 ba hsm hblk hdk hLL hN9
                      go_upto_region 30 with fail
                      go_cut [9, 16] (fun _ s16 wx => ∃ va3 vc3 rs3, s16 = .slice va3 N9 vc3 ∧ Hid (N9 ≤ vc3 ∧ BitsTy wx va3 (L1 ++ L2) rs3 (w.heap.size + 2) ∧ JoinW w d wx))
                      case first =>
                       have hw1 : IntKind.i64.wrap ((L1.length : Int) + 1) = (L1.length : Int) + 1 := by rw [IntKind.wrap_i64]; omega
                       have hw2 : (0 : Int) ≤ (L1.length : Int) + 1 := by omega
                       have hw4 : (L1.length : Int) ≤ (L1.length : Int) + 1 := by omega
                       have hw5 : (L1.length : Int) ≤ (vc' : Int) := by omega
                       have hw3 : (L1.length : Int) + 1 ≤ (n : Int) := by omega
                       obtain ⟨AD, hAD⟩ : ∃ AD : Option Addr, (if vc' = L1.length + 1 then some ⟨rb, 0, none⟩ else some ⟨rb, (L1.length + 1) * 6, none⟩) = AD := ⟨_, rfl⟩
                       have HBDE : Hid (∀ W, BitssAt W (some ⟨rb, (L1.length + 1) * 6, none⟩) (rsx.drop (L1.length + 1)) → BitssAt W AD (rsx.drop (L1.length + 1))) := fun W hW => by
                         rw [← hAD]
                         by_cases hvk : vc' = L1.length + 1
                         · exact fun h0 => absurd (List.eq_nil_of_length_eq_zero (by rw [List.length_drop, ← HLE.out, HNE.out]; omega)) h0
                         · rw [if_neg hvk]; exact hW
                       go_region_law (first | (refine step_append_bitss rfl (.tmp 171) (.tmp 174) rfl rfl (base := w7.heap.size) (L := []) (M := rsx.take L1.length) (N := L1.length) rfl rfl htk htk (by omega) hsz1 hr1 hbt1 ?_; intro va4 vc4 w4 hrow4 hgr4; have b4 : Below w7.heap.size w7 w4 := bitsR_down HBD.out HR1.out hgr4 (Nat.le_refl _) hsz1; have hr4 : w4.ownsRow w7.heap.size 35 6 (.slice va4 L1.length vc4) (rsx.take L1.length).length (bitsCells (rsx.take L1.length)) := (by rw [htk]; exact hrow4); have hbd4 := HBDE.out w4 (HBDD.out.on b4); have hsz4 := b4.size; have HB4 := hid b4; clear hrow4 hgr4 b4) | (refine step_append_bitss rfl (.tmp 175) (.tmp 179) rfl rfl (base := w7.heap.size) (L := rsx.take L1.length) (M := rsx.drop (L1.length + 1)) (N := N9) rfl rfl (by rw [List.length_drop, ← HLE.out, HNE.out]) hNN (by omega) hsz4 hr4 hbd4 ?_; intro va9 vc9 w9 hrow9 hgr9; have b9 : Below w7.heap.size w7 w9 := bitsR_down HB4.out hr4 hgr9 (Nat.le_refl _) hsz4; have HB9 := hid b9; have HH9 : Hid (BitsHold w9 va9 (L1 ++ L2)) := ⟨_, bitsR_at (by rw [hNN]; exact hrow9), HTWO.out.mono fun _ _ q => q.on b9⟩; clear hrow9 hgr9 b9) | (go_simp; go_wp2_with (go_at_call 31; refine Calls.mono (copy_at HN9.out va9 vc9 hl3 HSM.out w9 HH9.out) ?_; rintro e10 w10 ⟨va3, vc3, rs3, rfl, hrow3, hnest3, b10⟩)))
                       all_goals
                        have h9 : w.heap.size + 2 ≤ w9.heap.size := Nat.le_trans J7.out.big HB9.out.size
                        have BT : Hid (N9 ≤ vc3 ∧ BitsTy w10 va3 (L1 ++ L2) rs3 (w.heap.size + 2) ∧ JoinW w d w10) := (show _ ∧ _ by
                          have hc3 := (row_cap hrow3).1
                          have ht3 := bitsTy_row (l := L1 ++ L2) (by rw [HN9.out]; exact hrow3) hnest3
                          exact ⟨hc3, ht3.low h9, (J7.out.on HB9.out J7.out.big).on b10 h9⟩)
                        clear hrow3 hnest3 b10 h9
                        go_wp2_with fail
                        go_meet
                        exact ⟨va3, vc3, rs3, rfl, BT⟩
                      case rest =>
                        obtain ⟨va3, vc3, rs3, rfl, H3⟩ := hcut
                        clear hbt hr1 hbt1 HBD HBDD HR1 HTWO
                        have z0 := H3.out.2.2.z.cell (j := 0) rfl
                        have z1 := H3.out.2.2.z.cell (j := 1) rfl
                        have z2 := H3.out.2.2.z.cell (j := 2) rfl
                        have z3 := H3.out.2.2.z.cell (j := 3) rfl
                        have z4 := H3.out.2.2.z.cell (j := 4) rfl
                        have z5 := H3.out.2.2.z.cell (j := 5) rfl
                        have zf0 := H3.out.2.2.z.thaw 0
                        have zf1 := H3.out.2.2.z.thaw 1
                        have zf2 := H3.out.2.2.z.thaw 2
                        have zf3 := H3.out.2.2.z.thaw 3
                        have zf4 := H3.out.2.2.z.thaw 4
                        have zf5 := H3.out.2.2.z.thaw 5
                        have TYL := hid (((((((H3.out.2.1).six (j := 0) (H3.out.2.2.z) (.int .i64 d.src)).six (j := 1) ((H3.out.2.2.z).set 0 (.int .i64 d.src)) (.int .i64 d.dst)).six (j := 2) (((H3.out.2.2.z).set 0 (.int .i64 d.src)).set 1 (.int .i64 d.dst)) (.int .i64 d.ident)).six (j := 3) ((((H3.out.2.2.z).set 0 (.int .i64 d.src)).set 1 (.int .i64 d.dst)).set 2 (.int .i64 d.ident)) (.int .i64 0)).six (j := 4) (((((H3.out.2.2.z).set 0 (.int .i64 d.src)).set 1 (.int .i64 d.dst)).set 2 (.int .i64 d.ident)).set 3 (.int .i64 0)) (.bool false)).six (j := 5) ((((((H3.out.2.2.z).set 0 (.int .i64 d.src)).set 1 (.int .i64 d.dst)).set 2 (.int .i64 d.ident)).set 3 (.int .i64 0)).set 4 (.bool false)) (.string SX))
                        have BLL := hid (((((((H3.out.2.2.b).setCell (p := ⟨w.heap.size + 1, 0, none⟩) (show w.heap.size ≤ w.heap.size + 1 by omega) (.int .i64 d.src)).setCell (p := ⟨w.heap.size + 1, 1, none⟩) (show w.heap.size ≤ w.heap.size + 1 by omega) (.int .i64 d.dst)).setCell (p := ⟨w.heap.size + 1, 2, none⟩) (show w.heap.size ≤ w.heap.size + 1 by omega) (.int .i64 d.ident)).setCell (p := ⟨w.heap.size + 1, 3, none⟩) (show w.heap.size ≤ w.heap.size + 1 by omega) (.int .i64 0)).setCell (p := ⟨w.heap.size + 1, 4, none⟩) (show w.heap.size ≤ w.heap.size + 1 by omega) (.bool false)).setCell (p := ⟨w.heap.size + 1, 5, none⟩) (show w.heap.size ≤ w.heap.size + 1 by omega) (.string SX))
                        have x0 := H3.out.2.2.x.cell (j := 0) rfl
                        have x1 := H3.out.2.2.x.cell (j := 1) rfl
                        have x2 := H3.out.2.2.x.cell (j := 2) rfl
                        have TYD := hid (TYL.out.on (below_drewN (Below.refl _ _) 1))
                        have BLD := hid (below_via BLL.out (below_drewN (Below.refl _ _) 1))
                        clear TYL BLL T7 J7 htk hNN
                        go_wp2
                        go_region
                        go_wp2
                        refine bodyPost_ret (v := .tuple #[.slice va3 N9 vc3, .agg #[.int .i64 d.src, .int .i64 d.dst, .int .i64 d.ident, .int .i64 0, .bool false, .string SX], .bool true]) (by simp [results, Try.results8, go_sem, z0, z1, z2, z3, z4, z5]) rfl ?_
                        rw [HR.out]
                        exact ⟨va3, vc3, rs3, by rw [HN9.out]; rfl, by rw [HN9.out]; exact H3.out.1, TYD.out.low (by omega), BLD.out⟩
end Go.Proofs.Ythdklbmachplmaa
