/-
  The walk of spec.LoseDisk: what the power leaves of a disk.
  The walk of spec.LoseDisk at a disk that is not right.
  spec.LoseDisk at every disk: one sentence.
-/
import Derived.Test.YtbbohfagnnobgaaJoint11
import Derived.Test.YtbbohfagnnobgaaJoint1
import Derived.Deep.RegionLaw
import Derived.Deep.AppendLies
import Derived.BigRegion
import Derived.Test.YtbbohfagnnobgaaJoint27
namespace Go.Proofs.Ytbbohfagnnobgaa
open Go.RowKit

set_option maxRecDepth 1000000 in
set_option maxHeartbeats 4000000 in
theorem specLoseDisk_yes (ao : Option Addr) (l : List FileD) (cap : Nat) (lo : Option Addr) (zs : List Int) (lcap : Nat) (hzl : zs.length ≤ 1048576) (hd : diskOk l = true) (w : World) (ha : FilesAt w ao l) (hz : IntsAt w lo zs) :
    Calls Try.prog 48 #[.agg #[.slice ao l.length cap], .slice lo zs.length lcap] w fun e w' => ∃ v, e = .returned (.tuple #[.agg #[v], .bool true]) ∧ w'.ownsRow w.heap.size 77 3 v (loseTo l zs l.length).length (fileCells (loseTo l zs l.length)) ∧ Below w.heap.size w w' := by
  obtain ⟨i0, hi, hz0, hz1, hz2⟩ := info_parts toFile_info
  have hl : l.length ≤ 30 := by
    have := hd
    rw [diskOk, Bool.and_eq_true] at this
    simpa using this.1
  have HA := hid ha
  have HZ := hid hz
  have HD := hid hd
  have hx0 : BlockIs (w.alloc (.cells #[.slice ao l.length cap] 26)) w.heap.size 26 [.slice ao l.length cap] := heap_alloc_new w _
  have hx0' := hx0.on (below_more (Below.refl _ _) (.cells #[.slice none 0 0] 26)) hx0.lt
  have hx1 : BlockIs ((w.alloc (.cells #[.slice ao l.length cap] 26)).alloc (.cells #[.slice none 0 0] 26)) (w.heap.size + 1) 26 [.slice none 0 0] := by
    have := heap_alloc_new (w.alloc (.cells #[.slice ao l.length cap] 26)) (.cells #[.slice none 0 0] 26)
    rw [show (w.alloc (.cells #[.slice ao l.length cap] 26)).heap.size = w.heap.size + 1 by simp [World.alloc, -World.alloc_eq]] at this
    exact this
  have HX := hid (And.intro hx0' hx1)
  have HB := hid (below_more (below_more (Below.refl w.heap.size w) (.cells #[.slice ao l.length cap] 26)) (.cells #[.slice none 0 0] 26))
  have C := hid (fun w ha => specDiskOk_any ao l cap (by omega) w ha)
  rw [hd] at C
  clear ha hz hd hx0 hx0' hx1
  go_enter Try.func48, Try.ntmps48
  go_wp2_with fail
  refine (C.out _ (HA.out.on HB.out)).mono ?_
  rintro e w1 ⟨rfl, b1⟩
  have B1 := hid (below_via HB.out b1)
  have X1 := hid (And.intro (HX.out.1.on b1 HX.out.1.lt) (HX.out.2.on b1 HX.out.2.lt))
  clear b1 C HB HX
  obtain ⟨G, hG⟩ : ∃ G, w1.heap.size = G := ⟨_, rfl⟩
  have hGw : w.heap.size + 1 < G := by have := X1.out.2.lt; omega
  have hx2 : BlockIs (w1.alloc (.cells #[.slice none 0 0] 26)) G 26 [.slice none 0 0] := by rw [← hG]; exact heap_alloc_new w1 _
  have hb2 := below_more (Below.refl w1.heap.size w1) (.cells #[.slice none 0 0] 26)
  have H2 := hid (And.intro (X1.out.1.on hb2 X1.out.1.lt) (And.intro (X1.out.2.on hb2 X1.out.2.lt) hx2))
  have B2 := hid (below_via B1.out hb2)
  clear hx2 hb2 X1 B1
  go_wp2
  clear hG
  go_loopg [7, 8, 9] l.length (fun q i _ _ wr => ∃ (k : Nat) (v : Value), k + q = l.length ∧ i = .int .i64 k ∧ Hid (Below w.heap.size w wr) ∧ Hid (BlockIs wr w.heap.size 26 [.slice ao l.length cap] ∧ BlockIs wr (w.heap.size + 1) 26 [.slice none 0 0] ∧ BlockIs wr G 26 [v]) ∧ Hid (wr.ownsRow (G + 1) 77 3 v (loseTo l zs k).length (fileCells (loseTo l zs k))))
  case atStart => exact ⟨0, .slice none 0 0, by omega, rfl, B2, H2, rfl, Or.inl ⟨rfl, rfl⟩⟩
  case round =>
    obtain ⟨k, v, hkg, rfl, BR, XR, OR⟩ := hrel
    clear H2 B2
    have c0 := XR.out.1.cell (j := 0) rfl
    have c1 := XR.out.2.1.cell (j := 0) rfl
    have c2 := XR.out.2.2.cell (j := 0) rfl
    have f1 := XR.out.2.1.thaw 0
    have f2 := XR.out.2.2.thaw 0
    cases gk with
    | zero =>
      have hlt : ¬ (k : Int) < (l.length : Int) := by omega
      obtain rfl : k = l.length := by omega
      obtain ⟨va, vc, rfl⟩ := row_shape OR.out
      have HO := hid (ownsRow_setCell_below (a := ⟨w.heap.size + 1, 0, none⟩) OR.out (by show _ + 1 < _; omega) (.slice va (loseTo l zs l.length).length vc))
      have HB := hid (BR.out.setCell (p := ⟨w.heap.size + 1, 0, none⟩) (by show _ ≤ _ + 1; omega) (.slice va (loseTo l zs l.length).length vc))
      clear OR BR XR
      go_wp2
      refine bodyPost_ret (v := .tuple #[.agg #[.slice va (loseTo l zs l.length).length vc], .bool true]) (by simp [results, Try.results48, go_sem, c1]) rfl ⟨_, rfl, row_down HO.out (by omega), HB.out⟩
    | succ q =>
      have hlt : k < l.length := by omega
      have hlt' : (k : Int) < (l.length : Int) := by omega
      have hne : l ≠ [] := by intro e; rw [e] at hlt; simp at hlt
      obtain ⟨b, off, rfl, hc⟩ := HA.out.on BR.out hne
      obtain ⟨x0, x1, x2⟩ := hc k hlt
      clear hc
      obtain ⟨hk0, hk1, hk2⟩ := diskOk_kept HD.out hlt
      by_cases hin : k < zs.length
      · have hin' : (k : Int) < (zs.length : Int) := by omega
        have hget : zs.getD k 0 = zs[k] := by simp [List.getD, hin]
        obtain ⟨b2, off2, rfl, hcz⟩ := HZ.out.on BR.out (by intro e; rw [e] at hin; simp at hin)
        have zk' := hcz k hin
        have zk : (wr.alloc (.cells #[.string l[k].name, .string l[k].text, .int .i64 l[k].kept] 77)).cell? ⟨b2, off2 + k, none⟩ = some (.int .i64 zs[k]) := ((below_more (Below.refl _ wr) _).cell (p := ⟨b2, off2 + k, none⟩) (World.block_lt_of_cell? wr _ zk')).trans zk'
        clear hcz zk'
        by_cases hB : (l[k].text.size : Int) < zs[k]
        · have hC : ¬ (l[k].text.size : Int) < l[k].kept := by omega
          have hval : Hid (leftOf l[k] (zs.getD k 0) = (l[k].text.size : Int)) := by show _ = _; rw [hget, leftOf, if_pos hB, if_neg hC]
          go_wp2
          generalize hW2 : wr.alloc (.cells #[.string l[k].name, .string l[k].text, .int .i64 l[k].kept] 77) = W2
          have hb2 : Below wr.heap.size wr W2 := by rw [← hW2]; exact below_more (Below.refl _ wr) _
          have hx2 : BlockIs W2 wr.heap.size 77 [.string l[k].name, .string l[k].text, .int .i64 l[k].kept] := by rw [← hW2]; exact heap_alloc_new wr _
          have OW : Hid (W2.ownsRow (G + 1) 77 3 v (loseTo l zs k).length (fileCells (loseTo l zs k))) := by rw [← hW2]; exact OR.out.alloc _
          have n0 := hx2.cell (j := 0) rfl
          have n1 := hx2.cell (j := 1) rfl
          have B2 := hid (below_via BR.out hb2)
          have X2 := hid (And.intro (XR.out.1.on hb2 XR.out.1.lt) (And.intro (XR.out.2.1.on hb2 XR.out.2.1.lt) (XR.out.2.2.on hb2 XR.out.2.2.lt)))
          have d2 := X2.out.2.2.cell (j := 0) rfl
          have g2 := X2.out.2.2.thaw 0
          have hG2 : G + 1 ≤ W2.heap.size := X2.out.2.2.lt
          have hNl : (loseTo l zs k).length ≤ 30 := by rw [loseTo_length (by omega)]; omega
          rw [hW2] at zk; clear zk
          clear hW2 hb2 hx2 OR BR XR c0 c1 c2 f1 f2 x0 x1 x2
          obtain ⟨N, hN⟩ : ∃ N : Nat, (l[k].text.size : Int) = (N : Int) := ⟨((l[k].text.size : Int)).toNat, by omega⟩
          have hNs : N ≤ l[k].text.size := by omega
          have q2 := slice_upto (P := Try.prog) Try.underlying9 l[k].text N (N : Int) rfl hNs
          have hlo : fileEnc (lostOf l[k] (zs.getD k 0)) = [.string l[k].name, .string (l[k].text.extract 0 N), .int .i64 (N : Int)] := by
            rw [lostOf, hval.out, hN]; rfl
          have HLO := hid hlo
          clear hval hlo
          have hown := OW.out
          have d2a : (W2.alloc (.cells #[.string l[k].name, .string (l[k].text.extract 0 N), .int .i64 (N : Int)] 77)).cell? ⟨G, 0, none⟩ = some v := ((below_more (Below.refl _ W2) _).cell (p := ⟨G, 0, none⟩) X2.out.2.2.lt).trans d2
          have hR := hid (fun w1 o h2 => behind_append (w := w) (w1 := w1) (o := o) (by omega) B2.out OW.out hG2 h2)
          go_region_law (refine step_append_lies _ rfl (.tmp 50) (.tmp 59) 24 rfl (G + 1) 77 i0 _ 3 40 Try.underlying24 hi hz0 hz1 hz2 rfl (by decide) _ (loseTo l zs k).length _ (by simp [Act.eval]) ((hown.alloc _).drew) ⟨W2.heap.size, 0, none⟩ 1 1 [.string l[k].name, .string (l[k].text.extract 0 N), .int .i64 (N : Int)] (by simp [Act.eval]) rfl (World.news_of_block (cs := #[.string l[k].name, .string (l[k].text.extract 0 N), .int .i64 (N : Int)]) (t := 77) (fr := (0, 0)) (heap_alloc_new W2 _)) (by simp [Value.oneCell']) (by decide) (by unfold maxLen; omega) (by omega) (by simp; omega) (W2.heap.size + 1) (by simp) ?_; intro g1 cap1 w1 hown1 hgrow hat hlt1; obtain ⟨B1, hz1', hk1⟩ := hR.out w1 _ hgrow; have y3 := (hk1 _ _ _ (Nat.lt_succ_self _) X2.out.2.2).cell (j := 0) rfl; have z3 := (hk1 _ _ _ (Nat.lt_succ_self _) X2.out.2.2).thaw 0)
          all_goals
            have hst := loseTo_step (zs := zs) hlt
            have hfc : fileCells (loseTo l zs (k + 1)) = fileCells (loseTo l zs k) ++ [.string l[k].name, .string (l[k].text.extract 0 N), .int .i64 (N : Int)] := by
              rw [hst, fileCells, List.flatMap_append, ← HLO.out]; simp [fileCells]
            have hfl : (loseTo l zs (k + 1)).length = (loseTo l zs k).length + 1 := by rw [hst]; simp
            have HO : Hid ((w1.setCell ⟨G, 0, none⟩ (.slice (some ⟨g1, 0, none⟩) ((loseTo l zs k).length + 1) cap1)).ownsRow (G + 1) 77 3 (.slice (some ⟨g1, 0, none⟩) ((loseTo l zs k).length + 1) cap1) (loseTo l zs (k + 1)).length (fileCells (loseTo l zs (k + 1)))) := by
              rw [hfc, hfl]
              exact ownsRow_setCell_below hown1 (Nat.lt_succ_self _) _
            have HX := hid (And.intro ((hk1 _ _ _ (by omega) X2.out.1).far (b := G) (j := 0) (by omega) (.slice (some ⟨g1, 0, none⟩) ((loseTo l zs k).length + 1) cap1)) (And.intro ((hk1 _ _ _ (by omega) X2.out.2.1).far (b := G) (j := 0) (by omega) (.slice (some ⟨g1, 0, none⟩) ((loseTo l zs k).length + 1) cap1)) ((hk1 _ _ _ (by omega) X2.out.2.2).set 0 (.slice (some ⟨g1, 0, none⟩) ((loseTo l zs k).length + 1) cap1))))
            have HB := hid (B1.setCell (p := ⟨G, 0, none⟩) (by show _ ≤ G; omega) (.slice (some ⟨g1, 0, none⟩) ((loseTo l zs k).length + 1) cap1))
            clear hown1 hgrow hat hlt1 B1 hz1' hk1 y3 z3 d2a hR hown OW X2 B2 n0 n1 d2 g2 hfc hfl hst q2 HLO
            go_wp2
            go_roundg q
            case measure => omega
            case rel => exact ⟨k + 1, _, by omega, by go_num, HB, HX, HO⟩
        · by_cases hC : zs[k] < l[k].kept
          · have hval : Hid (leftOf l[k] (zs.getD k 0) = l[k].kept) := by show _ = _; rw [hget, leftOf, if_neg hB, if_pos hC]
            go_wp2
            generalize hW2 : wr.alloc (.cells #[.string l[k].name, .string l[k].text, .int .i64 l[k].kept] 77) = W2
            have hb2 : Below wr.heap.size wr W2 := by rw [← hW2]; exact below_more (Below.refl _ wr) _
            have hx2 : BlockIs W2 wr.heap.size 77 [.string l[k].name, .string l[k].text, .int .i64 l[k].kept] := by rw [← hW2]; exact heap_alloc_new wr _
            have OW : Hid (W2.ownsRow (G + 1) 77 3 v (loseTo l zs k).length (fileCells (loseTo l zs k))) := by rw [← hW2]; exact OR.out.alloc _
            have n0 := hx2.cell (j := 0) rfl
            have n1 := hx2.cell (j := 1) rfl
            have B2 := hid (below_via BR.out hb2)
            have X2 := hid (And.intro (XR.out.1.on hb2 XR.out.1.lt) (And.intro (XR.out.2.1.on hb2 XR.out.2.1.lt) (XR.out.2.2.on hb2 XR.out.2.2.lt)))
            have d2 := X2.out.2.2.cell (j := 0) rfl
            have g2 := X2.out.2.2.thaw 0
            have hG2 : G + 1 ≤ W2.heap.size := X2.out.2.2.lt
            have hNl : (loseTo l zs k).length ≤ 30 := by rw [loseTo_length (by omega)]; omega
            rw [hW2] at zk; clear zk
            clear hW2 hb2 hx2 OR BR XR c0 c1 c2 f1 f2 x0 x1 x2
            obtain ⟨N, hN⟩ : ∃ N : Nat, l[k].kept = (N : Int) := ⟨(l[k].kept).toNat, by omega⟩
            have hNs : N ≤ l[k].text.size := by omega
            have q2 := slice_upto (P := Try.prog) Try.underlying9 l[k].text N (N : Int) rfl hNs
            have hlo : fileEnc (lostOf l[k] (zs.getD k 0)) = [.string l[k].name, .string (l[k].text.extract 0 N), .int .i64 (N : Int)] := by
              rw [lostOf, hval.out, hN]; rfl
            have HLO := hid hlo
            clear hval hlo
            have hown := OW.out
            have d2a : (W2.alloc (.cells #[.string l[k].name, .string (l[k].text.extract 0 N), .int .i64 (N : Int)] 77)).cell? ⟨G, 0, none⟩ = some v := ((below_more (Below.refl _ W2) _).cell (p := ⟨G, 0, none⟩) X2.out.2.2.lt).trans d2
            have hR := hid (fun w1 o h2 => behind_append (w := w) (w1 := w1) (o := o) (by omega) B2.out OW.out hG2 h2)
            go_region_law (refine step_append_lies _ rfl (.tmp 50) (.tmp 59) 24 rfl (G + 1) 77 i0 _ 3 40 Try.underlying24 hi hz0 hz1 hz2 rfl (by decide) _ (loseTo l zs k).length _ (by simp [Act.eval]) ((hown.alloc _).drew) ⟨W2.heap.size, 0, none⟩ 1 1 [.string l[k].name, .string (l[k].text.extract 0 N), .int .i64 (N : Int)] (by simp [Act.eval]) rfl (World.news_of_block (cs := #[.string l[k].name, .string (l[k].text.extract 0 N), .int .i64 (N : Int)]) (t := 77) (fr := (0, 0)) (heap_alloc_new W2 _)) (by simp [Value.oneCell']) (by decide) (by unfold maxLen; omega) (by omega) (by simp; omega) (W2.heap.size + 1) (by simp) ?_; intro g1 cap1 w1 hown1 hgrow hat hlt1; obtain ⟨B1, hz1', hk1⟩ := hR.out w1 _ hgrow; have y3 := (hk1 _ _ _ (Nat.lt_succ_self _) X2.out.2.2).cell (j := 0) rfl; have z3 := (hk1 _ _ _ (Nat.lt_succ_self _) X2.out.2.2).thaw 0)
            all_goals
              have hst := loseTo_step (zs := zs) hlt
              have hfc : fileCells (loseTo l zs (k + 1)) = fileCells (loseTo l zs k) ++ [.string l[k].name, .string (l[k].text.extract 0 N), .int .i64 (N : Int)] := by
                rw [hst, fileCells, List.flatMap_append, ← HLO.out]; simp [fileCells]
              have hfl : (loseTo l zs (k + 1)).length = (loseTo l zs k).length + 1 := by rw [hst]; simp
              have HO : Hid ((w1.setCell ⟨G, 0, none⟩ (.slice (some ⟨g1, 0, none⟩) ((loseTo l zs k).length + 1) cap1)).ownsRow (G + 1) 77 3 (.slice (some ⟨g1, 0, none⟩) ((loseTo l zs k).length + 1) cap1) (loseTo l zs (k + 1)).length (fileCells (loseTo l zs (k + 1)))) := by
                rw [hfc, hfl]
                exact ownsRow_setCell_below hown1 (Nat.lt_succ_self _) _
              have HX := hid (And.intro ((hk1 _ _ _ (by omega) X2.out.1).far (b := G) (j := 0) (by omega) (.slice (some ⟨g1, 0, none⟩) ((loseTo l zs k).length + 1) cap1)) (And.intro ((hk1 _ _ _ (by omega) X2.out.2.1).far (b := G) (j := 0) (by omega) (.slice (some ⟨g1, 0, none⟩) ((loseTo l zs k).length + 1) cap1)) ((hk1 _ _ _ (by omega) X2.out.2.2).set 0 (.slice (some ⟨g1, 0, none⟩) ((loseTo l zs k).length + 1) cap1))))
              have HB := hid (B1.setCell (p := ⟨G, 0, none⟩) (by show _ ≤ G; omega) (.slice (some ⟨g1, 0, none⟩) ((loseTo l zs k).length + 1) cap1))
              clear hown1 hgrow hat hlt1 B1 hz1' hk1 y3 z3 d2a hR hown OW X2 B2 n0 n1 d2 g2 hfc hfl hst q2 HLO
              go_wp2
              go_roundg q
              case measure => omega
              case rel => exact ⟨k + 1, _, by omega, by go_num, HB, HX, HO⟩
          · have hz0' : 0 ≤ zs[k] := by omega
            have hval : Hid (leftOf l[k] (zs.getD k 0) = zs[k]) := by show _ = _; rw [hget, leftOf, if_neg hB, if_neg hC]
            go_wp2
            generalize hW2 : wr.alloc (.cells #[.string l[k].name, .string l[k].text, .int .i64 l[k].kept] 77) = W2
            have hb2 : Below wr.heap.size wr W2 := by rw [← hW2]; exact below_more (Below.refl _ wr) _
            have hx2 : BlockIs W2 wr.heap.size 77 [.string l[k].name, .string l[k].text, .int .i64 l[k].kept] := by rw [← hW2]; exact heap_alloc_new wr _
            have OW : Hid (W2.ownsRow (G + 1) 77 3 v (loseTo l zs k).length (fileCells (loseTo l zs k))) := by rw [← hW2]; exact OR.out.alloc _
            have n0 := hx2.cell (j := 0) rfl
            have n1 := hx2.cell (j := 1) rfl
            have B2 := hid (below_via BR.out hb2)
            have X2 := hid (And.intro (XR.out.1.on hb2 XR.out.1.lt) (And.intro (XR.out.2.1.on hb2 XR.out.2.1.lt) (XR.out.2.2.on hb2 XR.out.2.2.lt)))
            have d2 := X2.out.2.2.cell (j := 0) rfl
            have g2 := X2.out.2.2.thaw 0
            have hG2 : G + 1 ≤ W2.heap.size := X2.out.2.2.lt
            have hNl : (loseTo l zs k).length ≤ 30 := by rw [loseTo_length (by omega)]; omega
            rw [hW2] at zk; clear zk
            clear hW2 hb2 hx2 OR BR XR c0 c1 c2 f1 f2 x0 x1 x2
            obtain ⟨N, hN⟩ : ∃ N : Nat, zs[k] = (N : Int) := ⟨(zs[k]).toNat, by omega⟩
            have hNs : N ≤ l[k].text.size := by omega
            have q2 := slice_upto (P := Try.prog) Try.underlying9 l[k].text N (N : Int) rfl hNs
            have hlo : fileEnc (lostOf l[k] (zs.getD k 0)) = [.string l[k].name, .string (l[k].text.extract 0 N), .int .i64 (N : Int)] := by
              rw [lostOf, hval.out, hN]; rfl
            have HLO := hid hlo
            clear hval hlo
            have hown := OW.out
            have d2a : (W2.alloc (.cells #[.string l[k].name, .string (l[k].text.extract 0 N), .int .i64 (N : Int)] 77)).cell? ⟨G, 0, none⟩ = some v := ((below_more (Below.refl _ W2) _).cell (p := ⟨G, 0, none⟩) X2.out.2.2.lt).trans d2
            have hR := hid (fun w1 o h2 => behind_append (w := w) (w1 := w1) (o := o) (by omega) B2.out OW.out hG2 h2)
            go_region_law (refine step_append_lies _ rfl (.tmp 50) (.tmp 59) 24 rfl (G + 1) 77 i0 _ 3 40 Try.underlying24 hi hz0 hz1 hz2 rfl (by decide) _ (loseTo l zs k).length _ (by simp [Act.eval]) ((hown.alloc _).drew) ⟨W2.heap.size, 0, none⟩ 1 1 [.string l[k].name, .string (l[k].text.extract 0 N), .int .i64 (N : Int)] (by simp [Act.eval]) rfl (World.news_of_block (cs := #[.string l[k].name, .string (l[k].text.extract 0 N), .int .i64 (N : Int)]) (t := 77) (fr := (0, 0)) (heap_alloc_new W2 _)) (by simp [Value.oneCell']) (by decide) (by unfold maxLen; omega) (by omega) (by simp; omega) (W2.heap.size + 1) (by simp) ?_; intro g1 cap1 w1 hown1 hgrow hat hlt1; obtain ⟨B1, hz1', hk1⟩ := hR.out w1 _ hgrow; have y3 := (hk1 _ _ _ (Nat.lt_succ_self _) X2.out.2.2).cell (j := 0) rfl; have z3 := (hk1 _ _ _ (Nat.lt_succ_self _) X2.out.2.2).thaw 0)
            all_goals
              have hst := loseTo_step (zs := zs) hlt
              have hfc : fileCells (loseTo l zs (k + 1)) = fileCells (loseTo l zs k) ++ [.string l[k].name, .string (l[k].text.extract 0 N), .int .i64 (N : Int)] := by
                rw [hst, fileCells, List.flatMap_append, ← HLO.out]; simp [fileCells]
              have hfl : (loseTo l zs (k + 1)).length = (loseTo l zs k).length + 1 := by rw [hst]; simp
              have HO : Hid ((w1.setCell ⟨G, 0, none⟩ (.slice (some ⟨g1, 0, none⟩) ((loseTo l zs k).length + 1) cap1)).ownsRow (G + 1) 77 3 (.slice (some ⟨g1, 0, none⟩) ((loseTo l zs k).length + 1) cap1) (loseTo l zs (k + 1)).length (fileCells (loseTo l zs (k + 1)))) := by
                rw [hfc, hfl]
                exact ownsRow_setCell_below hown1 (Nat.lt_succ_self _) _
              have HX := hid (And.intro ((hk1 _ _ _ (by omega) X2.out.1).far (b := G) (j := 0) (by omega) (.slice (some ⟨g1, 0, none⟩) ((loseTo l zs k).length + 1) cap1)) (And.intro ((hk1 _ _ _ (by omega) X2.out.2.1).far (b := G) (j := 0) (by omega) (.slice (some ⟨g1, 0, none⟩) ((loseTo l zs k).length + 1) cap1)) ((hk1 _ _ _ (by omega) X2.out.2.2).set 0 (.slice (some ⟨g1, 0, none⟩) ((loseTo l zs k).length + 1) cap1))))
              have HB := hid (B1.setCell (p := ⟨G, 0, none⟩) (by show _ ≤ G; omega) (.slice (some ⟨g1, 0, none⟩) ((loseTo l zs k).length + 1) cap1))
              clear hown1 hgrow hat hlt1 B1 hz1' hk1 y3 z3 d2a hR hown OW X2 B2 n0 n1 d2 g2 hfc hfl hst q2 HLO
              go_wp2
              go_roundg q
              case measure => omega
              case rel => exact ⟨k + 1, _, by omega, by go_num, HB, HX, HO⟩
      · have hin' : ¬ (k : Int) < (zs.length : Int) := by omega
        have hget : zs.getD k 0 = 0 := by simp [List.getD, hin]
        have hB : ¬ (l[k].text.size : Int) < 0 := by omega
        by_cases hC : (0 : Int) < l[k].kept
        · have hval : Hid (leftOf l[k] (zs.getD k 0) = l[k].kept) := by show _ = _; rw [hget, leftOf, if_neg hB, if_pos hC]
          go_wp2
          generalize hW2 : wr.alloc (.cells #[.string l[k].name, .string l[k].text, .int .i64 l[k].kept] 77) = W2
          have hb2 : Below wr.heap.size wr W2 := by rw [← hW2]; exact below_more (Below.refl _ wr) _
          have hx2 : BlockIs W2 wr.heap.size 77 [.string l[k].name, .string l[k].text, .int .i64 l[k].kept] := by rw [← hW2]; exact heap_alloc_new wr _
          have OW : Hid (W2.ownsRow (G + 1) 77 3 v (loseTo l zs k).length (fileCells (loseTo l zs k))) := by rw [← hW2]; exact OR.out.alloc _
          have n0 := hx2.cell (j := 0) rfl
          have n1 := hx2.cell (j := 1) rfl
          have B2 := hid (below_via BR.out hb2)
          have X2 := hid (And.intro (XR.out.1.on hb2 XR.out.1.lt) (And.intro (XR.out.2.1.on hb2 XR.out.2.1.lt) (XR.out.2.2.on hb2 XR.out.2.2.lt)))
          have d2 := X2.out.2.2.cell (j := 0) rfl
          have g2 := X2.out.2.2.thaw 0
          have hG2 : G + 1 ≤ W2.heap.size := X2.out.2.2.lt
          have hNl : (loseTo l zs k).length ≤ 30 := by rw [loseTo_length (by omega)]; omega
          skip
          clear hW2 hb2 hx2 OR BR XR c0 c1 c2 f1 f2 x0 x1 x2
          obtain ⟨N, hN⟩ : ∃ N : Nat, l[k].kept = (N : Int) := ⟨(l[k].kept).toNat, by omega⟩
          have hNs : N ≤ l[k].text.size := by omega
          have q2 := slice_upto (P := Try.prog) Try.underlying9 l[k].text N (N : Int) rfl hNs
          have hlo : fileEnc (lostOf l[k] (zs.getD k 0)) = [.string l[k].name, .string (l[k].text.extract 0 N), .int .i64 (N : Int)] := by
            rw [lostOf, hval.out, hN]; rfl
          have HLO := hid hlo
          clear hval hlo
          have hown := OW.out
          have d2a : (W2.alloc (.cells #[.string l[k].name, .string (l[k].text.extract 0 N), .int .i64 (N : Int)] 77)).cell? ⟨G, 0, none⟩ = some v := ((below_more (Below.refl _ W2) _).cell (p := ⟨G, 0, none⟩) X2.out.2.2.lt).trans d2
          have hR := hid (fun w1 o h2 => behind_append (w := w) (w1 := w1) (o := o) (by omega) B2.out OW.out hG2 h2)
          go_region_law (refine step_append_lies _ rfl (.tmp 50) (.tmp 59) 24 rfl (G + 1) 77 i0 _ 3 40 Try.underlying24 hi hz0 hz1 hz2 rfl (by decide) _ (loseTo l zs k).length _ (by simp [Act.eval]) ((hown.alloc _).drew) ⟨W2.heap.size, 0, none⟩ 1 1 [.string l[k].name, .string (l[k].text.extract 0 N), .int .i64 (N : Int)] (by simp [Act.eval]) rfl (World.news_of_block (cs := #[.string l[k].name, .string (l[k].text.extract 0 N), .int .i64 (N : Int)]) (t := 77) (fr := (0, 0)) (heap_alloc_new W2 _)) (by simp [Value.oneCell']) (by decide) (by unfold maxLen; omega) (by omega) (by simp; omega) (W2.heap.size + 1) (by simp) ?_; intro g1 cap1 w1 hown1 hgrow hat hlt1; obtain ⟨B1, hz1', hk1⟩ := hR.out w1 _ hgrow; have y3 := (hk1 _ _ _ (Nat.lt_succ_self _) X2.out.2.2).cell (j := 0) rfl; have z3 := (hk1 _ _ _ (Nat.lt_succ_self _) X2.out.2.2).thaw 0)
          all_goals
            have hst := loseTo_step (zs := zs) hlt
            have hfc : fileCells (loseTo l zs (k + 1)) = fileCells (loseTo l zs k) ++ [.string l[k].name, .string (l[k].text.extract 0 N), .int .i64 (N : Int)] := by
              rw [hst, fileCells, List.flatMap_append, ← HLO.out]; simp [fileCells]
            have hfl : (loseTo l zs (k + 1)).length = (loseTo l zs k).length + 1 := by rw [hst]; simp
            have HO : Hid ((w1.setCell ⟨G, 0, none⟩ (.slice (some ⟨g1, 0, none⟩) ((loseTo l zs k).length + 1) cap1)).ownsRow (G + 1) 77 3 (.slice (some ⟨g1, 0, none⟩) ((loseTo l zs k).length + 1) cap1) (loseTo l zs (k + 1)).length (fileCells (loseTo l zs (k + 1)))) := by
              rw [hfc, hfl]
              exact ownsRow_setCell_below hown1 (Nat.lt_succ_self _) _
            have HX := hid (And.intro ((hk1 _ _ _ (by omega) X2.out.1).far (b := G) (j := 0) (by omega) (.slice (some ⟨g1, 0, none⟩) ((loseTo l zs k).length + 1) cap1)) (And.intro ((hk1 _ _ _ (by omega) X2.out.2.1).far (b := G) (j := 0) (by omega) (.slice (some ⟨g1, 0, none⟩) ((loseTo l zs k).length + 1) cap1)) ((hk1 _ _ _ (by omega) X2.out.2.2).set 0 (.slice (some ⟨g1, 0, none⟩) ((loseTo l zs k).length + 1) cap1))))
            have HB := hid (B1.setCell (p := ⟨G, 0, none⟩) (by show _ ≤ G; omega) (.slice (some ⟨g1, 0, none⟩) ((loseTo l zs k).length + 1) cap1))
            clear hown1 hgrow hat hlt1 B1 hz1' hk1 y3 z3 d2a hR hown OW X2 B2 n0 n1 d2 g2 hfc hfl hst q2 HLO
            go_wp2
            go_roundg q
            case measure => omega
            case rel => exact ⟨k + 1, _, by omega, by go_num, HB, HX, HO⟩
        · have hval : Hid (leftOf l[k] (zs.getD k 0) = (0 : Int)) := by show _ = _; rw [hget, leftOf, if_neg hB, if_neg hC]
          go_wp2
          generalize hW2 : wr.alloc (.cells #[.string l[k].name, .string l[k].text, .int .i64 l[k].kept] 77) = W2
          have hb2 : Below wr.heap.size wr W2 := by rw [← hW2]; exact below_more (Below.refl _ wr) _
          have hx2 : BlockIs W2 wr.heap.size 77 [.string l[k].name, .string l[k].text, .int .i64 l[k].kept] := by rw [← hW2]; exact heap_alloc_new wr _
          have OW : Hid (W2.ownsRow (G + 1) 77 3 v (loseTo l zs k).length (fileCells (loseTo l zs k))) := by rw [← hW2]; exact OR.out.alloc _
          have n0 := hx2.cell (j := 0) rfl
          have n1 := hx2.cell (j := 1) rfl
          have B2 := hid (below_via BR.out hb2)
          have X2 := hid (And.intro (XR.out.1.on hb2 XR.out.1.lt) (And.intro (XR.out.2.1.on hb2 XR.out.2.1.lt) (XR.out.2.2.on hb2 XR.out.2.2.lt)))
          have d2 := X2.out.2.2.cell (j := 0) rfl
          have g2 := X2.out.2.2.thaw 0
          have hG2 : G + 1 ≤ W2.heap.size := X2.out.2.2.lt
          have hNl : (loseTo l zs k).length ≤ 30 := by rw [loseTo_length (by omega)]; omega
          skip
          clear hW2 hb2 hx2 OR BR XR c0 c1 c2 f1 f2 x0 x1 x2
          have hNs : 0 ≤ l[k].text.size := by omega
          have q2 := slice_upto (P := Try.prog) Try.underlying9 l[k].text 0 0 rfl hNs
          have hlo : fileEnc (lostOf l[k] (zs.getD k 0)) = [.string l[k].name, .string ByteArray.empty, .int .i64 0] := by
            rw [lostOf, hval.out]; simp [fileEnc]
          have HLO := hid hlo
          clear hval hlo
          have hown := OW.out
          have d2a : (W2.alloc (.cells #[.string l[k].name, .string ByteArray.empty, .int .i64 0] 77)).cell? ⟨G, 0, none⟩ = some v := ((below_more (Below.refl _ W2) _).cell (p := ⟨G, 0, none⟩) X2.out.2.2.lt).trans d2
          have hR := hid (fun w1 o h2 => behind_append (w := w) (w1 := w1) (o := o) (by omega) B2.out OW.out hG2 h2)
          go_region_law (refine step_append_lies _ rfl (.tmp 50) (.tmp 59) 24 rfl (G + 1) 77 i0 _ 3 40 Try.underlying24 hi hz0 hz1 hz2 rfl (by decide) _ (loseTo l zs k).length _ (by simp [Act.eval]) ((hown.alloc _).drew) ⟨W2.heap.size, 0, none⟩ 1 1 [.string l[k].name, .string ByteArray.empty, .int .i64 0] (by simp [Act.eval]) rfl (World.news_of_block (cs := #[.string l[k].name, .string ByteArray.empty, .int .i64 0]) (t := 77) (fr := (0, 0)) (heap_alloc_new W2 _)) (by simp [Value.oneCell']) (by decide) (by unfold maxLen; omega) (by omega) (by simp; omega) (W2.heap.size + 1) (by simp) ?_; intro g1 cap1 w1 hown1 hgrow hat hlt1; obtain ⟨B1, hz1', hk1⟩ := hR.out w1 _ hgrow; have y3 := (hk1 _ _ _ (Nat.lt_succ_self _) X2.out.2.2).cell (j := 0) rfl; have z3 := (hk1 _ _ _ (Nat.lt_succ_self _) X2.out.2.2).thaw 0)
          all_goals
            have hst := loseTo_step (zs := zs) hlt
            have hfc : fileCells (loseTo l zs (k + 1)) = fileCells (loseTo l zs k) ++ [.string l[k].name, .string ByteArray.empty, .int .i64 0] := by
              rw [hst, fileCells, List.flatMap_append, ← HLO.out]; simp [fileCells]
            have hfl : (loseTo l zs (k + 1)).length = (loseTo l zs k).length + 1 := by rw [hst]; simp
            have HO : Hid ((w1.setCell ⟨G, 0, none⟩ (.slice (some ⟨g1, 0, none⟩) ((loseTo l zs k).length + 1) cap1)).ownsRow (G + 1) 77 3 (.slice (some ⟨g1, 0, none⟩) ((loseTo l zs k).length + 1) cap1) (loseTo l zs (k + 1)).length (fileCells (loseTo l zs (k + 1)))) := by
              rw [hfc, hfl]
              exact ownsRow_setCell_below hown1 (Nat.lt_succ_self _) _
            have HX := hid (And.intro ((hk1 _ _ _ (by omega) X2.out.1).far (b := G) (j := 0) (by omega) (.slice (some ⟨g1, 0, none⟩) ((loseTo l zs k).length + 1) cap1)) (And.intro ((hk1 _ _ _ (by omega) X2.out.2.1).far (b := G) (j := 0) (by omega) (.slice (some ⟨g1, 0, none⟩) ((loseTo l zs k).length + 1) cap1)) ((hk1 _ _ _ (by omega) X2.out.2.2).set 0 (.slice (some ⟨g1, 0, none⟩) ((loseTo l zs k).length + 1) cap1))))
            have HB := hid (B1.setCell (p := ⟨G, 0, none⟩) (by show _ ≤ G; omega) (.slice (some ⟨g1, 0, none⟩) ((loseTo l zs k).length + 1) cap1))
            clear hown1 hgrow hat hlt1 B1 hz1' hk1 y3 z3 d2a hR hown OW X2 B2 n0 n1 d2 g2 hfc hfl hst q2 HLO
            go_wp2
            go_roundg q
            case measure => omega
            case rel => exact ⟨k + 1, _, by omega, by go_num, HB, HX, HO⟩
end Go.Proofs.Ytbbohfagnnobgaa

namespace Go.Proofs.Ytbbohfagnnobgaa
open Go.RowKit

set_option maxRecDepth 1000000 in
theorem specLoseDisk_no (ao : Option Addr) (l : List FileD) (cap : Nat) (lo : Option Addr) (n lcap : Nat) (hl : l.length ≤ 16777216) (hd : diskOk l = false) (w : World) (ha : FilesAt w ao l) :
    Calls Try.prog 48 #[.agg #[.slice ao l.length cap], .slice lo n lcap] w fun e w' => e = .returned (.tuple #[.agg #[.slice none 0 0], .bool false]) ∧ Below w.heap.size w w' := by
  have HA := hid ha
  have hx1 : BlockIs ((w.alloc (.cells #[.slice ao l.length cap] 26)).alloc (.cells #[.slice none 0 0] 26)) (w.heap.size + 1) 26 [.slice none 0 0] := by
    have := heap_alloc_new (w.alloc (.cells #[.slice ao l.length cap] 26)) (.cells #[.slice none 0 0] 26)
    rw [show (w.alloc (.cells #[.slice ao l.length cap] 26)).heap.size = w.heap.size + 1 by simp [World.alloc, -World.alloc_eq]] at this
    exact this
  have HX := hid hx1
  have HB := hid (below_more (below_more (Below.refl w.heap.size w) (.cells #[.slice ao l.length cap] 26)) (.cells #[.slice none 0 0] 26))
  have C := hid (fun w ha => specDiskOk_any ao l cap hl w ha)
  rw [hd] at C
  clear ha hd hx1
  go_enter Try.func48, Try.ntmps48
  go_wp2_with fail
  refine (C.out _ (HA.out.on HB.out)).mono ?_
  rintro e w1 ⟨rfl, b1⟩
  have B1 := hid ((below_via HB.out b1).setCell (p := ⟨w.heap.size + 1, 0, none⟩) (by show _ ≤ _ + 1; omega) (.slice none 0 0))
  have X1 := HX.out.on b1 HX.out.lt
  have c1 := X1.cell (j := 0) rfl
  have f1 := X1.thaw 0
  clear b1 C HB HX X1
  go_wp2
  refine bodyPost_ret (v := .tuple #[.agg #[.slice none 0 0], .bool false]) (by simp [results, Try.results48, go_sem, c1]) rfl ⟨rfl, B1.out⟩
end Go.Proofs.Ytbbohfagnnobgaa

namespace Go.Proofs.Ytbbohfagnnobgaa
open Go.RowKit

/-- what LoseDisk answers -/
def loseAns (l : List FileD) (zs : List Int) : List FileD × Bool := if diskOk l = true then (loseTo l zs l.length, true) else ([], false)

theorem specLoseDisk_any (ao : Option Addr) (l : List FileD) (cap : Nat) (lo : Option Addr) (zs : List Int) (lcap : Nat) (hl : l.length ≤ 1048576) (hzl : zs.length ≤ 1048576) (w : World) (ha : FilesAt w ao l) (hz : IntsAt w lo zs) :
    Calls Try.prog 48 #[.agg #[.slice ao l.length cap], .slice lo zs.length lcap] w fun e w' => ∃ v, e = .returned (.tuple #[.agg #[v], .bool (loseAns l zs).2]) ∧ w'.ownsRow w.heap.size 77 3 v (loseAns l zs).1.length (fileCells (loseAns l zs).1) ∧ Below w.heap.size w w' := by
  unfold loseAns
  cases hd : diskOk l with
  | true => exact specLoseDisk_yes ao l cap lo zs lcap hzl hd w ha hz
  | false =>
    refine (specLoseDisk_no ao l cap lo zs.length lcap (by omega) hd w ha).mono ?_
    rintro e w' ⟨rfl, hb⟩
    exact ⟨_, rfl, ⟨rfl, Or.inl ⟨rfl, rfl⟩⟩, hb⟩
end Go.Proofs.Ytbbohfagnnobgaa
