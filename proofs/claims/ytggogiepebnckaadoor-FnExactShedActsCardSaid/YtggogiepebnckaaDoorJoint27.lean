/-
  The walk of spec.NewestSnap: what it answers, in memory of its own.
  The walk of spec.l03At: where the first file of a name is.
-/
import Derived.Test.YtggogiepebnckaaDoorJoint1
import Derived.Test.YtggogiepebnckaaDoorJoint14
import Derived.Test.YtggogiepebnckaaDoorJoint26
import Derived.Laws.Cover1
namespace Go.Proofs.YtggogiepebnckaaDoor
open Go.RowKit

/-- the index that is held as the greatest -/
def bestIx (o : Option SnapD) : Int := match o with | none => -1 | some d => d.ix

set_option maxRecDepth 1000000 in
set_option maxHeartbeats 8000000 in
theorem specNewest_any (ao : Option Addr) (l : List FileD) (cap : Nat) (hl : l.length ≤ 1048576) (hsm : ∀ f ∈ l, f.text.size ≤ 1048576) (hsn : ∀ f ∈ l, f.name.size ≤ 1048576) (w : World) (ha : FilesAt w ao l) :
    Calls Tryd.prog 13 #[.agg #[.slice ao l.length cap]] w fun e w' => snapAns (newestSnap l) w e w' := by
  have HA := hid ha
  have HSM := hid hsm
  have HSN := hid hsn
  have h3 := three_blocks w (.cells #[.slice ao l.length cap] 37) (.cells #[.int .i64 0, .int .i64 0, .slice none 0 0, .string ⟨#[]⟩] 24) (.cells #[.int .i64 (-1), .int .i64 0, .slice none 0 0, .string ⟨#[]⟩] 24)
  have D0 : Hid (BlockIs _ w.heap.size 37 [.slice ao l.length cap]) := h3.2.2.1
  have P0 : Hid (BlockIs _ (w.heap.size + 1) 24 [.int .i64 0, .int .i64 0, .slice none 0 0, .string ⟨#[]⟩]) := h3.2.2.2.1
  have N0 : Hid (BlockIs _ (w.heap.size + 1 + 1) 24 [.int .i64 (-1), .int .i64 0, .slice none 0 0, .string ⟨#[]⟩]) := h3.2.2.2.2
  have B0 := hid h3.1
  clear h3 ha hsm hsn
  cases hd : diskOk l with
  | false =>
    have HR := hid (newest_no hd)
    have cD := hid (fun w ha => specDiskOk_any ao l cap (by omega) w ha)
    rw [hd] at cD
    clear hd
    go_enter Tryd.func13, Tryd.ntmps13
    go_wp2
    go_loopg [5, 6, 7, 8] 0 (fun q i _ _ _ wr => q = 0 ∧ i = .int .i64 0 ∧ Hid (Below w.heap.size w wr) ∧ Hid (BlockIs wr w.heap.size 37 [.slice ao l.length cap]) ∧ Hid (BlockIs wr (w.heap.size + 1) 24 [.int .i64 0, .int .i64 0, .slice none 0 0, .string ⟨#[]⟩]) ∧ Hid (BlockIs wr (w.heap.size + 1 + 1) 24 [.int .i64 (-1), .int .i64 0, .slice none 0 0, .string ⟨#[]⟩]))
    case atStart => exact ⟨rfl, rfl, B0, D0, P0, N0⟩
    case round =>
      obtain ⟨rfl, rfl, BR, DR, PR, NR⟩ := hrel
      clear B0 D0 P0 N0
      have d0 := DR.out.cell (j := 0) rfl
      by_cases h0 : (0 : Int) < (l.length : Int)
      · go_wp2_with fail
        refine (cD.out _ (HA.out.on BR.out)).mono ?_
        rintro e w1 ⟨rfl, b1⟩
        have P1 := hid (PR.out.on b1 PR.out.lt)
        have N1 := hid (NR.out.on b1 NR.out.lt)
        have B1 := hid (below_via BR.out b1)
        clear b1 PR NR BR d0
        have n0 := N1.out.cell (j := 0) rfl
        have p0 := P1.out.cell (j := 0) rfl
        have p1 := P1.out.cell (j := 1) rfl
        have p2 := P1.out.cell (j := 2) rfl
        have p3 := P1.out.cell (j := 3) rfl
        have e0 := P1.out.thaw 0
        have e1 := P1.out.thaw 1
        have e2 := P1.out.thaw 2
        have e3 := P1.out.thaw 3
        have BL := hid ((((B1.out.setCell (p := ⟨w.heap.size + 1, 0, none⟩) (Nat.le_succ _) (.int .i64 0)).setCell (p := ⟨w.heap.size + 1, 1, none⟩) (Nat.le_succ _) (.int .i64 0)).setCell (p := ⟨w.heap.size + 1, 2, none⟩) (Nat.le_succ _) (.slice none 0 0)).setCell (p := ⟨w.heap.size + 1, 3, none⟩) (Nat.le_succ _) (.string ⟨#[]⟩))
        go_wp2
        refine bodyPost_ret (v := .tuple #[.agg #[.int .i64 0, .int .i64 0, .slice none 0 0, .string ⟨#[]⟩], .bool false]) (by simp [results, Tryd.results13, go_sem, p0, p1, p2, p3]) rfl ?_
        rw [HR.out]
        exact ⟨none, 0, rfl, own_nil _ _, BL.out⟩
      · have n0 := NR.out.cell (j := 0) rfl
        have p0 := PR.out.cell (j := 0) rfl
        have p1 := PR.out.cell (j := 1) rfl
        have p2 := PR.out.cell (j := 2) rfl
        have p3 := PR.out.cell (j := 3) rfl
        have e0 := PR.out.thaw 0
        have e1 := PR.out.thaw 1
        have e2 := PR.out.thaw 2
        have e3 := PR.out.thaw 3
        have BL := hid ((((BR.out.setCell (p := ⟨w.heap.size + 1, 0, none⟩) (Nat.le_succ _) (.int .i64 0)).setCell (p := ⟨w.heap.size + 1, 1, none⟩) (Nat.le_succ _) (.int .i64 0)).setCell (p := ⟨w.heap.size + 1, 2, none⟩) (Nat.le_succ _) (.slice none 0 0)).setCell (p := ⟨w.heap.size + 1, 3, none⟩) (Nat.le_succ _) (.string ⟨#[]⟩))
        go_wp2
        refine bodyPost_ret (v := .tuple #[.agg #[.int .i64 0, .int .i64 0, .slice none 0 0, .string ⟨#[]⟩], .bool false]) (by simp [results, Tryd.results13, go_sem, p0, p1, p2, p3]) rfl ?_
        rw [HR.out]
        exact ⟨none, 0, rfl, own_nil _ _, BL.out⟩
  | true =>
    have HD := hid (fun k (hk : l.length ≤ k) => newestTo_all hd hk)
    have cD := hid (fun w ha => specDiskOk_any ao l cap (by omega) w ha)
    rw [hd] at cD
    clear hd
    go_enter Tryd.func13, Tryd.ntmps13
    go_wp2
    go_loopg [5, 6, 7, 8] l.length (fun q i _ _ _ wr => ∃ (k : Nat), k + q = l.length ∧ i = .int .i64 k ∧ Hid (Below w.heap.size w wr) ∧ Hid (BlockIs wr w.heap.size 37 [.slice ao l.length cap]) ∧ Hid (BlockIs wr (w.heap.size + 1) 24 [.int .i64 0, .int .i64 0, .slice none 0 0, .string ⟨#[]⟩]) ∧ ∃ va vc, Hid (BlockIs wr (w.heap.size + 1 + 1) 24 [.int .i64 (bestIx (newestTo l k)), .int .i64 (snapTm (newestTo l k)), .slice va (snapZs (newestTo l k)).length vc, .string (snapBd (newestTo l k))]) ∧ Hid (wr.ownsRow w.heap.size 3 1 (.slice va (snapZs (newestTo l k)).length vc) (snapZs (newestTo l k)).length (intCells (snapZs (newestTo l k)))))
    case atStart =>
      refine ⟨0, by omega, rfl, B0, D0, P0, none, 0, ?_, ?_⟩
      · rw [newestTo_zero]; exact N0
      · rw [newestTo_zero]; exact own_nil _ _
    case round =>
      obtain ⟨k, hkg, rfl, BR, DR, PR, va, vc, NR, OR⟩ := hrel
      clear B0 P0 N0 D0
      have d0 := DR.out.cell (j := 0) rfl
      cases gk with
      | zero =>
        have hlt : ¬ (k : Int) < (l.length : Int) := by omega
        have HR := hid (HD.out k (by omega))
        obtain ⟨o, ho⟩ : ∃ o, newestTo l k = o := ⟨_, rfl⟩
        rw [ho] at NR OR HR
        clear ho cD
        have n0 := NR.out.cell (j := 0) rfl
        have n1 := NR.out.cell (j := 1) rfl
        have n2 := NR.out.cell (j := 2) rfl
        have n3 := NR.out.cell (j := 3) rfl
        have p0 := PR.out.cell (j := 0) rfl
        have p1 := PR.out.cell (j := 1) rfl
        have p2 := PR.out.cell (j := 2) rfl
        have p3 := PR.out.cell (j := 3) rfl
        have e0 := PR.out.thaw 0
        have e1 := PR.out.thaw 1
        have e2 := PR.out.thaw 2
        have e3 := PR.out.thaw 3
        cases o with
        | none =>
          have n0' : wr.cell? ⟨w.heap.size + 1 + 1, 0, none⟩ = some (.int .i64 (-1)) := n0
          have BL := hid ((((BR.out.setCell (p := ⟨w.heap.size + 1, 0, none⟩) (Nat.le_succ _) (.int .i64 0)).setCell (p := ⟨w.heap.size + 1, 1, none⟩) (Nat.le_succ _) (.int .i64 0)).setCell (p := ⟨w.heap.size + 1, 2, none⟩) (Nat.le_succ _) (.slice none 0 0)).setCell (p := ⟨w.heap.size + 1, 3, none⟩) (Nat.le_succ _) (.string ⟨#[]⟩))
          clear n0
          go_wp2
          refine bodyPost_ret (v := .tuple #[.agg #[.int .i64 0, .int .i64 0, .slice none 0 0, .string ⟨#[]⟩], .bool false]) (by simp [results, Tryd.results13, go_sem, p0, p1, p2, p3]) rfl ?_
          rw [HR.out]
          exact ⟨none, 0, rfl, own_nil _ _, BL.out⟩
        | some s =>
          have n0' : wr.cell? ⟨w.heap.size + 1 + 1, 0, none⟩ = some (.int .i64 (s.ix : Int)) := n0
          have n1' : wr.cell? ⟨w.heap.size + 1 + 1, 1, none⟩ = some (.int .i64 (s.tm : Int)) := n1
          have n2' : wr.cell? ⟨w.heap.size + 1 + 1, 2, none⟩ = some (.slice va s.conf.length vc) := n2
          have n3' : wr.cell? ⟨w.heap.size + 1 + 1, 3, none⟩ = some (.string s.body) := n3
          have BL := hid ((((BR.out.setCell (p := ⟨w.heap.size + 1, 0, none⟩) (Nat.le_succ _) (.int .i64 (s.ix : Int))).setCell (p := ⟨w.heap.size + 1, 1, none⟩) (Nat.le_succ _) (.int .i64 (s.tm : Int))).setCell (p := ⟨w.heap.size + 1, 2, none⟩) (Nat.le_succ _) (.slice va s.conf.length vc)).setCell (p := ⟨w.heap.size + 1, 3, none⟩) (Nat.le_succ _) (.string s.body))
          have OL := hid (own_put (own_put (own_put (own_put OR.out PR.out (by decide) (j := 0) (u := .int .i64 (s.ix : Int))) (PR.out.set 0 (.int .i64 (s.ix : Int))) (by decide) (j := 1) (u := .int .i64 (s.tm : Int))) ((PR.out.set 0 (.int .i64 (s.ix : Int))).set 1 (.int .i64 (s.tm : Int))) (by decide) (j := 2) (u := .slice va s.conf.length vc)) (((PR.out.set 0 (.int .i64 (s.ix : Int))).set 1 (.int .i64 (s.tm : Int))).set 2 (.slice va s.conf.length vc)) (by decide) (j := 3) (u := .string s.body))
          clear n0 n1 n2 n3
          go_wp2
          refine bodyPost_ret (v := .tuple #[.agg #[.int .i64 (s.ix : Int), .int .i64 (s.tm : Int), .slice va s.conf.length vc, .string s.body], .bool true]) (by simp [results, Tryd.results13, go_sem, p0, p1, p2, p3]) rfl ?_
          rw [HR.out]
          exact ⟨va, vc, rfl, OL.out, BL.out⟩
      | succ q =>
        have hlt : k < l.length := by omega
        have hlt' : (k : Int) < (l.length : Int) := by omega
        have hne : l ≠ [] := by intro e; rw [e] at hlt; simp at hlt
        have HST := hid (newestTo_step hlt)
        have hts := HSM.out l[k] (List.getElem_mem hlt)
        have hns := HSN.out l[k] (List.getElem_mem hlt)
        go_wp2_with fail
        refine (cD.out _ (HA.out.on BR.out)).mono ?_
        rintro e w1 ⟨rfl, b1⟩
        have D1 := hid (DR.out.on b1 DR.out.lt)
        have P1 := hid (PR.out.on b1 PR.out.lt)
        have N1 := hid (NR.out.on b1 NR.out.lt)
        have O1 := hid (kept_conf OR.out b1)
        have B1 := hid (below_via BR.out b1)
        clear b1 DR PR NR OR BR d0 cD
        obtain ⟨b, off, rfl, hc⟩ := HA.out.on B1.out hne
        obtain ⟨x0, x1, x2⟩ := hc k hlt
        have d0 := D1.out.cell (j := 0) rfl
        clear hc
        obtain ⟨o, ho⟩ : ∃ o, newestTo l k = o := ⟨_, rfl⟩
        rw [ho] at N1 O1 HST
        clear ho
        obtain ⟨f, hf⟩ : ∃ f, l[k] = f := ⟨_, rfl⟩
        rw [hf] at HST hts hns x0 x1 x2
        have HF := hid hf
        clear hf
        go_wp2_with fail
        refine (l08Index_any f.name hns _).mono ?_
        rintro e w2 ⟨rfl, b2⟩
        have D2 := hid (D1.out.on b2 D1.out.lt)
        have P2 := hid (P1.out.on b2 P1.out.lt)
        have N2 := hid (N1.out.on b2 N1.out.lt)
        have O2 := hid (kept_conf O1.out b2)
        have B2 := hid (below_via B1.out b2)
        clear b2 D1 P1 N1 O1 B1 d0 x0 x1 x2
        obtain ⟨b', off', hbo, hc⟩ := HA.out.on B2.out hne
        cases hbo
        obtain ⟨x0, x1, x2⟩ := hc k hlt
        have d0 := D2.out.cell (j := 0) rfl
        rw [HF.out] at x0 x1 x2
        clear hc
        go_wp2_with fail
        refine ((specReadSnap_any f.text hts _).mono (fun e w' h => snapDid_parts h)).mono ?_
        rintro e w3 ⟨a2, c2, rfl, o2, b2⟩
        obtain ⟨r, hr⟩ : ∃ r, readSnap f.text = r := ⟨_, rfl⟩
        rw [hr] at o2 ⊢
        have hx3 : BlockIs (w3.alloc (.cells #[.int .i64 (snapIx r), .int .i64 (snapTm r), .slice a2 (snapZs r).length c2, .string (snapBd r)] 24)) w3.heap.size 24 [.int .i64 (snapIx r), .int .i64 (snapTm r), .slice a2 (snapZs r).length c2, .string (snapBd r)] := heap_alloc_new w3 _
        have bx := below_more (Below.refl w3.heap.size w3) (.cells #[.int .i64 (snapIx r), .int .i64 (snapTm r), .slice a2 (snapZs r).length c2, .string (snapBd r)] 24)
        have b23 := below_via b2 bx
        have X3 := hid hx3
        have R3 := hid (kept_conf (row_down o2 B2.out.size) bx)
        have D3 := hid (D2.out.on b23 D2.out.lt)
        have P3 := hid (P2.out.on b23 P2.out.lt)
        have N3 := hid (N2.out.on b23 N2.out.lt)
        have O3 := hid (kept_conf O2.out b23)
        have B3 := hid (below_via B2.out b23)
        have hNl : w.heap.size + 1 + 1 < w3.heap.size := by have := N2.out.lt; have := b2.size; omega
        clear hx3 bx b23 o2 b2 D2 P2 N2 O2 B2 x0 x1 x2 d0
        have HSTAY : Hid (newestTo l (k + 1) = o → ∃ va vc, Hid (BlockIs (w3.alloc (.cells #[.int .i64 (snapIx r), .int .i64 (snapTm r), .slice a2 (snapZs r).length c2, .string (snapBd r)] 24)) (w.heap.size + 1 + 1) 24 [.int .i64 (bestIx (newestTo l (k + 1))), .int .i64 (snapTm (newestTo l (k + 1))), .slice va (snapZs (newestTo l (k + 1))).length vc, .string (snapBd (newestTo l (k + 1)))]) ∧ Hid (World.ownsRow (w3.alloc (.cells #[.int .i64 (snapIx r), .int .i64 (snapTm r), .slice a2 (snapZs r).length c2, .string (snapBd r)] 24)) w.heap.size 3 1 (.slice va (snapZs (newestTo l (k + 1))).length vc) (snapZs (newestTo l (k + 1))).length (intCells (snapZs (newestTo l (k + 1)))))) := fun h => by
          refine ⟨va, vc, ?_, ?_⟩
          · rw [h]; exact N3
          · rw [h]; exact O3
        cases hn : nameNum 115 1000000 f.name with
        | none =>
          rw [newer_no (fileSnap_name hn)] at HST
          rw [show nameAns none = -1 from rfl]
          have HQ := hid (HSTAY.out HST.out)
          clear hn hr HSTAY X3 R3 N3 O3 HST
          go_wp2
          go_roundg q
          case measure => omega
          case rel => exact ⟨k + 1, by omega, by go_num, B3, D3, P3, HQ.out⟩
        | some n =>
          rw [show nameAns (some n) = (n : Int) from rfl]
          have HPK := hid (fileSnap_pick hn)
          rw [hr] at HPK
          clear hn hr
          have hn0 : (0 : Int) ≤ (n : Int) := by omega
          cases r with
          | none =>
            rw [newer_no HPK.out] at HST
            rw [show (none : Option SnapD).isSome = false from rfl]
            have HQ := hid (HSTAY.out HST.out)
            clear HSTAY X3 R3 N3 O3 HST HPK
            go_wp2
            go_roundg q
            case measure => omega
            case rel => exact ⟨k + 1, by omega, by go_num, B3, D3, P3, HQ.out⟩
          | some s =>
            rw [show (some s : Option SnapD).isSome = true from rfl]
            by_cases heq : s.ix = n
            · have hfs := HPK.out.trans (pick_yes heq)
              subst heq
              have hq0 : ((s.ix : Int) == (s.ix : Int)) = true := by simp
              obtain ⟨W3, hW3⟩ : ∃ W, w3.alloc (.cells #[.int .i64 (snapIx (some s)), .int .i64 (snapTm (some s)), .slice a2 (snapZs (some s)).length c2, .string (snapBd (some s))] 24) = W := ⟨_, rfl⟩
              rw [hW3] at X3 R3 D3 P3 N3 O3 B3 HSTAY
              obtain ⟨g, hg⟩ : ∃ g, w3.heap.size = g := ⟨_, rfl⟩
              rw [hg] at X3 hNl
              have x0 : W3.cell? ⟨g, 0, none⟩ = some (.int .i64 (s.ix : Int)) := X3.out.cell (j := 0) rfl
              have x1 : W3.cell? ⟨g, 1, none⟩ = some (.int .i64 (s.tm : Int)) := X3.out.cell (j := 1) rfl
              have x2 : W3.cell? ⟨g, 2, none⟩ = some (.slice a2 s.conf.length c2) := X3.out.cell (j := 2) rfl
              have x3 : W3.cell? ⟨g, 3, none⟩ = some (.string s.body) := X3.out.cell (j := 3) rfl
              have hw3 : w3.alloc (.cells #[.int .i64 (s.ix : Int), .int .i64 (s.tm : Int), .slice a2 s.conf.length c2, .string s.body] 24) = W3 := hW3
              clear hW3
              rw [show snapIx (some s) = (s.ix : Int) from rfl, show snapTm (some s) = (s.tm : Int) from rfl, show snapZs (some s) = s.conf from rfl, show snapBd (some s) = s.body from rfl]
              have n1 := N3.out.cell (j := 1) rfl
              have n2 := N3.out.cell (j := 2) rfl
              have n3 := N3.out.cell (j := 3) rfl
              have e0 := N3.out.thaw 0
              have e1 := N3.out.thaw 1
              have e2 := N3.out.thaw 2
              have e3 := N3.out.thaw 3
              have hg2 : w.heap.size ≤ w.heap.size + 1 + 1 := by omega
              have hg3 : w.heap.size + 1 + 1 ≠ w.heap.size + 1 := by omega
              have hg4 : w.heap.size + 1 + 1 ≠ w.heap.size := by omega
              have BL := hid ((((B3.out.setCell (p := ⟨w.heap.size + 1 + 1, 0, none⟩) hg2 (.int .i64 (s.ix : Int))).setCell (p := ⟨w.heap.size + 1 + 1, 1, none⟩) hg2 (.int .i64 (s.tm : Int))).setCell (p := ⟨w.heap.size + 1 + 1, 2, none⟩) hg2 (.slice a2 s.conf.length c2)).setCell (p := ⟨w.heap.size + 1 + 1, 3, none⟩) hg2 (.string s.body))
              have NL := hid ((((N3.out.set 0 (.int .i64 (s.ix : Int))).set 1 (.int .i64 (s.tm : Int))).set 2 (.slice a2 s.conf.length c2)).set 3 (.string s.body))
              have PL := hid ((((P3.out.far (b := w.heap.size + 1 + 1) (j := 0) hg3 (.int .i64 (s.ix : Int))).far (b := w.heap.size + 1 + 1) (j := 1) hg3 (.int .i64 (s.tm : Int))).far (b := w.heap.size + 1 + 1) (j := 2) hg3 (.slice a2 s.conf.length c2)).far (b := w.heap.size + 1 + 1) (j := 3) hg3 (.string s.body))
              have DL := hid ((((D3.out.far (b := w.heap.size + 1 + 1) (j := 0) hg4 (.int .i64 (s.ix : Int))).far (b := w.heap.size + 1 + 1) (j := 1) hg4 (.int .i64 (s.tm : Int))).far (b := w.heap.size + 1 + 1) (j := 2) hg4 (.slice a2 s.conf.length c2)).far (b := w.heap.size + 1 + 1) (j := 3) hg4 (.string s.body))
              have OL := hid (own_put (own_put (own_put (own_put R3.out N3.out (by decide) (j := 0) (u := .int .i64 (s.ix : Int))) (N3.out.set 0 (.int .i64 (s.ix : Int))) (by decide) (j := 1) (u := .int .i64 (s.tm : Int))) ((N3.out.set 0 (.int .i64 (s.ix : Int))).set 1 (.int .i64 (s.tm : Int))) (by decide) (j := 2) (u := .slice a2 s.conf.length c2)) (((N3.out.set 0 (.int .i64 (s.ix : Int))).set 1 (.int .i64 (s.tm : Int))).set 2 (.slice a2 s.conf.length c2)) (by decide) (j := 3) (u := .string s.body))
              clear hg2 hg3 hg4 R3 X3
              cases o with
              | none =>
                rw [newer_first hfs] at HST
                have n0 : W3.cell? ⟨w.heap.size + 1 + 1, 0, none⟩ = some (.int .i64 (-1)) := N3.out.cell (j := 0) rfl
                clear hfs HPK HSTAY
                go_wp2
                go_roundg q
                case measure => omega
                case rel =>
                  refine ⟨k + 1, by omega, by go_num, BL, DL, PL, a2, c2, ?_, ?_⟩
                  · rw [HST.out]; exact NL
                  · rw [HST.out]; exact OL
              | some d =>
                have n0 : W3.cell? ⟨w.heap.size + 1 + 1, 0, none⟩ = some (.int .i64 (d.ix : Int)) := N3.out.cell (j := 0) rfl
                by_cases hlx : (d.ix : Int) < (s.ix : Int)
                · rw [newer_more hfs (by omega)] at HST
                  clear hfs HPK HSTAY
                  go_wp2
                  go_roundg q
                  case measure => omega
                  case rel =>
                    refine ⟨k + 1, by omega, by go_num, BL, DL, PL, a2, c2, ?_, ?_⟩
                    · rw [HST.out]; exact NL
                    · rw [HST.out]; exact OL
                · rw [newer_less hfs (by omega)] at HST
                  have HQ := hid (HSTAY.out HST.out)
                  clear hfs HPK HSTAY HST
                  go_wp2
                  go_roundg q
                  case measure => omega
                  case rel => exact ⟨k + 1, by omega, by go_num, B3, D3, P3, HQ.out⟩
            · rw [newer_no (HPK.out.trans (pick_no heq))] at HST
              have hq0 : ((s.ix : Int) == (n : Int)) = false := by simp; omega
              have hq1 : ¬ (s.ix : Int) = (n : Int) := by omega
              have HQ := hid (HSTAY.out HST.out)
              have x0 : (w3.alloc (.cells #[.int .i64 (snapIx (some s)), .int .i64 (snapTm (some s)), .slice a2 (snapZs (some s)).length c2, .string (snapBd (some s))] 24)).cell? ⟨w3.heap.size, 0, none⟩ = some (.int .i64 (s.ix : Int)) := X3.out.cell (j := 0) rfl
              rw [show snapIx (some s) = (s.ix : Int) from rfl] at B3 D3 P3 HQ x0 ⊢
              clear HSTAY X3 R3 N3 O3 HST HPK
              go_wp2
              go_roundg q
              case measure => omega
              case rel => exact ⟨k + 1, by omega, by go_num, B3, D3, P3, HQ.out⟩
end Go.Proofs.YtggogiepebnckaaDoor

namespace Go.Proofs.YtggogiepebnckaaDoor
open Go.RowKit

/-- the first file of a name -/
def FirstAt (l : List FileD) (name : ByteArray) (k : Nat) : Prop := ∃ hk : k < l.length, l[k].name = name ∧ ∀ j (hj : j < k), l[j].name ≠ name
def NoneAt (l : List FileD) (name : ByteArray) : Prop := ∀ j (hj : j < l.length), l[j].name ≠ name

/-- what FileAt answers -/
def FileAns (l : List FileD) (name T : ByteArray) (ok : Bool) : Prop :=
  (∃ (k : Nat) (hk : k < l.length), FirstAt l name k ∧ T = l[k].text ∧ ok = true) ∨ (NoneAt l name ∧ T = ByteArray.empty ∧ ok = false)
theorem FirstAt.same {l : List FileD} {name : ByteArray} {j k : Nat} (h : FirstAt l name j) (h2 : FirstAt l name k) : j = k := by
  obtain ⟨a, b, c⟩ := h
  obtain ⟨a2, b2, c2⟩ := h2
  rcases Nat.lt_trichotomy j k with q | q | q
  · exact absurd b (c2 j q)
  · exact q
  · exact absurd b2 (c k q)
theorem FileAns.same {l : List FileD} {name T T' : ByteArray} {ok ok' : Bool} (h : FileAns l name T ok) (h2 : FileAns l name T' ok') : T = T' ∧ ok = ok' := by
  rcases h with ⟨k, hk, f, rfl, rfl⟩ | ⟨n, rfl, rfl⟩
  · rcases h2 with ⟨k2, hk2, f2, rfl, rfl⟩ | ⟨n2, rfl, rfl⟩
    · have := f.same f2
      subst this
      exact ⟨rfl, rfl⟩
    · exact absurd f.2.1 (n2 k hk)
  · rcases h2 with ⟨k2, hk2, f2, rfl, rfl⟩ | ⟨n2, rfl, rfl⟩
    · exact absurd f2.2.1 (n k2 hk2)
    · exact ⟨rfl, rfl⟩

theorem text_eq {s t : ByteArray} (h : s.toList = t.toList) : s = t := by
  rw [ByteArray.toList_eq, ByteArray.toList_eq] at h
  exact ByteArray.ext (Array.toList_inj.1 h)

set_option maxRecDepth 1000000 in
set_option maxHeartbeats 1000000 in
theorem l03At_any (ao : Option Addr) (l : List FileD) (cap : Nat) (name : ByteArray) (hl : l.length ≤ 1048576) (w : World) (ha : FilesAt w ao l) :
    Calls Tryd.prog 82 #[.agg #[.slice ao l.length cap], .string name] w fun e w' => ((∃ k : Nat, FirstAt l name k ∧ e = .returned (.int .i64 k)) ∨ (NoneAt l name ∧ e = .returned (.int .i64 (-1)))) ∧ Below w.heap.size w w' := by
  have HA := hid ha
  have HB := hid (below_more (Below.refl w.heap.size w) (.cells #[.slice ao l.length cap] 37))
  have HX := (show Hid (BlockIs (w.alloc (.cells #[.slice ao l.length cap] 37)) w.heap.size 37 [.slice ao l.length cap]) from heap_alloc_new w _)
  have c0 := HX.out.cell (j := 0) rfl
  clear ha
  obtain ⟨W, hW⟩ : ∃ W, w.alloc (.cells #[.slice ao l.length cap] 37) = W := ⟨_, rfl⟩
  rw [hW] at HB HX c0
  go_enter Tryd.func82, Tryd.ntmps82
  go_wp2
  clear hW
  go_loopg [5] l.length (fun q i wr => wr = W ∧ ∃ (k : Nat), k + q = l.length ∧ i = .int .i64 k ∧ Hid (∀ j (hj : j < l.length), j < k → l[j].name ≠ name))
  case atStart => exact ⟨rfl, 0, by omega, rfl, fun j hj h => by omega⟩
  case round =>
    obtain ⟨rfl, k, hkg, rfl, HN⟩ := hrel
    cases gk with
    | zero =>
      have hlt : ¬ (k : Int) < (l.length : Int) := by omega
      go_wp2
      go_ret
      exact ⟨Or.inr ⟨fun j hj => HN.out j hj (by omega), rfl⟩, HB.out⟩
    | succ q =>
      have hlt : k < l.length := by omega
      have hlt' : (k : Int) < (l.length : Int) := by omega
      have hne : l ≠ [] := by intro e; rw [e] at hlt; simp at hlt
      obtain ⟨b, off, rfl, hc⟩ := HA.out.on HB.out hne
      obtain ⟨x0, x1, x2⟩ := hc k hlt
      clear hc x1 x2
      by_cases he : l[k].name = name
      · have he' : (l[k].name.toList == name.toList) = true := by rw [he]; simp
        have HE := hid he
        clear he
        go_wp2
        go_ret
        exact ⟨Or.inl ⟨k, ⟨hlt, HE.out, fun j hj => HN.out j (by omega) hj⟩, rfl⟩, HB.out⟩
      · have he' : (l[k].name.toList == name.toList) = false := beq_eq_false_iff_ne.2 fun h => he (text_eq h)
        have HE := hid he
        clear he
        go_wp2
        go_roundg q
        case measure => omega
        case rel =>
          refine ⟨rfl, k + 1, by omega, by go_num, fun j hj h => ?_⟩
          rcases Nat.lt_or_ge j k with q | q
          · exact HN.out j hj q
          · obtain rfl : j = k := by omega
            exact HE.out
end Go.Proofs.YtggogiepebnckaaDoor
