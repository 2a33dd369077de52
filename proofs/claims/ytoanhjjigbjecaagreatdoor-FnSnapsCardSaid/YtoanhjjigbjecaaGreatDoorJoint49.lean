/-
  The walk of impl.NewestSnap: what it answers, in memory of its own.
-/
import Derived.Test.YtoanhjjigbjecaaGreatDoorJoint48
import Derived.Test.YtoanhjjigbjecaaGreatDoorJoint26
namespace Go.Proofs.YtoanhjjigbjecaaGreatDoor
open Go.RowKit

set_option maxRecDepth 1000000 in
set_option maxHeartbeats 8000000 in
theorem implNewest_any (ao : Option Addr) (l : List FileD) (cap : Nat) (hl : l.length ≤ 1048576) (hsm : ∀ f ∈ l, f.text.size ≤ 1048576) (w : World) (ha : FilesAt w ao l) (ht : Steps w) :
    Calls Tryz.prog 12 #[.agg #[.slice ao l.length cap]] w fun e w' => snapAns (newestSnap l) w e w' := by
  have HA := hid ha
  have HT := hid ht
  have HSM := hid hsm
  have h3 := three_blocks w (.cells #[.slice ao l.length cap] 26) (.cells #[.int .i64 0, .int .i64 0, .slice none 0 0, .string ⟨#[]⟩] 29) (.cells #[.int .i64 0, .int .i64 0, .slice none 0 0, .string ⟨#[]⟩] 29)
  have D0 : Hid (BlockIs _ w.heap.size 26 [.slice ao l.length cap]) := h3.2.2.1
  have P0 : Hid (BlockIs _ (w.heap.size + 1) 29 [.int .i64 0, .int .i64 0, .slice none 0 0, .string ⟨#[]⟩]) := h3.2.2.2.1
  have N0 : Hid (BlockIs _ (w.heap.size + 1 + 1) 29 [.int .i64 0, .int .i64 0, .slice none 0 0, .string ⟨#[]⟩]) := h3.2.2.2.2
  have B0 := hid h3.1
  clear h3 ha ht hsm
  go_enter Tryz.func12, Tryz.ntmps12
  go_wp2_with fail
  refine (implDiskOk_any ao l cap (by omega) _ (HA.out.on B0.out)).mono ?_
  rintro e w1 ⟨rfl, b1⟩
  have D1 := hid (D0.out.on b1 D0.out.lt)
  have P1 := hid (P0.out.on b1 P0.out.lt)
  have N1 := hid (N0.out.on b1 N0.out.lt)
  have B1 := hid (below_via B0.out b1)
  clear b1 D0 P0 N0 B0
  cases hd : diskOk l with
  | false =>
    have HR := hid (newest_no hd)
    have n0 := N1.out.cell (j := 0) rfl
    have n1 := N1.out.cell (j := 1) rfl
    have n2 := N1.out.cell (j := 2) rfl
    have n3 := N1.out.cell (j := 3) rfl
    have p0 := P1.out.cell (j := 0) rfl
    have p1 := P1.out.cell (j := 1) rfl
    have p2 := P1.out.cell (j := 2) rfl
    have p3 := P1.out.cell (j := 3) rfl
    have e0 := P1.out.thaw 0
    have e1 := P1.out.thaw 1
    have e2 := P1.out.thaw 2
    have e3 := P1.out.thaw 3
    have BL := hid ((((B1.out.setCell (p := ⟨w.heap.size + 1, 0, none⟩) (Nat.le_succ _) (.int .i64 0)).setCell (p := ⟨w.heap.size + 1, 1, none⟩) (Nat.le_succ _) (.int .i64 0)).setCell (p := ⟨w.heap.size + 1, 2, none⟩) (Nat.le_succ _) (.slice none 0 0)).setCell (p := ⟨w.heap.size + 1, 3, none⟩) (Nat.le_succ _) (.string ⟨#[]⟩))
    clear hd
    go_wp2
    refine bodyPost_ret (v := .tuple #[.agg #[.int .i64 0, .int .i64 0, .slice none 0 0, .string ⟨#[]⟩], .bool false]) (by simp [results, Tryz.results12, go_sem, p0, p1, p2, p3]) rfl ?_
    rw [HR.out]
    exact ⟨none, 0, rfl, own_nil _ _, BL.out⟩
  | true =>
    have HD := hid (fun k (hk : l.length ≤ k) => newestTo_all hd hk)
    have d0 := D1.out.cell (j := 0) rfl
    clear hd
    go_wp2
    go_loopg [5, 7, 8, 9, 19] l.length (fun q th _ _ _ i wr => ∃ (k : Nat), k + q = l.length ∧ i = .int .i64 k ∧ th = .bool (newestTo l k).isSome ∧ Hid (Below w.heap.size w wr) ∧ Hid (BlockIs wr (w.heap.size + 1) 29 [.int .i64 0, .int .i64 0, .slice none 0 0, .string ⟨#[]⟩]) ∧ ∃ va vc, Hid (BlockIs wr (w.heap.size + 1 + 1) 29 [.int .i64 (snapIx (newestTo l k)), .int .i64 (snapTm (newestTo l k)), .slice va (snapZs (newestTo l k)).length vc, .string (snapBd (newestTo l k))]) ∧ Hid (wr.ownsRow w.heap.size 3 1 (.slice va (snapZs (newestTo l k)).length vc) (snapZs (newestTo l k)).length (intCells (snapZs (newestTo l k)))))
    case atStart =>
      refine ⟨0, by omega, rfl, by rw [newestTo_zero]; rfl, B1, P1, none, 0, ?_, ?_⟩
      · rw [newestTo_zero]; exact N1
      · rw [newestTo_zero]; exact own_nil _ _
    case round =>
      obtain ⟨k, hkg, rfl, rfl, BR, PR, va, vc, NR, OR⟩ := hrel
      clear B1 P1 N1 D1
      cases gk with
      | zero =>
        have hlt : ¬ (k : Int) < (l.length : Int) := by omega
        have HR := hid (HD.out k (by omega))
        obtain ⟨o, ho⟩ : ∃ o, newestTo l k = o := ⟨_, rfl⟩
        rw [ho] at NR OR HR ⊢
        clear ho
        have n0 := NR.out.cell (j := 0) rfl
        have n1 := NR.out.cell (j := 1) rfl
        have n2 := NR.out.cell (j := 2) rfl
        have n3 := NR.out.cell (j := 3) rfl
        have p0 := PR.out.cell (j := 0) rfl
        have p1 := PR.out.cell (j := 1) rfl
        have p2 := PR.out.cell (j := 2) rfl
        have p3 := PR.out.cell (j := 3) rfl
        have e0 := PR.out.thaw 0
        have e1 := PR.out.thaw 1
        have e2 := PR.out.thaw 2
        have e3 := PR.out.thaw 3
        have BL := hid ((((BR.out.setCell (p := ⟨w.heap.size + 1, 0, none⟩) (Nat.le_succ _) (.int .i64 (snapIx o))).setCell (p := ⟨w.heap.size + 1, 1, none⟩) (Nat.le_succ _) (.int .i64 (snapTm o))).setCell (p := ⟨w.heap.size + 1, 2, none⟩) (Nat.le_succ _) (.slice va (snapZs o).length vc)).setCell (p := ⟨w.heap.size + 1, 3, none⟩) (Nat.le_succ _) (.string (snapBd o)))
        have OL := hid (own_put (own_put (own_put (own_put OR.out PR.out (by decide) (j := 0) (u := .int .i64 (snapIx o))) (PR.out.set 0 (.int .i64 (snapIx o))) (by decide) (j := 1) (u := .int .i64 (snapTm o))) ((PR.out.set 0 (.int .i64 (snapIx o))).set 1 (.int .i64 (snapTm o))) (by decide) (j := 2) (u := .slice va (snapZs o).length vc)) (((PR.out.set 0 (.int .i64 (snapIx o))).set 1 (.int .i64 (snapTm o))).set 2 (.slice va (snapZs o).length vc)) (by decide) (j := 3) (u := .string (snapBd o)))
        go_wp2
        refine bodyPost_ret (v := .tuple #[.agg #[.int .i64 (snapIx o), .int .i64 (snapTm o), .slice va (snapZs o).length vc, .string (snapBd o)], .bool o.isSome]) (by simp [results, Tryz.results12, go_sem, p0, p1, p2, p3]) rfl ?_
        rw [HR.out]
        exact ⟨va, vc, rfl, OL.out, BL.out⟩
      | succ q =>
        have hlt : k < l.length := by omega
        have hlt' : (k : Int) < (l.length : Int) := by omega
        have hne : l ≠ [] := by intro e; rw [e] at hlt; simp at hlt
        obtain ⟨b, off, rfl, hc⟩ := HA.out.on BR.out hne
        obtain ⟨x0, x1, x2⟩ := hc k hlt
        clear hc d0
        have HST := hid (newestTo_step hlt)
        have hts := HSM.out l[k] (List.getElem_mem hlt)
        have bx := below_more (Below.refl wr.heap.size wr) (.cells #[.string l[k].name, .string l[k].text, .int .i64 l[k].kept] 61)
        have BA := hid (below_via BR.out bx)
        have PA := hid (PR.out.on bx PR.out.lt)
        have NA := hid (NR.out.on bx NR.out.lt)
        have OA := hid (kept_conf OR.out bx)
        clear bx PR NR OR BR
        obtain ⟨o, ho⟩ : ∃ o, newestTo l k = o := ⟨_, rfl⟩
        rw [ho] at NA OA HST ⊢
        clear ho
        obtain ⟨f, hf⟩ : ∃ f, l[k] = f := ⟨_, rfl⟩
        rw [hf] at HST hts x0 x1 x2 BA PA NA OA
        clear hf
        go_wp2_with fail
        refine (snapIn_any f hts _ (steps_on HT.out BA.out)).mono ?_
        rintro e w2 ⟨ix, tm, a2, zs, c2, bd, rfl, o2, b2, hp⟩
        have hx3 : BlockIs (w2.alloc (.cells #[.int .i64 ix, .int .i64 tm, .slice a2 zs.length c2, .string bd] 29)) w2.heap.size 29 [.int .i64 ix, .int .i64 tm, .slice a2 zs.length c2, .string bd] := heap_alloc_new w2 _
        have bx := below_more (Below.refl w2.heap.size w2) (.cells #[.int .i64 ix, .int .i64 tm, .slice a2 zs.length c2, .string bd] 29)
        have b23 := below_via b2 bx
        have X3 := hid hx3
        have R3 := hid (kept_conf (row_down o2 BA.out.size) bx)
        have P3 := hid (PA.out.on b23 PA.out.lt)
        have N3 := hid (NA.out.on b23 NA.out.lt)
        have O3 := hid (kept_conf OA.out b23)
        have B3 := hid (below_via BA.out b23)
        have hNl : w.heap.size + 1 + 1 < w2.heap.size := by have := NA.out.lt; have := b2.size; omega
        clear hx3 bx b23 o2 b2 PA NA OA BA x0 x1 x2
        obtain ⟨W3, hW3⟩ : ∃ W, w2.alloc (.cells #[.int .i64 ix, .int .i64 tm, .slice a2 zs.length c2, .string bd] 29) = W := ⟨_, rfl⟩
        rw [hW3] at X3 R3 P3 N3 O3 B3
        obtain ⟨g, hg⟩ : ∃ g, w2.heap.size = g := ⟨_, rfl⟩
        rw [hg] at X3 hNl
        cases hfs : fileSnap f with
        | none =>
          rw [newer_no hfs] at HST
          rw [show (none : Option SnapD).isSome = false from rfl]
          clear hfs hp
          go_wp2
          go_roundg q
          case measure => omega
          case rel =>
            refine ⟨k + 1, by omega, by go_num, by rw [HST.out], B3, P3, va, vc, ?_, ?_⟩
            · rw [HST.out]; exact N3
            · rw [HST.out]; exact O3
        | some s =>
          rw [show (some s : Option SnapD).isSome = true from rfl]
          obtain ⟨rfl, rfl, rfl, rfl⟩ := hp s hfs
          have x0 := X3.out.cell (j := 0) rfl
          have x1 := X3.out.cell (j := 1) rfl
          have x2 := X3.out.cell (j := 2) rfl
          have x3 := X3.out.cell (j := 3) rfl
          have n0 := N3.out.cell (j := 0) rfl
          have n1 := N3.out.cell (j := 1) rfl
          have n2 := N3.out.cell (j := 2) rfl
          have n3 := N3.out.cell (j := 3) rfl
          have e0 := N3.out.thaw 0
          have e1 := N3.out.thaw 1
          have e2 := N3.out.thaw 2
          have e3 := N3.out.thaw 3
          have hg2 : w.heap.size ≤ w.heap.size + 1 + 1 := by omega
          have hg3 : w.heap.size + 1 + 1 ≠ w.heap.size + 1 := by omega
          have BL := hid ((((B3.out.setCell (p := ⟨w.heap.size + 1 + 1, 0, none⟩) hg2 (.int .i64 (s.ix : Int))).setCell (p := ⟨w.heap.size + 1 + 1, 1, none⟩) hg2 (.int .i64 (s.tm : Int))).setCell (p := ⟨w.heap.size + 1 + 1, 2, none⟩) hg2 (.slice a2 s.conf.length c2)).setCell (p := ⟨w.heap.size + 1 + 1, 3, none⟩) hg2 (.string s.body))
          have NL := hid ((((N3.out.set 0 (.int .i64 (s.ix : Int))).set 1 (.int .i64 (s.tm : Int))).set 2 (.slice a2 s.conf.length c2)).set 3 (.string s.body))
          have PL := hid ((((P3.out.far (b := w.heap.size + 1 + 1) (j := 0) hg3 (.int .i64 (s.ix : Int))).far (b := w.heap.size + 1 + 1) (j := 1) hg3 (.int .i64 (s.tm : Int))).far (b := w.heap.size + 1 + 1) (j := 2) hg3 (.slice a2 s.conf.length c2)).far (b := w.heap.size + 1 + 1) (j := 3) hg3 (.string s.body))
          have OL := hid (own_put (own_put (own_put (own_put R3.out N3.out (by decide) (j := 0) (u := .int .i64 (s.ix : Int))) (N3.out.set 0 (.int .i64 (s.ix : Int))) (by decide) (j := 1) (u := .int .i64 (s.tm : Int))) ((N3.out.set 0 (.int .i64 (s.ix : Int))).set 1 (.int .i64 (s.tm : Int))) (by decide) (j := 2) (u := .slice a2 s.conf.length c2)) (((N3.out.set 0 (.int .i64 (s.ix : Int))).set 1 (.int .i64 (s.tm : Int))).set 2 (.slice a2 s.conf.length c2)) (by decide) (j := 3) (u := .string s.body))
          clear hg2 hg3 X3 R3
          cases o with
          | none =>
            rw [newer_first hfs] at HST
            rw [show (none : Option SnapD).isSome = false from rfl]
            clear hfs hp
            go_wp2
            go_roundg q
            case measure => omega
            case rel =>
              refine ⟨k + 1, by omega, by go_num, by rw [HST.out]; rfl, BL, PL, a2, c2, ?_, ?_⟩
              · rw [HST.out]; exact NL
              · rw [HST.out]; exact OL
          | some d =>
            rw [show (some d : Option SnapD).isSome = true from rfl]
            by_cases hlx : (d.ix : Int) < (s.ix : Int)
            · rw [newer_more hfs (by omega)] at HST
              have n0' : W3.cell? ⟨w.heap.size + 1 + 1, 0, none⟩ = some (.int .i64 (d.ix : Int)) := n0
              clear hfs hp n0
              go_wp2
              go_roundg q
              case measure => omega
              case rel =>
                refine ⟨k + 1, by omega, by go_num, by rw [HST.out]; rfl, BL, PL, a2, c2, ?_, ?_⟩
                · rw [HST.out]; exact NL
                · rw [HST.out]; exact OL
            · rw [newer_less hfs (by omega)] at HST
              have n0' : W3.cell? ⟨w.heap.size + 1 + 1, 0, none⟩ = some (.int .i64 (d.ix : Int)) := n0
              clear hfs hp n0
              go_wp2
              go_roundg q
              case measure => omega
              case rel =>
                refine ⟨k + 1, by omega, by go_num, by rw [HST.out]; rfl, B3, P3, va, vc, ?_, ?_⟩
                · rw [HST.out]; exact N3
                · rw [HST.out]; exact O3
end Go.Proofs.YtoanhjjigbjecaaGreatDoor
