/-
  The walk of spec.DrawJoinBits: some bits that wait, some datagram, some time.
-/
import Derived.Test.YthdklbmachplmaaJoint27
import Derived.Test.YthdklbmachplmaaJoint28
import Derived.Test.YthdklbmachplmaaJoint29
import Derived.Test.YthdklbmachplmaaJoint30
import Derived.Test.YthdklbmachplmaaJoint31
import Derived.Test.YthdklbmachplmaaJoint8
import Derived.Deep.DeepCutAuto
import Derived.Deep.RegionWith
import Derived.WalkKit
namespace Go.Proofs.Ythdklbmachplmaa
open Go.RowKit

theorem cutD_body {d : DgramD} {size : Int} (hd : WholeD d) {q : DgramD} (h : q ∈ cutD d size) : q.body.size ≤ 160 := by
  have hb := hd.2.2.2.2.2.2
  unfold cutD at h
  split at h
  · obtain ⟨k, _, rfl⟩ := List.mem_map.1 h
    show (d.body.extract _ _).size ≤ _
    rw [ByteArray.size_extract]
    omega
  · cases h
/-- what stands while a datagram is drawn -/
structure DJ (w : World) (C X lo : Nat) (va : Option Addr) (l : List BitD) (rs : List BitsD) (d : DgramD) (W : World) : Prop where
  cur : CurAt W C
  bel : Below w.heap.size w W
  res : BlockIs W w.heap.size 26 [.int .i64 0, .int .i64 0, .int .i64 0, .int .i64 0, .bool false, .string ⟨#[]⟩]
  box : BlockIs W X 26 [.int .i64 d.src, .int .i64 d.dst, .int .i64 d.ident, .int .i64 d.place, .bool d.more, .string d.body]
  bits : BitsTy W va l rs lo
theorem DJ.go {w : World} {C X lo : Nat} {va : Option Addr} {l : List BitD} {rs : List BitsD} {d : DgramD} {W W' : World} (h : DJ w C X lo va l rs d W) (hk : CurAt W' C) (hq : W.grownBy W' (some C)) (hC : w.heap.size < C) (hX : C < X) (hl : C < lo) : DJ w C X lo va l rs d W' := by
  refine ⟨hk, h.bel.grown hq h.bel.size (fun k e => by cases e; omega), ?_, h.box.cur hq hX, h.bits.cur hq hl⟩
  have h2 := h.res
  unfold BlockIs at h2 ⊢
  rw [hq.block w.heap.size h.res.lt (by simp; omega)]
  exact h2
theorem DJ.on {w : World} {C X lo : Nat} {va : Option Addr} {l : List BitD} {rs : List BitsD} {d : DgramD} {W W' : World} (h : DJ w C X lo va l rs d W) (hb : Below W.heap.size W W') : DJ w C X lo va l rs d W' :=
  ⟨h.cur.below hb, below_via h.bel hb, h.res.on hb h.res.lt, h.box.on hb h.box.lt, h.bits.on hb⟩
theorem DJ.one {w : World} {C X lo : Nat} {va : Option Addr} {l : List BitD} {rs : List BitsD} {W : World} {cs : List Value} (h1 : CurAt W C) (h2 : Below w.heap.size w W) (h3 : BlockIs W w.heap.size 26 [.int .i64 0, .int .i64 0, .int .i64 0, .int .i64 0, .bool false, .string ⟨#[]⟩]) (h4 : BlockIs W X 26 cs) (h5 : BitsTy W va l rs lo) (hC : w.heap.size < C) (hX : C < X) (j : Nat) (v : Value) : CurAt (W.setCell ⟨X, j, none⟩ v) C ∧ Below w.heap.size w (W.setCell ⟨X, j, none⟩ v) ∧ BlockIs (W.setCell ⟨X, j, none⟩ v) w.heap.size 26 [.int .i64 0, .int .i64 0, .int .i64 0, .int .i64 0, .bool false, .string ⟨#[]⟩] ∧ BlockIs (W.setCell ⟨X, j, none⟩ v) X 26 (cs.set j v) ∧ BitsTy (W.setCell ⟨X, j, none⟩ v) va l rs lo :=
  ⟨h1.set (by omega), h2.setCell (p := ⟨X, j, none⟩) (by show w.heap.size ≤ X; omega) v, h3.far (by omega) v, h4.set j v, h5.six h4 v⟩
theorem DJ.put {w : World} {C X lo : Nat} {va : Option Addr} {l : List BitD} {rs : List BitsD} {d : DgramD} {W : World} (h : DJ w C X lo va l rs d W) (hC : w.heap.size < C) (hX : C < X) (g : DgramD) : DJ w C X lo va l rs g (sixth W X (.int .i64 g.src) (.int .i64 g.dst) (.int .i64 g.ident) (.int .i64 g.place) (.bool g.more) (.string g.body)) := by
  obtain ⟨a1, a2, a3, a4, a5⟩ := DJ.one h.cur h.bel h.res h.box h.bits hC hX 0 (.int .i64 g.src)
  obtain ⟨a1, a2, a3, a4, a5⟩ := DJ.one a1 a2 a3 a4 a5 hC hX 1 (.int .i64 g.dst)
  obtain ⟨a1, a2, a3, a4, a5⟩ := DJ.one a1 a2 a3 a4 a5 hC hX 2 (.int .i64 g.ident)
  obtain ⟨a1, a2, a3, a4, a5⟩ := DJ.one a1 a2 a3 a4 a5 hC hX 3 (.int .i64 g.place)
  obtain ⟨a1, a2, a3, a4, a5⟩ := DJ.one a1 a2 a3 a4 a5 hC hX 4 (.bool g.more)
  obtain ⟨a1, a2, a3, a4, a5⟩ := DJ.one a1 a2 a3 a4 a5 hC hX 5 (.string g.body)
  exact ⟨a1, a2, a3, a4, a5⟩

set_option maxRecDepth 1000000 in
set_option maxHeartbeats 8000000 in
theorem drawJoinBits_any (ao : Option Addr) (len cap : Nat) (hlen : len ≤ 1048576) (hcap : len ≤ cap) (w : World) (hr : Bytes w ao len) :
    Calls Try.prog 6 #[.slice ao len cap] w fun e w' => ∃ l va vc rs, ∃ (d : DgramD) (now : Int), e = .returned (.tuple #[.slice va (List.length l) vc, .agg #[.int .i64 d.src, .int .i64 d.dst, .int .i64 d.ident, .int .i64 d.place, .bool d.more, .string d.body], .int .i64 now]) ∧ BitsOk l 8 ∧ d.body.size ≤ 1000 ∧ BitsTy w' va l rs w.heap.size ∧ Below w.heap.size w w' := by
  have HR := hid hr
  have HB := hid (below_more (Below.refl w.heap.size w) (.cells #[.int .i64 0, .int .i64 0, .int .i64 0, .int .i64 0, .bool false, .string ⟨#[]⟩] 26))
  have hx : BlockIs (w.alloc (.cells #[.int .i64 0, .int .i64 0, .int .i64 0, .int .i64 0, .bool false, .string ⟨#[]⟩] 26)) w.heap.size 26 [.int .i64 0, .int .i64 0, .int .i64 0, .int .i64 0, .bool false, .string ⟨#[]⟩] := heap_alloc_new w _
  obtain ⟨W0, hW0⟩ : ∃ W, w.alloc (.cells #[.int .i64 0, .int .i64 0, .int .i64 0, .int .i64 0, .bool false, .string ⟨#[]⟩] 26) = W := ⟨_, rfl⟩
  rw [hW0] at HB hx
  have hC : w.heap.size < W0.heap.size := hx.lt
  have X0 := hid hx
  clear hr hx
  go_enter Try.func6, Try.ntmps6
  go_wp2_with fail
  refine (l01New_any ao len cap hlen hcap _ (bytes_on HR.out HB.out)).mono ?_
  rintro e w1 ⟨rfl, k1, b1⟩
  have K1 := hid k1
  have B1 := hid b1
  have hC1 := k1.lt
  clear k1 b1 hW0
  go_wp2_with fail
  refine Calls.mono (l11Bits_any W0.heap.size _ K1.out) ?_
  rintro e w2 ⟨l, va, vc, rs, rfl, hok, hty, k2, q2⟩
  have HOK := hid hok
  have K2 := hid k2
  have B2 := hid (below_cur B1.out q2)
  have T2 := hid hty
  have S2 := hid q2.size
  clear hok hty k2 q2 K1 B1
  go_wp2_with fail
  refine Calls.mono (l11Any_any W0.heap.size _ K2.out) ?_
  rintro e w3 ⟨d, rfl, hd, k3, q3⟩
  have t3 := T2.out.cur q3 hC1
  have b3 := B2.out.grown q3 B2.out.size (fun k e => by cases e; exact Nat.le_refl _)
  have x3 := X0.out.on b3 X0.out.lt
  have s3 := q3.size
  have ba := below_more (Below.refl w3.heap.size w3) (.cells #[.int .i64 d.src, .int .i64 d.dst, .int .i64 d.ident, .int .i64 d.place, .bool d.more, .string d.body] 26)
  have hbx : BlockIs (w3.alloc (.cells #[.int .i64 d.src, .int .i64 d.dst, .int .i64 d.ident, .int .i64 d.place, .bool d.more, .string d.body] 26)) w3.heap.size 26 [.int .i64 d.src, .int .i64 d.dst, .int .i64 d.ident, .int .i64 d.place, .bool d.more, .string d.body] := heap_alloc_new w3 _
  obtain ⟨C, hCC⟩ : ∃ C, W0.heap.size = C := ⟨_, rfl⟩
  obtain ⟨lo, hlo⟩ : ∃ lo, w1.heap.size = lo := ⟨_, rfl⟩
  have hlC : C < lo := by omega
  have hCw : w.heap.size < C := by omega
  have hXC : C < w3.heap.size := by have := S2.out; omega
  have HLW : Hid (w.heap.size ≤ lo) := (show _ ≤ _ by omega)
  have j4 : DJ w C w3.heap.size lo va l rs d (w3.alloc (.cells #[.int .i64 d.src, .int .i64 d.dst, .int .i64 d.ident, .int .i64 d.place, .bool d.more, .string d.body] 26)) := ⟨by rw [← hCC]; exact k3.below ba, below_via HB.out (below_via b3 ba), x3.on ba x3.lt, hbx, by rw [← hlo]; exact t3.on ba⟩
  obtain ⟨W4, hW4⟩ : ∃ W, w3.alloc (.cells #[.int .i64 d.src, .int .i64 d.dst, .int .i64 d.ident, .int .i64 d.place, .bool d.more, .string d.body] 26) = W := ⟨_, rfl⟩
  rw [hW4] at j4
  obtain ⟨X, hX⟩ : ∃ X, w3.heap.size = X := ⟨_, rfl⟩
  rw [hX] at j4 hXC
  have J4 := hid j4
  have y0 := j4.box.cell (j := 0) rfl
  have yf0 := j4.box.thaw 0
  have y1 := j4.box.cell (j := 1) rfl
  have yf1 := j4.box.thaw 1
  have y2 := j4.box.cell (j := 2) rfl
  have yf2 := j4.box.thaw 2
  have y3 := j4.box.cell (j := 3) rfl
  have yf3 := j4.box.thaw 3
  have y4 := j4.box.cell (j := 4) rfl
  have yf4 := j4.box.thaw 4
  have y5 := j4.box.cell (j := 5) rfl
  have yf5 := j4.box.thaw 5
  rw [hCC]
  clear k3 q3 t3 b3 x3 s3 ba hbx j4 K2 B2 T2 X0 HB hC hC1 hCC hlo S2
  go_wp2_with fail
  refine Calls.mono (l11Dgram_any C _ J4.out.cur) ?_
  rintro e w5 ⟨g, rfl, hg, k5, q5⟩
  have J5 := hid (J4.out.go k5 q5 hCw hXC hlC)
  have HGG := hid hg
  clear hg k5 q5 J4 hW4 hX y0 y1 y2 y3 y4 y5 yf0 yf1 yf2 yf3 yf4 yf5
  go_wp2_with fail
  refine Calls.mono (specCutDgram_any g 8 (by have := HGG.out.2.2.2.2.2; omega) _) ?_
  rintro e w6 ⟨pa, pc, rfl, hpc, hown, b6⟩
  have J6 := hid (J5.out.on b6)
  have HCO := hid (fun h => cutD_some (d := g) (size := 8) h)
  have HSM : Hid (∀ q ∈ cutD g 8, q.body.size ≤ 160) := fun q hq => cutD_body HGG.out hq
  obtain ⟨PA, hA⟩ : ∃ A, cutD g 8 = A := ⟨_, rfl⟩
  rw [hA] at HCO HSM hown hpc ⊢
  obtain ⟨ok, hok⟩ : ∃ ok, cutOk g 8 = ok := ⟨_, rfl⟩
  rw [hok] at HCO ⊢
  have HPX : Hid (∃ pg r9, ok = true → pa = some ⟨pg, 0, none⟩ ∧ C < pg ∧ BlockIs w6 pg 26 (dgramCells PA ++ r9)) := (show ∃ _, _ by
    cases ok with
    | false => exact ⟨0, [], fun h => by cases h⟩
    | true =>
      rcases hown with h0 | ⟨pg, r9, e1, e2, _, e4⟩
      · have := (HCO.out rfl).1; omega
      · exact ⟨pg, r9, fun _ => ⟨e1, by have := J5.out.cur.lt; omega, e4⟩⟩)
  clear hA hok hown b6 J5 HGG hpc
  obtain ⟨pg, r9, hpx⟩ := HPX.out
  have HPP := hid hpx
  clear hpx HPX
  go_upto_region 5 with fail
  go_cut [27] (fun s27 wx => ∃ bb : Bool, s27 = .bool bb ∧ Hid ((bb = true → ok = true) ∧ DJ w C X lo va l rs d wx ∧ (ok = true → BlockIs wx pg 26 (dgramCells PA ++ r9))))
  case first =>
    cases ok with
    | false =>
      go_wp2_with fail
      go_meet
      exact ⟨false, rfl, ⟨fun h => absurd h (by decide), J6.out, fun h => absurd h (by decide)⟩⟩
    | true =>
      go_wp2_with fail
      refine Calls.mono (l01Once_any C 2 (by omega) (by omega) _ J6.out.cur) ?_
      rintro e w7 ⟨bb, rfl, k7, q7⟩
      have J7 := hid (J6.out.go k7 q7 hCw hXC hlC)
      have P7 := hid ((HPP.out (by simp)).2.2.cur q7 (HPP.out (by simp)).2.1)
      clear k7 q7
      go_wp2_with fail
      go_meet
      exact ⟨bb, rfl, ⟨fun _ => by simp, J7.out, fun _ => P7.out⟩⟩
  case rest =>
    obtain ⟨bb, rfl, H7⟩ := hcut
    clear J6
    go_upto_if 27 with fail
    go_cut [27] (fun _ wx => ∃ d' : DgramD, Hid (d'.body.size ≤ 1000 ∧ DJ w C X lo va l rs d' wx))
    case first =>
      cases bb with
      | false =>
        go_wp2_with fail
        go_meet
        exact ⟨d, by omega, H7.out.2.1⟩
      | true =>
        have hokt := H7.out.1 (by simp)
        subst hokt
        obtain ⟨rfl, hpC, _⟩ := HPP.out (by simp)
        obtain ⟨hA0, hA20⟩ := HCO.out (by simp)
        have J7 := hid H7.out.2.1
        have P7 := hid (H7.out.2.2 (by simp))
        clear HPP HCO H7
        go_wp2_with fail
        refine Calls.mono (l01Below_any C (PA.length : Int) (by omega) (by omega) _ J7.out.cur) ?_
        rintro e w7 ⟨y, rfl, y0, y1, k7, q7⟩
        have j8 := J7.out.go k7 q7 hCw hXC hlC
        have hP7 := P7.out.cur q7 hpC
        obtain ⟨z, rfl⟩ : ∃ z : Nat, y = z := ⟨y.toNat, by omega⟩
        have hz : z < PA.length := by omega
        have HZ := hid (HSM.out _ (List.getElem_mem hz))
        have c0 : World.cell? w7 ⟨pg, z * 6, none⟩ = some (.int .i64 PA[z].src) := hP7.cell (row_at dgramEnc 6 (fun _ => rfl) PA r9 z 0 hz (by omega))
        have c1 : World.cell? w7 ⟨pg, z * 6 + 1, none⟩ = some (.int .i64 PA[z].dst) := hP7.cell (row_at dgramEnc 6 (fun _ => rfl) PA r9 z 1 hz (by omega))
        have c2 : World.cell? w7 ⟨pg, z * 6 + 2, none⟩ = some (.int .i64 PA[z].ident) := hP7.cell (row_at dgramEnc 6 (fun _ => rfl) PA r9 z 2 hz (by omega))
        have c3 : World.cell? w7 ⟨pg, z * 6 + 3, none⟩ = some (.int .i64 PA[z].place) := hP7.cell (row_at dgramEnc 6 (fun _ => rfl) PA r9 z 3 hz (by omega))
        have c4 : World.cell? w7 ⟨pg, z * 6 + 4, none⟩ = some (.bool PA[z].more) := hP7.cell (row_at dgramEnc 6 (fun _ => rfl) PA r9 z 4 hz (by omega))
        have c5 : World.cell? w7 ⟨pg, z * 6 + 5, none⟩ = some (.string PA[z].body) := hP7.cell (row_at dgramEnc 6 (fun _ => rfl) PA r9 z 5 hz (by omega))
        have x0 := j8.box.cell (j := 0) rfl
        have xf0 := j8.box.thaw 0
        have x1 := j8.box.cell (j := 1) rfl
        have xf1 := j8.box.thaw 1
        have x2 := j8.box.cell (j := 2) rfl
        have xf2 := j8.box.thaw 2
        have x3 := j8.box.cell (j := 3) rfl
        have xf3 := j8.box.thaw 3
        have x4 := j8.box.cell (j := 4) rfl
        have xf4 := j8.box.thaw 4
        have x5 := j8.box.cell (j := 5) rfl
        have xf5 := j8.box.thaw 5
        have J9 := hid (j8.put hCw hXC PA[z])
        clear k7 q7 j8 hP7 J7 P7 HSM
        go_wp2_with fail
        go_meet
        exact ⟨PA[z], by have := HZ.out; omega, J9.out⟩
    case rest =>
      obtain ⟨d2, H8⟩ := hcut
      clear H7 HPP HCO HSM
      go_upto_region 7 with fail
      go_cut [41] (fun s41 wx => ∃ bb : Bool, s41 = .bool bb ∧ Hid ((bb = true → l ≠ []) ∧ DJ w C X lo va l rs d2 wx))
      case first =>
        by_cases hl0 : l = []
        · have hlz : ¬ (0 : Int) < (l.length : Int) := by rw [hl0]; simp
          clear hl0
          go_wp2_with fail
          go_meet
          exact ⟨false, rfl, ⟨fun h => absurd h (by decide), H8.out.2⟩⟩
        · have hlp : (0 : Int) < (l.length : Int) := by have : 0 < l.length := List.length_pos_iff.2 hl0; omega
          have HL0 := hid hl0
          go_wp2_with fail
          refine Calls.mono (l01Once_any C 3 (by omega) (by omega) _ H8.out.2.cur) ?_
          rintro e w8 ⟨bb, rfl, k8, q8⟩
          have J8 := hid (H8.out.2.go k8 q8 hCw hXC hlC)
          clear k8 q8
          go_wp2_with fail
          go_meet
          exact ⟨bb, rfl, ⟨fun _ => HL0.out, J8.out⟩⟩
      case rest =>
        obtain ⟨bb, rfl, H9⟩ := hcut
        have HD2 := hid H8.out.1
        clear H8
        go_upto_if 41 with fail
        go_cut [41] (fun _ wx => ∃ d' : DgramD, Hid (d'.body.size ≤ 1000 ∧ DJ w C X lo va l rs d' wx))
        case first =>
          cases bb with
          | false =>
            go_wp2_with fail
            go_meet
            exact ⟨d2, HD2.out, H9.out.2⟩
          | true =>
            have hln := H9.out.1 (by simp)
            have hlp : 0 < l.length := List.length_pos_iff.2 hln
            have hl3 : l.length ≤ 3 := HOK.out.1
            have J9 := hid H9.out.2
            clear H9 hln
            go_wp2_with fail
            refine Calls.mono (l01Below_any C (l.length : Int) (by omega) (by omega) _ J9.out.cur) ?_
            rintro e w9 ⟨y, rfl, y0, y1, k9, q9⟩
            have j10 := J9.out.go k9 q9 hCw hXC hlC
            obtain ⟨z, rfl⟩ : ∃ z : Nat, y = z := ⟨y.toNat, by omega⟩
            have hz : z < l.length := by omega
            have hlr := j10.bits.2.length
            have hzr : z < rs.length := by omega
            obtain ⟨b, off, rfl, hc⟩ := j10.bits.at_ (by intro q; rw [q] at hzr; simp at hzr)
            obtain ⟨z0, z1, z2, z3, z4, z5⟩ := hc z hzr
            obtain ⟨R, hR⟩ : ∃ R, rs[z] = R := ⟨_, rfl⟩
            rw [hR] at z0 z1 z2 z3 z4 z5
            have ba := below_more (Below.refl w9.heap.size w9) (.cells #[.int .i64 R.src, .int .i64 R.ident, .slice R.tx.ad R.tx.len R.tx.cap, .slice R.ax.ad R.ax.len R.ax.cap, .int .i64 R.total, .int .i64 R.lim] 35)
            have hbb : BlockIs (w9.alloc (.cells #[.int .i64 R.src, .int .i64 R.ident, .slice R.tx.ad R.tx.len R.tx.cap, .slice R.ax.ad R.ax.len R.ax.cap, .int .i64 R.total, .int .i64 R.lim] 35)) w9.heap.size 35 [.int .i64 R.src, .int .i64 R.ident, .slice R.tx.ad R.tx.len R.tx.cap, .slice R.ax.ad R.ax.len R.ax.cap, .int .i64 R.total, .int .i64 R.lim] := heap_alloc_new w9 _
            have j11 := j10.on ba
            have hCX : C < w9.heap.size := j10.cur.lt
            obtain ⟨W10, hW10⟩ : ∃ W, w9.alloc (.cells #[.int .i64 R.src, .int .i64 R.ident, .slice R.tx.ad R.tx.len R.tx.cap, .slice R.ax.ad R.ax.len R.ax.cap, .int .i64 R.total, .int .i64 R.lim] 35) = W := ⟨_, rfl⟩
            rw [hW10] at hbb j11
            obtain ⟨bx, hbx⟩ : ∃ bx, w9.heap.size = bx := ⟨_, rfl⟩
            rw [hbx] at hbb hCX
            have J11 := hid j11
            have HBX := hid hbb
            clear k9 q9 j10 hlr hzr hc hR ba hbb j11 J9
            go_wp2_with fail
            refine wp_region_each (N := 63) (by kernel_rfl) (by kernel_rfl) rfl (by kernel_rfl) (fun W => (∃ dd, DJ w C X lo (some ⟨b, off, none⟩) l rs dd W) ∧ BlockIs W bx 35 [.int .i64 R.src, .int .i64 R.ident, .slice R.tx.ad R.tx.len R.tx.cap, .slice R.ax.ad R.ax.len R.ax.cap, .int .i64 R.total, .int .i64 R.lim]) (fun j v _ W => match j with | 0 => v = .pointer (some ⟨bx, 0, none⟩) | 1 => v = .int .i64 R.src | 2 => v = .pointer (some ⟨bx, 1, none⟩) | 3 => v = .int .i64 R.ident | 4 => v = .pointer (some ⟨C, 0, none⟩) | 5 => ∃ y : Int, v = .int .i64 y ∧ 0 ≤ y ∧ y < 4 | 6 => ∃ y : Int, v = .int .i64 (8 * y) ∧ 0 ≤ y ∧ y < 4 | 7 => v = .pointer (some ⟨C, 0, none⟩) | 8 => ∃ bo : Bool, v = .bool bo | 9 => ∃ (y : Int) (bo : Bool), v = .agg #[.int .i64 R.src, .int .i64 1, .int .i64 R.ident, .int .i64 (8 * y), .bool bo, .string ⟨#[49, 50, 51, 52, 53, 54, 55, 56]⟩] | 10 => ∃ (y : Int) (bo : Bool), DJ w C X lo (some ⟨b, off, none⟩) l rs ⟨R.src, 1, R.ident, 8 * y, bo, ⟨#[49, 50, 51, 52, 53, 54, 55, 56]⟩⟩ W | _ => True) (fun i => i) (fun _ _ => false) (fun i x y => i = 10 ∨ (World.grownBy x y (some C) ∧ (CurAt x C → CurAt y C))) (fun _ => 0) (by kernel_rfl) (fun _ _ => rfl) ?_ ⟨⟨_, J11.out.on (below_drewN (Below.refl _ _) 1)⟩, HBX.out.on (below_drewN (Below.refl _ _) 1) HBX.out.lt⟩ ?_ ?_
            · intro i j v u x y hij hdd hwt hxy hg
              match j, hg with
              | 0, hg => exact hg
              | 1, hg => exact hg
              | 2, hg => exact hg
              | 3, hg => exact hg
              | 4, hg => exact hg
              | 5, hg => exact hg
              | 6, hg => exact hg
              | 7, hg => exact hg
              | 8, hg => exact hg
              | 9, hg => exact hg
              | 10, hg =>
                obtain ⟨y, bo, e1⟩ := hg
                rcases hxy with q | ⟨q1, q2⟩
                · exact absurd q hij
                · exact ⟨y, bo, e1.go (q2 e1.cur) q1 hCw hXC hlC⟩
              | n + 11, _ => exact trivial
            · refine ⟨?_, ?_, ?_, ?_, ?_, ?_, ?_, ?_, ?_, ?_, ?_, trivial⟩
              · intro A W hC hg hb
                have h10 : A.eval (.tmp 10) = .pointer (some ⟨bx, 0, none⟩) := hb 10 (base_of (by kernel_rfl))
                exact does_value (v := .pointer (some ⟨bx, 0, none⟩)) (w' := W) (by simp only [execOp, h10]; simp [go_sem]) ⟨rfl, hC, Or.inr ⟨World.grownBy.refl _ _, id⟩⟩
              · intro A W hC hg hb
                have h49 : A.eval (.tmp 49) = .pointer (some ⟨bx, 0, none⟩) := hg 0 49 (by decide) rfl (by simp [Op.operands]) (by kernel_rfl) rfl
                have hc := hC.2.cell (j := 0) rfl
                exact does_value (v := .int .i64 R.src) (w' := W) (by simp only [execOp, h49]; simp [go_sem, hc]) ⟨rfl, hC, Or.inr ⟨World.grownBy.refl _ _, id⟩⟩
              · intro A W hC hg hb
                have h10 : A.eval (.tmp 10) = .pointer (some ⟨bx, 0, none⟩) := hb 10 (base_of (by kernel_rfl))
                exact does_value (v := .pointer (some ⟨bx, 1, none⟩)) (w' := W) (by simp only [execOp, h10]; simp [go_sem]) ⟨rfl, hC, Or.inr ⟨World.grownBy.refl _ _, id⟩⟩
              · intro A W hC hg hb
                have h51 : A.eval (.tmp 51) = .pointer (some ⟨bx, 1, none⟩) := hg 2 51 (by decide) rfl (by simp [Op.operands]) (by kernel_rfl) rfl
                have hc := hC.2.cell (j := 1) rfl
                exact does_value (v := .int .i64 R.ident) (w' := W) (by simp only [execOp, h51]; simp [go_sem, hc]) ⟨rfl, hC, Or.inr ⟨World.grownBy.refl _ _, id⟩⟩
              · intro A W hC hg hb
                have h5 : A.eval (.tmp 5) = .pointer (some ⟨C, 0, none⟩) := hb 5 (base_of (by kernel_rfl))
                exact does_value (v := .pointer (some ⟨C, 0, none⟩)) (w' := W) (by simp only [execOp, h5]; simp [go_sem]) ⟨rfl, hC, Or.inr ⟨World.grownBy.refl _ _, id⟩⟩
              · intro A W hC hg hb
                have h53 : A.eval (.tmp 53) = .pointer (some ⟨C, 0, none⟩) := hg 4 53 (by decide) rfl (by simp [Op.operands, Call.operands]) (by kernel_rfl) rfl
                simp [go_sem] at h53
                obtain ⟨⟨dd, hd⟩, hbk⟩ := hC
                refine does_enter (f := 22) (args := #[.pointer (some ⟨C, 0, none⟩), .int .i64 4]) (w' := W) (by simp [go_sem, h53]) ?_
                refine (l01Below_any C 4 (by omega) (by omega) W hd.cur).mono ?_
                rintro e W' ⟨y, rfl, y0, y1, k', q'⟩
                exact ⟨_, rfl, ⟨y, rfl, y0, y1⟩, ⟨⟨dd, hd.go k' q' hCw hXC hlC⟩, hbk.cur q' hCX⟩, Or.inr ⟨q', fun _ => k'⟩⟩
              · intro A W hC hg hb
                have g5 := hg 5 54 (by decide) rfl (by simp [Op.operands]) (by kernel_rfl) rfl
                obtain ⟨y, h54, y0, y1⟩ := g5
                have hw : IntKind.i64.wrap (8 * y) = 8 * y := by rw [IntKind.wrap_i64]; omega
                exact does_value (v := .int .i64 (8 * y)) (w' := W) (by simp only [execOp, h54]; simp [go_sem, hw]) ⟨⟨y, rfl, y0, y1⟩, hC, Or.inr ⟨World.grownBy.refl _ _, id⟩⟩
              · intro A W hC hg hb
                have h5 : A.eval (.tmp 5) = .pointer (some ⟨C, 0, none⟩) := hb 5 (base_of (by kernel_rfl))
                exact does_value (v := .pointer (some ⟨C, 0, none⟩)) (w' := W) (by simp only [execOp, h5]; simp [go_sem]) ⟨rfl, hC, Or.inr ⟨World.grownBy.refl _ _, id⟩⟩
              · intro A W hC hg hb
                have h56 : A.eval (.tmp 56) = .pointer (some ⟨C, 0, none⟩) := hg 7 56 (by decide) rfl (by simp [Op.operands, Call.operands]) (by kernel_rfl) rfl
                simp [go_sem] at h56
                obtain ⟨⟨dd, hd⟩, hbk⟩ := hC
                refine does_enter (f := 21) (args := #[.pointer (some ⟨C, 0, none⟩), .int .i64 2]) (w' := W) (by simp [go_sem, h56]) ?_
                refine (l01Once_any C 2 (by omega) (by omega) W hd.cur).mono ?_
                rintro e W' ⟨bo, rfl, k', q'⟩
                exact ⟨_, rfl, ⟨bo, rfl⟩, ⟨⟨dd, hd.go k' q' hCw hXC hlC⟩, hbk.cur q' hCX⟩, Or.inr ⟨q', fun _ => k'⟩⟩
              · intro A W hC hg hb
                have h50 : A.eval (.tmp 50) = .int .i64 R.src := hg 1 50 (by decide) rfl (by simp [Op.operands]) (by kernel_rfl) rfl
                have h52 : A.eval (.tmp 52) = .int .i64 R.ident := hg 3 52 (by decide) rfl (by simp [Op.operands]) (by kernel_rfl) rfl
                have g6 := hg 6 55 (by decide) rfl (by simp [Op.operands]) (by kernel_rfl) rfl
                have g8 := hg 8 57 (by decide) rfl (by simp [Op.operands]) (by kernel_rfl) rfl
                obtain ⟨y, h55, y0, y1⟩ := g6
                obtain ⟨bo, h57⟩ := g8
                simp [go_sem] at h50 h52 h55 h57
                exact does_value (v := .agg #[.int .i64 R.src, .int .i64 1, .int .i64 R.ident, .int .i64 (8 * y), .bool bo, .string ⟨#[49, 50, 51, 52, 53, 54, 55, 56]⟩]) (w' := W) (by simp [execOp, go_sem, h50, h52, h55, h57]) ⟨⟨y, bo, rfl⟩, hC, Or.inr ⟨World.grownBy.refl _ _, id⟩⟩
              · intro A W hC hg hb
                have h7 : A.eval (.tmp 7) = .pointer (some ⟨X, 0, none⟩) := hb 7 (base_of (by kernel_rfl))
                have g9 := hg 9 58 (by decide) rfl (by simp [Op.operands]) (by kernel_rfl) rfl
                obtain ⟨y, bo, h58⟩ := g9
                obtain ⟨⟨dd, hd⟩, hbk⟩ := hC
                have c0 := hd.box.cell (j := 0) rfl
                have c1 := hd.box.cell (j := 1) rfl
                have c2 := hd.box.cell (j := 2) rfl
                have c3 := hd.box.cell (j := 3) rfl
                have c4 := hd.box.cell (j := 4) rfl
                have c5 := hd.box.cell (j := 5) rfl
                have f0 := hd.box.thaw 0
                have f1 := hd.box.thaw 1
                have f2 := hd.box.thaw 2
                have f3 := hd.box.thaw 3
                have f4 := hd.box.thaw 4
                have f5 := hd.box.thaw 5
                have hne : X ≠ bx := fun e => by subst e; exact absurd (block_one hbk hd.box).1 (by decide)
                have hput := hd.put hCw hXC ⟨R.src, 1, R.ident, 8 * y, bo, ⟨#[49, 50, 51, 52, 53, 54, 55, 56]⟩⟩
                exact does_skip (w' := sixth W X (.int .i64 R.src) (.int .i64 1) (.int .i64 R.ident) (.int .i64 (8 * y)) (.bool bo) (.string ⟨#[49, 50, 51, 52, 53, 54, 55, 56]⟩)) (by simp only [execOp, h7, h58]; simp [go_sem, sixth, c0, c1, c2, c3, c4, c5, f0, f1, f2, f3, f4, f5]) ⟨⟨y, bo, hput⟩, ⟨⟨_, hput⟩, (((((hbk.far hne _).far hne _).far hne _).far hne _).far hne _).far hne _⟩, Or.inl rfl⟩
            intro vs w12 hC hg
            obtain ⟨y4, bo, hdj⟩ := hg 10 (by decide) (fun k => rfl)
            have HDJ := hid hdj
            clear hg hC hdj
            change Exit.then _ _ _ (laidBy _ vs _ 11 _) w12
            simp only [laidBy, if_true, dstAt, List.getElem?_toArray, List.getElem?_cons_succ, List.getElem?_cons_zero, Option.bind_some]
            simp only [Act.put, List.setIfInBounds_toArray, List.set_cons_succ, List.set_cons_zero]
            go_wp2_with fail
            go_meet
            exact ⟨_, by show (8 : Nat) ≤ 1000; decide, HDJ.out⟩
        case rest =>
          obtain ⟨d3, H10⟩ := hcut
          have HD3 := hid H10.out.1
          have H5 : Hid (DJ w C X lo va l rs d3 wc.drew) := H10.out.2.on (below_drewN (Below.refl _ _) 1)
          have BP : Hid (∀ W, DJ w C X lo va l rs d3 W → Calls Try.prog 23 #[.pointer (some ⟨C, 0, none⟩), .int .i64 30] W fun e W' => ∃ x : Int, e = .returned (.int .i64 x) ∧ Hid (DJ w C X lo va l rs d3 W')) := fun W hW => by
            refine (l01Place_any C 30 (by omega) (by omega) W hW.cur).mono ?_
            rintro e W' ⟨x, rfl, k', q'⟩
            exact ⟨x, rfl, hW.go k' q' hCw hXC hlC⟩
          have uq0 := H10.out.2.box.cell (j := 0) rfl
          have uq1 := H10.out.2.box.cell (j := 1) rfl
          have uq2 := H10.out.2.box.cell (j := 2) rfl
          have uq3 := H10.out.2.box.cell (j := 3) rfl
          have uq4 := H10.out.2.box.cell (j := 4) rfl
          have uq5 := H10.out.2.box.cell (j := 5) rfl
          clear H9
          go_wp2_with fail
          go_region_with (go_at_call 23; refine Calls.mono (BP.out _ H5.out) ?_; rintro e w11 ⟨x, rfl, H11⟩; have x0 := H11.out.box.cell (j := 0) rfl; have r0 := H11.out.res.cell (j := 0) rfl; have rf0 := H11.out.res.thaw 0; have x1 := H11.out.box.cell (j := 1) rfl; have r1 := H11.out.res.cell (j := 1) rfl; have rf1 := H11.out.res.thaw 1; have x2 := H11.out.box.cell (j := 2) rfl; have r2 := H11.out.res.cell (j := 2) rfl; have rf2 := H11.out.res.thaw 2; have x3 := H11.out.box.cell (j := 3) rfl; have r3 := H11.out.res.cell (j := 3) rfl; have rf3 := H11.out.res.thaw 3; have x4 := H11.out.box.cell (j := 4) rfl; have r4 := H11.out.res.cell (j := 4) rfl; have rf4 := H11.out.res.thaw 4; have x5 := H11.out.box.cell (j := 5) rfl; have r5 := H11.out.res.cell (j := 5) rfl; have rf5 := H11.out.res.thaw 5)
          all_goals
            have TYL := hid (((((((H11.out.bits).six (j := 0) (H11.out.res) (.int .i64 d3.src)).six (j := 1) ((H11.out.res).set 0 (.int .i64 d3.src)) (.int .i64 d3.dst)).six (j := 2) (((H11.out.res).set 0 (.int .i64 d3.src)).set 1 (.int .i64 d3.dst)) (.int .i64 d3.ident)).six (j := 3) ((((H11.out.res).set 0 (.int .i64 d3.src)).set 1 (.int .i64 d3.dst)).set 2 (.int .i64 d3.ident)) (.int .i64 d3.place)).six (j := 4) (((((H11.out.res).set 0 (.int .i64 d3.src)).set 1 (.int .i64 d3.dst)).set 2 (.int .i64 d3.ident)).set 3 (.int .i64 d3.place)) (.bool d3.more)).six (j := 5) ((((((H11.out.res).set 0 (.int .i64 d3.src)).set 1 (.int .i64 d3.dst)).set 2 (.int .i64 d3.ident)).set 3 (.int .i64 d3.place)).set 4 (.bool d3.more)) (.string d3.body))
            have BLL := hid (((((((H11.out.bel).setCell (p := ⟨w.heap.size, 0, none⟩) (Nat.le_refl _) (.int .i64 d3.src)).setCell (p := ⟨w.heap.size, 1, none⟩) (Nat.le_refl _) (.int .i64 d3.dst)).setCell (p := ⟨w.heap.size, 2, none⟩) (Nat.le_refl _) (.int .i64 d3.ident)).setCell (p := ⟨w.heap.size, 3, none⟩) (Nat.le_refl _) (.int .i64 d3.place)).setCell (p := ⟨w.heap.size, 4, none⟩) (Nat.le_refl _) (.bool d3.more)).setCell (p := ⟨w.heap.size, 5, none⟩) (Nat.le_refl _) (.string d3.body))
            go_wp2_with fail
            refine bodyPost_ret (v := .tuple #[.slice va l.length vc, .agg #[.int .i64 d3.src, .int .i64 d3.dst, .int .i64 d3.ident, .int .i64 d3.place, .bool d3.more, .string d3.body], .int .i64 x]) (by simp [results, Try.results6, go_sem, r0, r1, r2, r3, r4, r5]) rfl ?_
            exact ⟨l, va, vc, rs, d3, x, rfl, HOK.out, HD3.out, TYL.out.low HLW.out, BLL.out⟩
end Go.Proofs.Ythdklbmachplmaa
