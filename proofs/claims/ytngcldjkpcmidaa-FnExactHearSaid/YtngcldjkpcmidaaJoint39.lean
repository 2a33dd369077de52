/-
  The walk of impl.copiedStream: a stream is laid anew, in memory of its own.
-/
import Derived.Test.YtngcldjkpcmidaaJoint1
import Derived.Test.YtngcldjkpcmidaaJoint38
import Derived.Deep.RegionWith
namespace Go.Proofs.Ytngcldjkpcmidaa
open Go.RowKit

/-- a text is copied while an early one is laid anew -/
theorem copy_late {wr : World} {G k : Nat} {l : List LateD} {rest : List Value} (hlt : k < l.length) (hts : l[k].text.size ≤ 1048576) (hbl : BlockIs wr G 61 (lateCells (l.take k) ++ rest)) (hr : rest.length = (l.length - k) * 2) :
    Calls Try.prog 41 #[.string l[k].text] (wr.alloc (.cells #[.int .i64 l[k].num, .string l[k].text] 61)).drew fun e W' => e = .returned (.string l[k].text) ∧ (W'.cell? ⟨wr.heap.size, 0, none⟩ = some (.int .i64 l[k].num) ∧ W'.cell? ⟨wr.heap.size, 1, none⟩ = some (.string l[k].text)) ∧ (∃ o0 o1, W'.cell? ⟨G, k * 2, none⟩ = some o0 ∧ W'.cell? ⟨G, k * 2 + 1, none⟩ = some o1) ∧ (W'.frozen? ⟨G, k * 2, none⟩ = false ∧ W'.frozen? ⟨G, k * 2 + 1, none⟩ = false) ∧ Hid (Below wr.heap.size wr W' ∧ ∃ r', r'.length = (l.length - (k + 1)) * 2 ∧ BlockIs ((W'.setCell ⟨G, k * 2, none⟩ (.int .i64 l[k].num)).setCell ⟨G, k * 2 + 1, none⟩ (.string l[k].text)) G 61 (lateCells (l.take (k + 1)) ++ r')) := by
  have hx : BlockIs (wr.alloc (.cells #[.int .i64 l[k].num, .string l[k].text] 61)) wr.heap.size 61 [.int .i64 l[k].num, .string l[k].text] := heap_alloc_new wr _
  have hd : Below (wr.alloc (.cells #[.int .i64 l[k].num, .string l[k].text] 61)).heap.size (wr.alloc (.cells #[.int .i64 l[k].num, .string l[k].text] 61)) (wr.alloc (.cells #[.int .i64 l[k].num, .string l[k].text] 61)).drew := below_drewN (Below.refl _ _) 1
  have hb1 := below_drewN (below_more (Below.refl wr.heap.size wr) (.cells #[.int .i64 l[k].num, .string l[k].text] 61)) 1
  refine (clone_any l[k].text (by omega) _).mono ?_
  rintro e W' ⟨rfl, hb⟩
  have k0 := (hx.on hd hx.lt).on hb (hx.on hd hx.lt).lt
  have hbw := below_via hb1 hb
  obtain ⟨h0, h1, h2⟩ := put_late hlt hbl hr hbw hbl.lt
  exact ⟨rfl, ⟨k0.cell (j := 0) rfl, k0.cell (j := 1) rfl⟩, h0, ⟨h1 _, h1 _⟩, hbw, h2⟩

/-- a text is copied beside a box -/
theorem clone_beside {g : Nat} {cs : List Value} {wr : World} {a4 a8 a9 : Value} (h4 : cs[4]? = some a4) (h8 : cs[8]? = some a8) (h9 : cs[9]? = some a9) (s : ByteArray) (hs : s.size ≤ 1048576) (W : World) (hP : Below wr.heap.size wr W ∧ BlockIs W g 31 cs) :
    Calls Try.prog 41 #[.string s] W fun e W' => e = .returned (.string s) ∧ (W'.cell? ⟨g, 4, none⟩ = some a4 ∧ W'.cell? ⟨g, 8, none⟩ = some a8 ∧ W'.cell? ⟨g, 9, none⟩ = some a9 ∧ W'.frozen? ⟨g, 4, none⟩ = false ∧ W'.frozen? ⟨g, 8, none⟩ = false ∧ W'.frozen? ⟨g, 9, none⟩ = false) ∧ Hid (Below wr.heap.size wr W' ∧ BlockIs W' g 31 cs) := by
  refine (clone_any s (by omega) W).mono ?_
  rintro e W' ⟨rfl, hb⟩
  have hk := hP.2.on hb hP.2.lt
  exact ⟨rfl, ⟨hk.cell h4, hk.cell h8, hk.cell h9, hk.thaw 4, hk.thaw 8, hk.thaw 9⟩, below_via hP.1 hb, hk⟩
theorem beside_drew {g : Nat} {cs : List Value} {wr W : World} (h : Below wr.heap.size wr W ∧ BlockIs W g 31 cs) : Below wr.heap.size wr W.drew ∧ BlockIs W.drew g 31 cs :=
  ⟨below_drewN h.1 1, h.2.on (below_drewN (Below.refl _ _) 1) h.2.lt⟩

set_option maxRecDepth 1000000 in
set_option maxHeartbeats 4000000 in
theorem copiedStream_any (d : StrD) (ao : Option Addr) (cap : Nat) (hs : d.Small) (w : World) (ha : LatesAt w ao d.late) :
    Calls Try.prog 26 #[.agg #[.int .i64 d.st, .int .i64 d.iss, .int .i64 d.una, .int .i64 d.rcv, .string d.wait, .int .i64 d.sent, .int .i64 d.fin, .bool d.pf, .string d.inn, .slice ao d.late.length cap, .bool d.owe, .int .i64 d.due, .int .i64 d.times]] w fun e w' => CopyDid w d e w' := by
  obtain ⟨i0, hi, hz0, hz1, hz2⟩ := info_parts toLate_info
  obtain ⟨s1, s2, hl, hsm⟩ := hs
  have HSM := hid hsm
  unfold CopyDid
  obtain ⟨hb0, hx0, hx1, _⟩ := four_log w (.cells #[.int .i64 d.st, .int .i64 d.iss, .int .i64 d.una, .int .i64 d.rcv, .string d.wait, .int .i64 d.sent, .int .i64 d.fin, .bool d.pf, .string d.inn, .slice ao d.late.length cap, .bool d.owe, .int .i64 d.due, .int .i64 d.times] 31) (.cells #[.int .i64 0, .int .i64 0, .int .i64 0, .int .i64 0, .string ⟨#[]⟩, .int .i64 0, .int .i64 0, .bool false, .string ⟨#[]⟩, .slice none 0 0, .bool false, .int .i64 0, .int .i64 0] 31) (.cells #[] 61)
  have hb1 := below_more (below_more (Below.refl w.heap.size w) (.cells #[.int .i64 d.st, .int .i64 d.iss, .int .i64 d.una, .int .i64 d.rcv, .string d.wait, .int .i64 d.sent, .int .i64 d.fin, .bool d.pf, .string d.inn, .slice ao d.late.length cap, .bool d.owe, .int .i64 d.due, .int .i64 d.times] 31)) (.cells #[.int .i64 0, .int .i64 0, .int .i64 0, .int .i64 0, .string ⟨#[]⟩, .int .i64 0, .int .i64 0, .bool false, .string ⟨#[]⟩, .slice none 0 0, .bool false, .int .i64 0, .int .i64 0] 31)
  have hy0 : BlockIs ((w.alloc (.cells #[.int .i64 d.st, .int .i64 d.iss, .int .i64 d.una, .int .i64 d.rcv, .string d.wait, .int .i64 d.sent, .int .i64 d.fin, .bool d.pf, .string d.inn, .slice ao d.late.length cap, .bool d.owe, .int .i64 d.due, .int .i64 d.times] 31)).alloc (.cells #[.int .i64 0, .int .i64 0, .int .i64 0, .int .i64 0, .string ⟨#[]⟩, .int .i64 0, .int .i64 0, .bool false, .string ⟨#[]⟩, .slice none 0 0, .bool false, .int .i64 0, .int .i64 0] 31)) w.heap.size 31 [.int .i64 d.st, .int .i64 d.iss, .int .i64 d.una, .int .i64 d.rcv, .string d.wait, .int .i64 d.sent, .int .i64 d.fin, .bool d.pf, .string d.inn, .slice ao d.late.length cap, .bool d.owe, .int .i64 d.due, .int .i64 d.times] := by
    show ((w.heap.push _).push _)[w.heap.size]? = some _
    rw [Array.getElem?_push, if_neg (by simp), Array.getElem?_push, if_pos rfl]
  have hy1 : BlockIs ((w.alloc (.cells #[.int .i64 d.st, .int .i64 d.iss, .int .i64 d.una, .int .i64 d.rcv, .string d.wait, .int .i64 d.sent, .int .i64 d.fin, .bool d.pf, .string d.inn, .slice ao d.late.length cap, .bool d.owe, .int .i64 d.due, .int .i64 d.times] 31)).alloc (.cells #[.int .i64 0, .int .i64 0, .int .i64 0, .int .i64 0, .string ⟨#[]⟩, .int .i64 0, .int .i64 0, .bool false, .string ⟨#[]⟩, .slice none 0 0, .bool false, .int .i64 0, .int .i64 0] 31)) (w.heap.size + 1) 31 [.int .i64 0, .int .i64 0, .int .i64 0, .int .i64 0, .string ⟨#[]⟩, .int .i64 0, .int .i64 0, .bool false, .string ⟨#[]⟩, .slice none 0 0, .bool false, .int .i64 0, .int .i64 0] := by
    show ((w.heap.push _).push _)[w.heap.size + 1]? = some _
    rw [Array.getElem?_push, if_pos (by simp)]
  obtain ⟨W0, hW0⟩ : ∃ W0, (w.alloc (.cells #[.int .i64 d.st, .int .i64 d.iss, .int .i64 d.una, .int .i64 d.rcv, .string d.wait, .int .i64 d.sent, .int .i64 d.fin, .bool d.pf, .string d.inn, .slice ao d.late.length cap, .bool d.owe, .int .i64 d.due, .int .i64 d.times] 31)).alloc (.cells #[.int .i64 0, .int .i64 0, .int .i64 0, .int .i64 0, .string ⟨#[]⟩, .int .i64 0, .int .i64 0, .bool false, .string ⟨#[]⟩, .slice none 0 0, .bool false, .int .i64 0, .int .i64 0] 31) = W0 := ⟨_, rfl⟩
  rw [hW0] at hb1 hy0 hy1
  have HB0 := hid hb1
  have HX0 := hid hy0
  have HX1 := hid hy1
  have HA := hid (ha.on hb1)
  have hlt1 := hy1.lt
  have x09 := hy0.cell (j := 9) rfl
  clear ha hsm hb0 hx0 hx1 hb1 hy0 hy1
  go_enter Try.func26, Try.ntmps26
  go_wp2_with (at_make; refine wpList_make_full _ rfl (.tmp 8) (.tmp 8) 29 rfl W0.heap.size 61 i0 (.agg #[.int .i64 0, .string ByteArray.empty]) 2 Try.underlying29 hi hz0 hz1 _ _ _ _ d.late.length rfl rfl rfl rfl ?b2 ?b3 ?b4 ?_)
  case b2 => rw [hz2]; omega
  case b3 => unfold maxLen; omega
  case b4 => exact Nat.le_refl _
  intro w1 hown hgrow
  have HM := hid (BlockIs.made hown)
  have hB1 := (Below.refl W0.heap.size W0).grown hgrow (Nat.le_refl _) (fun k h => by cases h)
  have B1 := hid hB1
  have y09 := (HX0.out.on hB1 HX0.out.lt).cell (j := 9) rfl
  obtain ⟨G, hG⟩ : ∃ G, W0.heap.size = G := ⟨_, rfl⟩
  have HG := hid hG
  rw [hG] at B1 HM hlt1
  rw [hG]
  clear hown hgrow hB1 x09 hG
  go_wp2
  go_loopg [13] d.late.length (fun g i wr => ∃ (k : Nat), k + g = d.late.length ∧ i = .int .i64 k ∧ Hid (Below G W0 wr) ∧ ∃ rest, Hid (rest.length = (d.late.length - k) * 2) ∧ Hid (BlockIs wr G 61 (lateCells (d.late.take k) ++ rest)))
  case atStart => exact ⟨0, by omega, rfl, B1, _, made_late d.late.length, HM⟩
  case round =>
    obtain ⟨k, hkg, rfl, BR, rest, hrl, FP⟩ := hrel
    clear HM B1 y09
    have BR' : Hid (Below W0.heap.size W0 wr) := by rw [HG.out]; exact BR.out
    cases gk with
    | zero =>
      have hlt : ¬ (k : Int) < (d.late.length : Int) := by omega
      have HP0 : Hid (BlockIs wr G 61 (lateCells d.late)) := by
        have h0 : rest = [] := List.length_eq_zero_iff.1 (by rw [hrl.out, show d.late.length - k = 0 by omega, Nat.zero_mul])
        have := FP.out
        rw [h0, List.append_nil, List.take_of_length_le (by omega)] at this
        exact this
      have k0 := HX0.out.on BR'.out HX0.out.lt
      have HY := hid (HX1.out.on BR'.out HX1.out.lt)
      have c4 := k0.cell (j := 4) rfl
      have c8 := k0.cell (j := 8) rfl
      have c9 := k0.cell (j := 9) rfl
      have HP := hid (show Below wr.heap.size wr wr ∧ BlockIs wr w.heap.size 31 [.int .i64 d.st, .int .i64 d.iss, .int .i64 d.una, .int .i64 d.rcv, .string d.wait, .int .i64 d.sent, .int .i64 d.fin, .bool d.pf, .string d.inn, .slice ao d.late.length cap, .bool d.owe, .int .i64 d.due, .int .i64 d.times] from ⟨Below.refl _ _, k0⟩)
      have HBL := hid (below_via HB0.out BR'.out)
      have CC := hid (fun s hs W hP => clone_beside (g := w.heap.size) (cs := [.int .i64 d.st, .int .i64 d.iss, .int .i64 d.una, .int .i64 d.rcv, .string d.wait, .int .i64 d.sent, .int .i64 d.fin, .bool d.pf, .string d.inn, .slice ao d.late.length cap, .bool d.owe, .int .i64 d.due, .int .i64 d.times]) (wr := wr) rfl rfl rfl s hs W hP)
      clear FP hrl k0
      go_wp2
      go_region_with (go_at_call 41; first | (refine Calls.mono (CC.out d.wait s1 _ (by first | exact HP.out | exact beside_drew HP.out)) ?_; rintro e w5 ⟨rfl, ⟨y4, y8, y9, z4, z8, z9⟩, HP⟩) | (refine Calls.mono (CC.out d.inn s2 _ (by first | exact HP.out | exact beside_drew HP.out)) ?_; rintro e w5 ⟨rfl, ⟨y4, y8, y9, z4, z8, z9⟩, HP⟩))
      all_goals
        obtain ⟨V, hV⟩ : ∃ V, ((w5.setCell ⟨w.heap.size, 4, none⟩ (.string d.wait)).setCell ⟨w.heap.size, 8, none⟩ (.string d.inn)).setCell ⟨w.heap.size, 9, none⟩ (.slice (some ⟨G, 0, none⟩) d.late.length d.late.length) = V := ⟨_, rfl⟩
        rw [hV]
        have X5 : Hid (BlockIs V w.heap.size 31 [.int .i64 d.st, .int .i64 d.iss, .int .i64 d.una, .int .i64 d.rcv, .string d.wait, .int .i64 d.sent, .int .i64 d.fin, .bool d.pf, .string d.inn, .slice (some ⟨G, 0, none⟩) d.late.length d.late.length, .bool d.owe, .int .i64 d.due, .int .i64 d.times]) := by rw [← hV]; exact ((HP.out.2.set 4 _).set 8 _).set 9 _
        have Y5 : Hid (BlockIs V (w.heap.size + 1) 31 [.int .i64 0, .int .i64 0, .int .i64 0, .int .i64 0, .string ⟨#[]⟩, .int .i64 0, .int .i64 0, .bool false, .string ⟨#[]⟩, .slice none 0 0, .bool false, .int .i64 0, .int .i64 0]) := by rw [← hV]; exact (((HY.out.on HP.out.1 HY.out.lt).far (by omega) _).far (by omega) _).far (by omega) _
        have L5 : Hid (BlockIs V G 61 (lateCells d.late)) := by rw [← hV]; exact (((HP0.out.on HP.out.1 HP0.out.lt).far (by omega) _).far (by omega) _).far (by omega) _
        have B5 : Hid (Below w.heap.size w V) := by rw [← hV]; exact (((below_via HBL.out HP.out.1).setCell (Nat.le_refl _) _).setCell (Nat.le_refl _) _).setCell (Nat.le_refl _) _
        obtain ⟨U, hU⟩ : ∃ U, V.setRow (w.heap.size + 1) #[.int .i64 d.st, .int .i64 d.iss, .int .i64 d.una, .int .i64 d.rcv, .string d.wait, .int .i64 d.sent, .int .i64 d.fin, .bool d.pf, .string d.inn, .slice (some ⟨G, 0, none⟩) d.late.length d.late.length, .bool d.owe, .int .i64 d.due, .int .i64 d.times] = U := ⟨_, rfl⟩
        have Y6 : BlockIs U (w.heap.size + 1) 31 [.int .i64 d.st, .int .i64 d.iss, .int .i64 d.una, .int .i64 d.rcv, .string d.wait, .int .i64 d.sent, .int .i64 d.fin, .bool d.pf, .string d.inn, .slice (some ⟨G, 0, none⟩) d.late.length d.late.length, .bool d.owe, .int .i64 d.due, .int .i64 d.times] := by rw [← hU]; exact store_block Y5.out _
        have B6 : Hid (Below w.heap.size w U) := by rw [← hU]; exact below_setRow B5.out (by omega) _
        have L6 : Hid (BlockIs U G 61 (lateCells d.late)) := by rw [← hU]; exact block_setRow L5.out (by omega) _
        have r0 := Y6.cell (j := 0) rfl
        have r1 := Y6.cell (j := 1) rfl
        have r2 := Y6.cell (j := 2) rfl
        have r3 := Y6.cell (j := 3) rfl
        have r4 := Y6.cell (j := 4) rfl
        have r5 := Y6.cell (j := 5) rfl
        have r6 := Y6.cell (j := 6) rfl
        have r7 := Y6.cell (j := 7) rfl
        have r8 := Y6.cell (j := 8) rfl
        have r9 := Y6.cell (j := 9) rfl
        have r10 := Y6.cell (j := 10) rfl
        have r11 := Y6.cell (j := 11) rfl
        have r12 := Y6.cell (j := 12) rfl
        clear Y6
        go_wp2_with (first | (refine wpList_load_str X5.out rfl rfl _ rfl rfl ?_) | (refine wpList_store_str Y5.out rfl rfl _ _ rfl _ rfl rfl rfl (strCells_all d _ _) ?_; rw [hU]) | fail)
        refine bodyPost_ret (v := .agg #[.int .i64 d.st, .int .i64 d.iss, .int .i64 d.una, .int .i64 d.rcv, .string d.wait, .int .i64 d.sent, .int .i64 d.fin, .bool d.pf, .string d.inn, .slice (some ⟨G, 0, none⟩) d.late.length d.late.length, .bool d.owe, .int .i64 d.due, .int .i64 d.times]) (by simp [results, Try.results26, go_sem, r0, r1, r2, r3, r4, r5, r6, r7, r8, r9, r10, r11, r12]) rfl ⟨some ⟨G, 0, none⟩, d.late.length, rfl, owns_made (by omega) hl L6.out, B6.out⟩
    | succ g =>
      have hlt : k < d.late.length := by omega
      have hlt' : (k : Int) < (d.late.length : Int) := by omega
      have hne : d.late ≠ [] := by intro e; rw [e] at hlt; simp at hlt
      have hts : d.late[k].text.size ≤ 1048576 := HSM.out d.late[k] (List.getElem_mem hlt)
      obtain ⟨b, off, rfl, hc⟩ := HA.out.on BR'.out hne
      obtain ⟨x0, x1⟩ := hc k hlt
      have CC := hid (copy_late hlt hts FP.out hrl.out)
      have FPLT := hid FP.out.lt
      clear hc FP hrl
      go_wp2
      go_region_with (go_at_call 41; refine Calls.mono CC.out ?_; rintro e w2 ⟨rfl, ⟨y0, y1⟩, ⟨o0, o1, z0, z1⟩, ⟨f0, f1⟩, HW⟩)
      all_goals
        obtain ⟨hb2, r', hr', hnew⟩ := HW.out
        have B2 := hid ((BR.out.trans (hb2.mono (by have := FPLT.out; omega))))
        have HN := hid hnew
        have HR := hid hr'
        clear hb2 hr' hnew HW CC
        go_wp2
        go_roundg g
        case measure => omega
        case rel => exact ⟨k + 1, by omega, by go_num, hid ((B2.out.setCell (Nat.le_refl _) _).setCell (Nat.le_refl _) _), r', HR, HN⟩
end Go.Proofs.Ytngcldjkpcmidaa
