/-
  For every slice of bytes, laws.FnTurned returns true: a drawn text that is sealed is unsealed, with one byte turned it is not, and SumMore goes on; nothing that was in memory is written. The table that impl reads is tied to the program's text (the card).
-/
import Derived.Test.YticphimfmgkpbaaDoorCards
import Derived.Test.YticphimfmgkpbaaDoorTie
import Derived.Test.YticphimfmgkpbaaDoorPlainSeal
import Derived.Test.YticphimfmgkpbaaDoorUnsealI
import Derived.Test.YticphimfmgkpbaaDoorDrawSumOf
import Derived.Test.YticphimfmgkpbaaDoorDrawPlaces
import Derived.Test.YticphimfmgkpbaaDoorBig
import Derived.Test.YticphimfmgkpbaaDoorBytesOf
import Derived.BigRegion
import Derived.RegionTactic
import Derived.ChangeAlike
import Derived.WalkSmall
import Derived.WalkKit
import Derived.ProofKit
import Derived.OpenShut
import Derived.OpenVars
import Derived.Deep.DeepHandedRow
import Derived.Lib.LaidTab
import Derived.Stop.LaidErr
namespace Go.Proofs.YticphimfmgkpbaaDoor.fnTurned
open Go.ChangeShapes Go.WideShapes Go.ChangeAt Go.ChangeMaps Go.RowKit

theorem turned_back {A : ByteArray} {w : World} {G bcap k y : Nat} (hk : k < A.size) (hy : y < 256) (hc : ∀ (j : Nat) (hj : j < A.size), w.cell? ⟨G, j, none⟩ = some (.int .u8 (A[j].toNat : Int))) :
    (convert 22 9 (.slice (some ⟨G, 0, none⟩) A.size bcap)).run Tryd.prog (w.setCell ⟨G, k, none⟩ (.int .u8 (y : Int))).drew = .ok (.string ⟨(A.data.toList.set k (UInt8.ofNat y)).toArray⟩) (w.setCell ⟨G, k, none⟩ (.int .u8 (y : Int))).drew := by
  have hl : (A.data.toList.set k (UInt8.ofNat y)).length = A.size := by simp
  have := run_convert_bytes_back (P := Tryd.prog) (w.setCell ⟨G, k, none⟩ (.int .u8 (y : Int))).drew 22 9 5 ⟨G, 0, none⟩ bcap (A.data.toList.set k (UInt8.ofNat y)) Tryd.underlying22 Tryd.underlying5 Tryd.underlying9
    (by
      intro j hj
      have hj' : j < A.size := by omega
      rw [show (⟨G, 0, none⟩ : Addr).add j = ⟨G, j, none⟩ from by simp only [Addr.add]; split <;> simp_all]
      show (w.setCell ⟨G, k, none⟩ (.int .u8 (y : Int))).cell? ⟨G, j, none⟩ = _
      by_cases e : k = j
      · subst e
        rw [World.cell?_setCell_same _ _ _ (hc k hk)]
        rw [List.getElem_set_self, UInt8.toNat_ofNat', Nat.mod_eq_of_lt hy]
      · rw [World.cell?_setCell_other _ _ _ _ (by simp), hc j hj', List.getElem_set_ne e]
        rfl)
  rw [hl] at this
  exact this

theorem turned_text {A : ByteArray} {k y : Nat} (h : TurnsNot A) (hk : k < A.size) (hy : y < 256) (hn : y ≠ A[k].toNat) : ¬ Uns ⟨(A.data.toList.set k (UInt8.ofNat y)).toArray⟩ :=
  h _ k (UInt8.ofNat y) hk (fun e => hn (by rw [← e, UInt8.toNat_ofNat', Nat.mod_eq_of_lt hy])) (by simp)

set_option maxRecDepth 1000000 in
set_option maxHeartbeats 1000000 in
theorem walk (ao : Option Addr) (len cap : Nat) (hcap : len ≤ cap) (w : World) (hr : Bytes w ao len) (ht : Steps w) :
    Calls Tryd.prog 3 #[.slice ao len cap] w fun e w' => e = .returned (.bool true) ∧ Below w.heap.size w w' := by
  have HR := (show Hid (Bytes w ao len) from hr)
  have HT := (show Hid (Steps w) from ht)
  clear hr ht
  by_cases hbig : 1048576 < len
  · go_enter Tryd.func3, Tryd.ntmps3
    go_wp2
    go_ret
    exact ⟨rfl, Below.refl _ _⟩
  · have hlen : len ≤ 1048576 := by omega
    clear hbig
    go_enter Tryd.func3, Tryd.ntmps3
    go_wp2_with fail
    refine (big_no ao len cap hlen _).mono ?_
    rintro e w0 ⟨rfl, hw0⟩
    rw [hw0]
    clear hw0 w0
    go_wp2_with fail
    refine (drawSumOf_any ao len cap hlen hcap _ HR.out).mono ?_
    rintro e w1 ⟨s, rfl, hs, b1⟩
    have B1 := (show Hid (Below w.heap.size w w1) from b1)
    clear b1
    go_wp2_with fail
    refine (drawPlaces_any ao len cap hlen hcap _ (bytes_on HR.out B1.out)).mono ?_
    rintro e w2 ⟨p, rfl, hp, b2⟩
    have B2 := (show Hid (Below w.heap.size w w2) from B1.out.trans (b2.mono B1.out.size))
    clear b2
    obtain ⟨g, pcap, rfl, hpc, hcell⟩ := hp
    obtain ⟨z0, hz0, c0⟩ := hcell 0 (by omega)
    obtain ⟨z1, hz1, c1⟩ := hcell 1 (by omega)
    have hgl := World.block_lt_of_cell? w2 _ c0
    have C0 := (show Hid _ from c0)
    have C1 := (show Hid _ from c1)
    clear hcell c0 c1
    have cS := (show Hid _ from implSealed_yes s (by omega) w2 (steps_on HT.out B2.out))
    rw [show s ++ (⟨(four (sumOf s.data.toList)).toArray⟩ : ByteArray) = sealOf s from rfl] at cS
    have hun := (show Hid _ from sealOf_uns (s := s) (by omega))
    have hhd := (show Hid _ from sealOf_head s)
    have hsz := sealOf_size s
    have HTN := (show Hid _ from sealOf_turns s)
    obtain ⟨Q, hQ⟩ : ∃ Q, sealOf s = Q := ⟨_, rfl⟩
    rw [hQ] at cS hun hhd hsz HTN
    clear hQ
    go_wp2_with fail
    refine Calls.mono cS.out ?_
    rintro e w3 ⟨rfl, b3⟩
    clear cS
    have B3 := (show Hid (Below w.heap.size w w3) from B2.out.trans (b3.mono B2.out.size))
    have D3 := (show Hid (w2.heap.size ≤ w3.heap.size ∧ w3.cell? ⟨g, 0, none⟩ = some (.int .i64 z0) ∧ w3.cell? ⟨g, 1, none⟩ = some (.int .i64 z1)) from ⟨b3.size, (b3.cell (p := ⟨g, 0, none⟩) hgl).trans C0.out, (b3.cell (p := ⟨g, 1, none⟩) hgl).trans C1.out⟩)
    clear b3
    have cU := (show Hid _ from implUnsealed_any Q (by omega) w3 (steps_on HT.out B3.out))
    go_wp2_with fail
    refine Calls.mono cU.out ?_
    rintro e w4 ⟨(⟨_, rfl⟩ | ⟨hno, rfl⟩), b4⟩
    · rw [hhd.out]
      clear cU
      have B4 := (show Hid (Below w.heap.size w w4) from B3.out.trans (b4.mono B3.out.size))
      have c40 : w4.cell? ⟨g, 0, none⟩ = some (.int .i64 z0) := (b4.cell (p := ⟨g, 0, none⟩) (Nat.lt_of_lt_of_le hgl D3.out.1)).trans D3.out.2.1
      have c41 : w4.cell? ⟨g, 1, none⟩ = some (.int .i64 z1) := (b4.cell (p := ⟨g, 1, none⟩) (Nat.lt_of_lt_of_le hgl D3.out.1)).trans D3.out.2.2
      have hg4 : g < w4.heap.size := World.block_lt_of_cell? w4 _ c40
      clear b4 D3
      have hQ4 : ((Q.size : Int) == (s.size : Int) + 4) = true := by simp; omega
      obtain ⟨bcap, w5, hcv, hbc, b5, hsz5, hcell, hfz⟩ := bytes_of Q w4
      have c50 : w5.cell? ⟨g, 0, none⟩ = some (.int .i64 z0) := (b5.cell (p := ⟨g, 0, none⟩) hg4).trans c40
      have c51 : w5.cell? ⟨g, 1, none⟩ = some (.int .i64 z1) := (b5.cell (p := ⟨g, 1, none⟩) hg4).trans c41
      have B5 := (show Hid (Below w.heap.size w w5) from B4.out.trans (b5.mono B4.out.size))
      have hG : w.heap.size ≤ w4.heap.size := B4.out.size
      have hG5 := (show Hid (w4.heap.size < w5.heap.size) from by rw [hsz5]; exact Nat.lt_succ_self _)
      have HCE := (show Hid _ from hcell)
      obtain ⟨k, hk⟩ : ∃ k, z0 % Q.size = k := ⟨_, rfl⟩
      have hkl : k < Q.size := by rw [← hk]; exact Nat.mod_lt _ (by omega)
      have hk' : (z0 : Int) % (Q.size : Int) = (k : Int) := by rw [← hk]; simp
      have hQ0 : ((Q.size : Int) == 0) = false := beq_eq_false_iff_ne.2 (by omega)
      have ck := hcell k hkl
      have fk := hfz k hkl
      have hq255 : (Q[k].toNat : Int) ≤ 255 := by have := Q[k].toNat_lt; omega
      obtain ⟨m, hm⟩ : ∃ m, z1 % 255 = m := ⟨_, rfl⟩
      have hml : m < 255 := by omega
      have hm' : (z1 : Int) % 255 = (m : Int) := by omega
      have hxr : bits .xor .u8 (Q[k].toNat : Int) (1 + (m : Int)) = ((Q[k].toNat ^^^ (1 + m) : Nat) : Int) := by
        have := u8_xor_nat Q[k].toNat (1 + m) Q[k].toNat_lt (by omega)
        simpa using this
      have hne : Q[k].toNat ^^^ (1 + m) ≠ Q[k].toNat := by
        intro h
        have h2 := congrArg (Q[k].toNat ^^^ ·) h
        simp only [← Nat.xor_assoc, Nat.xor_self, Nat.zero_xor] at h2
        omega
      obtain ⟨y, hy⟩ : ∃ y, Q[k].toNat ^^^ (1 + m) = y := ⟨_, rfl⟩
      have hyl : y < 256 := by rw [← hy]; exact Nat.xor_lt_two_pow (n := 8) Q[k].toNat_lt (by omega)
      rw [hy] at hxr hne
      obtain ⟨G, hGe⟩ : ∃ G, w4.heap.size = G := ⟨_, rfl⟩
      rw [hGe] at hcv ck fk HCE hG hG5 hg4
      have HQ := (show Hid (Q.size = s.size + 4) from hsz)
      have HN := (show Hid (y ≠ Q[k].toNat) from hne)
      clear b5 hcell hfz hk hm hy hGe hsz5 hsz hne c40 c41
      go_wp2
      go_region
      have B6 : Hid (Below w.heap.size w (w5.setCell ⟨G, k, none⟩ (.int .u8 y)).drew) := below_drewN (B5.out.setCell hG _) 1
      have hback := turned_back (A := Q) (w := w5) (G := G) (bcap := bcap) (k := k) (y := y) hkl hyl HCE.out
      generalize (w5.setCell ⟨G, k, none⟩ (.int .u8 (y : Int))).drew = w6 at B6 hback ⊢
      have hno := (show Hid _ from turned_text HTN.out hkl hyl HN.out)
      obtain ⟨T, hT⟩ : ∃ T : ByteArray, ⟨(Q.data.toList.set k (UInt8.ofNat y)).toArray⟩ = T := ⟨_, rfl⟩
      rw [hT] at hback hno
      have hTs : T.size = Q.size := by rw [← hT]; exact (List.length_set ..).trans (by rfl)
      have cT := (show Hid _ from implUnsealed_any T (by have := HQ.out; omega) w6 (steps_on HT.out B6.out))
      clear hT
      go_wp2_with fail
      refine Calls.mono cT.out ?_
      rintro e w7 ⟨(⟨hyes, rfl⟩ | ⟨_, rfl⟩), b7⟩
      · exact absurd hyes hno.out
      · clear cT hback hno hTs HCE ck hxr fk hcv
        have B7 := (show Hid (Below w.heap.size w w7) from B6.out.trans (b7.mono B6.out.size))
        clear b7
        have T7 := (show Hid (Steps w7) from steps_on HT.out B7.out)
        have c1 := (show Hid _ from implSumOf_any s (by omega) w7 T7.out)
        have c2 := (show Hid _ from implSumMore_any (sumOf s.data.toList) (sumOf_lt _) ⟨#[120]⟩ (by decide) w7 T7.out)
        have c3 := (show Hid _ from implSumOf_any (s ++ ⟨#[120]⟩) (by rw [ByteArray.size_append]; have : (⟨#[120]⟩ : ByteArray).size = 1 := rfl; omega) w7 T7.out)
        have he : sumOf (s ++ ⟨#[120]⟩ : ByteArray).data.toList = crc (sumOf s.data.toList) (⟨#[120]⟩ : ByteArray).data.toList := by
          rw [ByteArray.data_append, Array.toList_append]
          exact crc_append _ _ _
        rw [he] at c3
        clear he
        obtain ⟨N1, h1⟩ : ∃ N, crc (sumOf s.data.toList) (⟨#[120]⟩ : ByteArray).data.toList = N := ⟨_, rfl⟩
        rw [h1] at c2 c3
        clear h1
        obtain ⟨N0, h0⟩ : ∃ N, sumOf s.data.toList = N := ⟨_, rfl⟩
        rw [h0] at c1 c2
        clear h0
        go_wp2_with fail
        refine Calls.mono c1.out ?_
        rintro e w8 ⟨rfl, hw⟩
        rw [hw]
        clear hw w8
        go_wp2_with fail
        refine Calls.mono c2.out ?_
        rintro e w8 ⟨rfl, hw⟩
        rw [hw]
        clear hw w8
        go_wp2_with fail
        refine Calls.mono c3.out ?_
        rintro e w8 ⟨rfl, hw⟩
        rw [hw]
        clear hw w8
        go_wp2
        go_ret
        exact ⟨rfl, B7.out⟩
    · exact absurd hun.out hno

theorem own : ownKnob Tryd.prog.godebug = none := by kernel_rfl
theorem laidOut : laidOutB Tryd.prog = true := by kernel_rfl
theorem rowed : varsRowed Tryd.prog Rows.fnTurnedSpec.vars = true := by kernel_rfl
/-- what the row's list gives: what loop.example/g00232/impl.fourSteps holds -/
theorem table0 {W : World} (h : laidMetH Tryd.prog Rows.fnTurnedRow.laid W) : Lib.TabIs Tryd.prog W "loop.example/g00232/impl.fourSteps" .u32 stepsTab := by
  have h1 : laidMet Tryd.prog Rows.fnTurnedRow.laid W := h
  unfold Rows.fnTurnedRow at h1
  have h2 := h1
  rw [show (Rows.laid_loop_example_g00232_impl_fourSteps : DataW Unit) = Lib.tabData .u32 stepsTab by kernel_rfl] at h2
  exact Lib.tabIs_of_head (show Tryd.prog.globalNamed "loop.example/g00232/impl.fourSteps" = some 0 by kernel_rfl) (show (Tryd.prog.globals[0]?).map (·.type) = some 47 by kernel_rfl) Tryd.underlying47 Tryd.underlying39 (show Tryd.prog.cellsOf 39 = 1 by kernel_rfl) (show Tryd.prog.cellsOf 47 = 16 by kernel_rfl) h2
set_option maxRecDepth 1000000 in
theorem contract (H : Type) (enc : TypeId × Value → H) (W : World) (base : Nat) (args : Array Value) (ds gs : List (DataW H)) (before : List MemPlace)
    (hval : ∀ (j : Nat) t v, Tryd.f3.params[j]? = some t → args[j]? = some v → Value.okWide Tryd.prog W .any base t v)
    (hW : DataW.Whole enc Tryd.prog Tryd.f3.params.toList Rows.fnTurnedSpec.vars false W args.toList ds gs before) (hL : laidMetH Tryd.prog Rows.fnTurnedRow.laid W) :
    Calls Tryd.prog 3 args W fun e W' => ∃ v, e = .returned v ∧ Rows.fnTurnedSpec.post enc Tryd.prog Tryd.f3 false true false false W args v W' := by
  have hW' := hW
  obtain ⟨p, q, hA0, hV0, rfl, hfz, hnd⟩ := hW
  have hV : DataW.TrodVars enc Tryd.prog W (fun _ => true) Rows.fnTurnedSpec.vars gs q := hV0
  have hA : DataW.TrodAll enc Tryd.prog W 0 (fun _ => true) true Tryd.f3.params.toList args.toList ds p := hA0
  rw [Tryd.params3] at hA hval
  obtain ⟨v0, vs0, d0, ds0, p0, q0, hargs0, rfl, rfl, h0, r0⟩ := trodAll_cons hA
  obtain ⟨rfl, rfl, rfl⟩ := trodAll_nil r0
  obtain rfl : args = #[v0] := by cases args; simp_all
  obtain ⟨a0, len0, cap0, rfl⟩ := okWide_slice Tryd.underlying22 (hval 0 22 v0 rfl rfl)
  have k0 := h0
  have lt0 : ∀ x ∈ p0, x.block < W.heap.size := by obtain ⟨m, hm⟩ := k0; exact DataW.trod_lt m _ _ _ hm
  have hb0 : len0 ≤ cap0 ∧ Bytes W a0 len0 := by
    obtain ⟨fuel, hf⟩ := h0
    rcases open_ints Tryd.underlying22 Tryd.underlying5 (by kernel_rfl) hf with ⟨hcs, _⟩ | ⟨x, l, c, zs, hcs, _, hl, hm, hz, _, hcell, hwz⟩
    · simp [Value.cells] at hcs
      obtain ⟨rfl, rfl, rfl⟩ := hcs
      exact ⟨Nat.le_refl _, fun h => by omega⟩
    · simp [Value.cells] at hcs
      obtain ⟨rfl, rfl, rfl⟩ := hcs
      refine ⟨hl, fun hp => ?_⟩
      have hzl : zs.length = cap0 := by simpa using hz
      obtain ⟨b, off, rfl, hc⟩ := ints_at hcell (by omega)
      refine ⟨b, off, rfl, fun j hj => ?_⟩
      have hjz : j < zs.length := by omega
      have hb8 := bounds_u8 (hwz (zs.getD j 0) (by simp [List.getD, hjz]))
      exact ⟨zs.getD j 0, hb8.1, hb8.2, hc j hjz⟩
  clear hA0 hV0
  have hgs : gs.length = 1 := by
    have := hV
    clear hV hW' hL
    match gs, this with
    | [_], _ => rfl
  match gs, hgs, hV, hW' with
  | [g0], _, hV, hW' =>
    refine (walk a0 len0 cap0 hb0.1 W hb0.2 (table0 hL)).mono fun e W' ⟨he, bel⟩ => ?_
    subst he
    exact ⟨_, rfl, _, _, _, [], _, _, hW', trodAll_mk1 (shut_bool Tryd.underlying4 _), trodAll_cons_mk (Below.trod laidOut (by kernel_rfl) (of_decide_eq_true (by kernel_rfl)) k0 bel lt0) (trodAll_mk0), Below.trodVars laidOut bel rowed hV, bel.frame _, fun h => by cases h⟩

def put (cs : Array Value) : Obj → Obj
  | .cells _ t frozen => .cells cs t frozen
  | o => o

/-- a world for the witness: the tables hold what their initialisers lay -/
def laidWorld (w : World) : World := { w with heap := (w.heap.modify 0 (put (([0, 1166650509, 2333301018, 3466261911, 3189058079, 4221339282, 889615109, 1888477064, 3558460437, 2442158232, 1594529039, 444807554, 1779230218, 797264519, 3776954128, 2761298845] : List Int).map (Value.int .u32)).toArray)) }
theorem laid_met (os : Os) : laidMet Tryd.prog Rows.fnTurnedRow.laid ((laidWorld (World.holding Tryd.prog os ⟨#[], #[], []⟩)).forCall (fun _ _ => 0) ⟨#[], #[.slice none 0 0], []⟩).memory :=
  laidMet_of_run' 8 (by kernel_rfl) (by kernel_rfl)
theorem reads (os : Os) {H : Type} (enc : TypeId × Value → H) : ∃ places, DataW.whole enc Tryd.prog ((laidWorld (World.holding Tryd.prog os ⟨#[], #[], []⟩)).forCall (fun _ _ => 0) ⟨#[], #[.slice none 0 0], []⟩).memory Tryd.f3.params.toList Rows.fnTurnedSpec.vars false #[Value.slice none 0 0].toList 8 = some ([.nil], [Rows.laid_loop_example_g00232_impl_fourSteps], places) :=
  ⟨(List.range 16).map (MemPlace.cell 0), by kernel_rfl⟩

set_option maxRecDepth 1000000 in
theorem lifted (os : Os) (started : os.Started) (H : Type) (enc : TypeId × Value → H) (F : Stop.Interp) :
    ReturnsInHanded {} Tryd.checked os 3 .any ((OpenSpec.ofChange Rows.fnTurnedSpec).preRow enc Tryd.prog Tryd.f3 Rows.fnTurnedRow.domain false Rows.fnTurnedRow.laid) (((OpenSpec.ofChange Rows.fnTurnedSpec).at F).post enc Tryd.prog Tryd.f3 false true false false) := by
  obtain ⟨places, hx⟩ := reads os enc
  refine returnsInHanded_of_row (C := Tryd.checked) (s := OpenSpec.ofChange Rows.fnTurnedSpec) own started (by kernel_rfl) Tryd.func3
    (witness_row_at (enc := enc) (C := Tryd.checked) false (laidWorld (World.holding Tryd.prog os ⟨#[], #[], []⟩)) #[.slice none 0 0] rfl (by kernel_rfl) (by kernel_rfl) (by kernel_rfl)
      (OpenSpec.preRow_of_cond 8 hx (by kernel_rfl) (fun k hk => by cases hk) (by kernel_rfl) (laid_met os))) ?_
  intro W base args ds gs before hval hW _ _ _ hL _ _
  exact contract H enc W base args ds gs before hval hW hL

theorem said : Rows.FnTurnedSaid :=
  OpenClaim.holds_of_cond 3 Tryd.f3 rfl rfl rfl rfl rfl rfl rfl ⟨rfl, rfl, rfl, rfl, rfl⟩ rfl rfl rfl rfl rfl (by kernel_rfl) Tryd.func3 (by kernel_rfl)
    (of_decide_eq_true (by kernel_rfl)) (by unfold Func.isWrapper; first | (rw [if_pos (by decide +kernel)]; kernel_rfl) | (rw [if_neg (by decide +kernel)]; exact ⟨rfl, rfl⟩))
    (fun os started H enc _ F => by rw [OpenClaim.pre_eq_preRow]; exact lifted os started H enc F)

theorem plain (f : FuncId) (fn : Func) (hf : Tryd.pinned.checked.prog.funcNamed "loop.example/g00232/laws.FnTurned" = some f) (hfn : Tryd.pinned.checked.prog.funcs[f]? = some fn) :
    false = Tryd.pinned.checked.prog.looks [] ∧ ∀ (j : Nat) t, fn.params[j]? = some t → Tryd.pinned.checked.prog.wantsStandIn t = false := by
  obtain rfl : f = 3 := Option.some.inj ((show Tryd.prog.funcNamed "loop.example/g00232/laws.FnTurned" = some 3 by kernel_rfl).symm.trans hf) |>.symm
  obtain rfl : fn = Tryd.f3 := (Option.some.inj (Tryd.func3.symm.trans hfn)).symm
  refine ⟨by kernel_rfl, fun j t ht => ?_⟩
  rw [Tryd.params3] at ht
  obtain rfl : t = 22 := by simpa using Array.mem_of_getElem? ht
  exact (show Tryd.prog.wantsStandIn 22 = false by kernel_rfl)

theorem card : Rows.FnTurnedCardSaid :=
  Claim7.holds_tied_plain_at .later [] _ _ _ _ said (fun _ h => by cases h) (by kernel_rfl) (fun _ h => by cases h) fnTurned_row_tie rfl ⟨rfl, rfl⟩ (by kernel_rfl) rfl plain (by kernel_rfl)
end Go.Proofs.YticphimfmgkpbaaDoor.fnTurned
