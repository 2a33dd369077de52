/-
  The walks of impl.kindOf and of the kinds' data: what they answer.
  The walk of impl.EntryText: what it answers.
-/
import Derived.Test.YtohmfmajgehadaaGreatDoorJoint31
import Derived.Test.YtohmfmajgehadaaGreatDoorJoint32
import Derived.Test.YtohmfmajgehadaaGreatDoorJoint27
import Derived.Test.YtohmfmajgehadaaGreatDoorJoint1
namespace Go.Proofs.YtohmfmajgehadaaGreatDoor
open Go.RowKit

theorem as_none_conf (v : Value) (w : World) : (Instr.typeAssert (.iface 215 v) 207 217 true).run Tryz.prog w = .ok (.tuple #[.agg #[.slice none 0 0], .bool false]) w := by kernel_rfl
theorem as_none_command (v : Value) (w : World) : (Instr.typeAssert (.iface 215 v) 207 219 true).run Tryz.prog w = .ok (.tuple #[.agg #[.string ByteArray.empty], .bool false]) w := by kernel_rfl
theorem as_conf_conf (v : Value) (w : World) : (Instr.typeAssert (.iface 217 v) 207 217 true).run Tryz.prog w = .ok (.tuple #[v, .bool true]) w := by kernel_rfl
theorem as_command_conf (v : Value) (w : World) : (Instr.typeAssert (.iface 219 v) 207 217 true).run Tryz.prog w = .ok (.tuple #[.agg #[.slice none 0 0], .bool false]) w := by kernel_rfl
theorem as_command_command (v : Value) (w : World) : (Instr.typeAssert (.iface 219 v) 207 219 true).run Tryz.prog w = .ok (.tuple #[v, .bool true]) w := by kernel_rfl

set_option maxRecDepth 1000000 in
theorem kindOf_none (w : World) : Calls Tryz.prog 153 #[.iface 215 (.agg #[])] w fun e w' => e = .returned (.int .u8 1) ∧ w' = w := by
  have h1 := as_none_conf (.agg #[])
  have h2 := as_none_command (.agg #[])
  go_enter Tryz.func153, Tryz.ntmps153
  go_wp2
  go_ret
  exact ⟨rfl, rfl⟩
set_option maxRecDepth 1000000 in
theorem kindOf_conf (u : Value) (w : World) : Calls Tryz.prog 153 #[.iface 217 (.agg #[u])] w fun e w' => e = .returned (.int .u8 2) ∧ w' = w := by
  have h1 := as_conf_conf (.agg #[u])
  go_enter Tryz.func153, Tryz.ntmps153
  go_wp2
  go_ret
  exact ⟨rfl, rfl⟩
set_option maxRecDepth 1000000 in
theorem kindOf_command (u : Value) (w : World) : Calls Tryz.prog 153 #[.iface 219 (.agg #[u])] w fun e w' => e = .returned (.int .u8 3) ∧ w' = w := by
  have h1 := as_command_conf (.agg #[u])
  have h2 := as_command_command (.agg #[u])
  go_enter Tryz.func153, Tryz.ntmps153
  go_wp2
  go_ret
  exact ⟨rfl, rfl⟩

set_option maxRecDepth 1000000 in
theorem dataNone_any (w : World) : Calls Tryz.prog 235 #[.agg #[]] w fun e w' => e = .returned (.string ByteArray.empty) ∧ Below w.heap.size w w' := by
  go_enter Tryz.func235, Tryz.ntmps235
  go_wp2
  go_ret
  exact ⟨rfl, below_more (Below.refl _ _) _⟩
set_option maxRecDepth 1000000 in
theorem dataCommand_any (s : ByteArray) (w : World) : Calls Tryz.prog 237 #[.agg #[.string s]] w fun e w' => e = .returned (.string s) ∧ Below w.heap.size w w' := by
  go_enter Tryz.func237, Tryz.ntmps237
  go_wp2
  go_ret
  exact ⟨rfl, below_more (Below.refl _ _) _⟩
set_option maxRecDepth 1000000 in
theorem dataConf_any (ao : Option Addr) (zs : List Int) (cap : Nat) (hA : confOk zs = true) (w : World) (hz : IntsAt w ao zs) :
    Calls Tryz.prog 236 #[.agg #[.slice ao zs.length cap]] w fun e w' => e = .returned (.string ⟨(confBytes zs).toArray⟩) ∧ Below w.heap.size w w' := by
  have HB := hid (below_more (Below.refl w.heap.size w) (.cells #[.slice ao zs.length cap] 217))
  have cB := hid (confBytes_any ao zs cap hA _ (hz.on HB.out))
  clear hz
  go_enter Tryz.func236, Tryz.ntmps236
  go_wp2_with (go_at_call 85; refine Calls.mono cB.out ?_; rintro e w2 ⟨rfl, b2⟩)
  go_ret
  exact ⟨rfl, below_via HB.out b2⟩
end Go.Proofs.YtohmfmajgehadaaGreatDoor

namespace Go.Proofs.YtohmfmajgehadaaGreatDoor
open Go.RowKit

theorem invoke_none : ∀ w : World, (method 379 215 (.agg #[]) "loop.example/g00232/impl.data").run Tryz.prog w = .ok (235, .agg #[]) w := fun _ => by kernel_rfl
theorem invoke_conf (u : Value) : ∀ w : World, (method 379 217 (.agg #[u]) "loop.example/g00232/impl.data").run Tryz.prog w = .ok (236, .agg #[u]) w := fun _ => by kernel_rfl
theorem invoke_command (u : Value) : ∀ w : World, (method 379 219 (.agg #[u]) "loop.example/g00232/impl.data").run Tryz.prog w = .ok (237, .agg #[u]) w := fun _ => by kernel_rfl

/-- a text of one byte, out of a row that was just laid -/
theorem kind_text (W : World) (k : UInt8) : (convert 22 9 (.slice (some ⟨W.heap.size, 0, none⟩) 1 1)).run Tryz.prog (W.alloc (.cells #[.int .u8 (k.toNat : Int)] 5)) = .ok (.string ⟨#[k]⟩) (W.alloc (.cells #[.int .u8 (k.toNat : Int)] 5)) :=
  run_convert_bytes_back _ 22 9 5 ⟨W.heap.size, 0, none⟩ 1 [k] Tryz.underlying22 Tryz.underlying5 Tryz.underlying9 fun j hj => by
    have hx : BlockIs (W.alloc (.cells #[.int .u8 (k.toNat : Int)] 5)) W.heap.size 5 [.int .u8 (k.toNat : Int)] := heap_alloc_new W _
    obtain rfl : j = 0 := by simp at hj; omega
    exact hx.cell (j := 0) rfl

set_option maxRecDepth 1000000 in
set_option maxHeartbeats 1000000 in
theorem implEntryText_any (i : Int) (d : EntD) (w : World) :
    Calls Tryz.prog 127 #[.int .i64 i, .agg #[.int .i64 d.term, .int .i64 d.kind, .string d.data]] w fun e w' => e = .returned (.tuple #[.string (entryText i d).1, .bool (entryText i d).2]) ∧ Below w.heap.size w w' := by
  have HB := hid (below_more (Below.refl w.heap.size w) (.cells #[.int .i64 d.term, .int .i64 d.kind, .string d.data] 57))
  have hx : BlockIs (w.alloc (.cells #[.int .i64 d.term, .int .i64 d.kind, .string d.data] 57)) w.heap.size 57 [.int .i64 d.term, .int .i64 d.kind, .string d.data] := heap_alloc_new w _
  obtain ⟨W, hW⟩ : ∃ W, w.alloc (.cells #[.int .i64 d.term, .int .i64 d.kind, .string d.data] 57) = W := ⟨_, rfl⟩
  rw [hW] at HB hx
  have HX := hid hx
  have c0 := hx.cell (j := 0) rfl
  have c1 := hx.cell (j := 1) rfl
  have c2 := hx.cell (j := 2) rfl
  have cN' := fun w => indexOk_any i w
  clear hx
  cases hI : within i 1 1000000 with
  | false =>
    have hr := hid (entryText_no (i := i) (d := d) (Or.inr hI))
    rw [hI] at cN'
    have cN := hid cN'
    clear cN' hI
    go_enter Tryz.func127, Tryz.ntmps127
    go_wp2_with (go_at_call 150; refine (cN.out _).mono ?_; rintro e w1 ⟨rfl, hw⟩; rw [hw]; clear hw w1)
    go_ret2
    exact ⟨by rw [hr.out]; rfl, HB.out⟩
  | true =>
    rw [hI] at cN'
    have cN := hid cN'
    clear cN'
    have cE' := implEntryOk_all d W
    cases hE : entryOk d with
    | false =>
      have hr := hid (entryText_no (i := i) (d := d) (Or.inl hE))
      rw [hE] at cE'
      have cE := hid cE'
      clear cE' hE hI
      go_enter Tryz.func127, Tryz.ntmps127
      go_wp2_with (first | (go_at_call 150; refine (cN.out _).mono ?_; rintro e w1 ⟨rfl, hw⟩; rw [hw]; clear hw w1) | (go_at_call 151; refine Calls.mono cE.out ?_; rintro e w2 ⟨rfl, b2⟩))
      go_ret2
      exact ⟨by rw [hr.out]; rfl, below_via HB.out b2⟩
    | true =>
      have hr := hid (entryText_yes hE hI)
      have hbd := entryOk_bd hE
      have hib := within_iff.1 hI
      have HK : Hid (kindOk d = true) := by
        have := hE
        rw [entryOk_kind, Bool.and_eq_true] at this
        exact this.2
      rw [hE] at cE'
      have cE := hid cE'
      clear cE' hE hI
      obtain ⟨tm, kd, dt⟩ := d
      dsimp only at hbd hW HB HX c0 c1 c2 cE hr HK ⊢
      obtain ⟨n, rfl⟩ : ∃ n : Nat, i = n := ⟨i.toNat, by omega⟩
      obtain ⟨t, rfl⟩ : ∃ t : Nat, tm = t := ⟨tm.toNat, by omega⟩
      go_enter Tryz.func127, Tryz.ntmps127
      go_wp2_with fail
      refine (cN.out _).mono ?_
      rintro e w1 ⟨rfl, hw⟩
      rw [hw]
      clear hw w1 cN
      go_wp2_with fail
      refine Calls.mono cE.out ?_
      rintro e w2 ⟨rfl, b⟩
      have X2 := hid (HX.out.on b HX.out.lt)
      have B2 := hid (below_via HB.out b)
      have d0 := X2.out.cell (j := 0) rfl
      have d1 := X2.out.cell (j := 1) rfl
      have d2 := X2.out.cell (j := 2) rfl
      clear b cE c0 c1 c2 HX HB hW
      go_wp2_with fail
      refine Calls.mono (bodyOf_any ⟨t, kd, dt⟩ w2) ?_
      rintro e w3 ⟨v, rfl, hv, b⟩
      have X3 := hid (X2.out.on b X2.out.lt)
      have B3 := hid (below_via B2.out b)
      have e0 := X3.out.cell (j := 0) rfl
      have HV := hid hv
      clear b hv d0 d1 d2 X2 B2
      rw [HK.out]
      go_wp2_with fail
      refine (implVarText_yes n (by omega) w3).mono ?_
      rintro e w4 ⟨rfl, b4⟩
      have hVs : (⟨(vb n).toArray⟩ : ByteArray).size ≤ 1000001 := by
        have := vb_le n
        show (vb n).toArray.size ≤ 1000001
        simp
        omega
      obtain ⟨V, hV⟩ : ∃ V : ByteArray, ⟨(vb n).toArray⟩ = V := ⟨_, rfl⟩
      rw [hV] at hVs ⊢
      have HVV := hid hV
      clear hV
      have X4 := hid (X3.out.on b4 X3.out.lt)
      have B4 := hid (below_via B3.out b4)
      have f0 := X4.out.cell (j := 0) rfl
      have BV4 := hid b4
      clear b4 e0 X3 B3
      go_wp2_with fail
      refine (implVarText_yes t (by omega) w4).mono ?_
      rintro e w5 ⟨rfl, b5⟩
      have hFs : (⟨(vb t).toArray⟩ : ByteArray).size ≤ 100001 := by
        have := vb_le t
        show (vb t).toArray.size ≤ 100001
        simp
        omega
      obtain ⟨F, hF⟩ : ∃ F : ByteArray, ⟨(vb t).toArray⟩ = F := ⟨_, rfl⟩
      rw [hF] at hFs ⊢
      have HFF := hid hF
      clear hF
      have s1 : ((⟨#[69]⟩ : ByteArray) ++ V).size ≤ 1000002 := by rw [size_E]; omega
      have s2 : ((⟨#[69]⟩ : ByteArray) ++ V ++ F).size ≤ 1100003 := by rw [ByteArray.size_append]; omega
      have s3 : ∀ k : UInt8, ((⟨#[69]⟩ : ByteArray) ++ V ++ F ++ ⟨#[k]⟩).size ≤ 1100004 := by intro k; rw [size_one]; omega
      have B5 := hid (below_via B4.out b5)
      have BV5 := hid (below_via BV4.out b5)
      have O1 := kind_text w5 1
      have O2 := kind_text w5 2
      have O3 := kind_text w5 3
      simp only [show ((1 : UInt8).toNat : Int) = 1 from rfl] at O1
      simp only [show ((2 : UInt8).toNat : Int) = 2 from rfl] at O2
      simp only [show ((3 : UInt8).toNat : Int) = 3 from rfl] at O3
      clear b5 f0 X4 B4 BV4
      have hk3 : kd = 1 ∨ kd = 2 ∨ kd = 3 := by omega
      rcases hk3 with rfl | rfl | rfl
      · have h0 : dt.size = 0 := by
          have := HK.out
          simpa [kindOk] using this
        obtain rfl := empty_data h0
        have h := HV.out
        simp only [bodyIs, show ¬ ((1 : Int) = 2) by omega, show ¬ ((1 : Int) = 3) by omega, if_false] at h
        subst h
        have hm := invoke_none
        have s31 := s3 1
        clear O2 O3 HV HK s3
        go_wp2_with fail
        refine (kindOf_none w5).mono ?_
        rintro e w6 ⟨rfl, hw⟩
        rw [hw]
        clear hw w6
        go_wp2_with fail
        refine Calls.mono (dataNone_any _) ?_
        rintro e w7 ⟨rfl, b7⟩
        go_wp2
        go_ret2
        exact ⟨by rw [hr.out, entText_none, ← HVV.out, ← HFF.out]; rfl, below_via (below_more B5.out _) b7⟩
      · have hc := readConf_true (s := dt) (by
          have := HK.out
          simpa [kindOk] using this)
        have h := HV.out
        simp only [bodyIs, if_true] at h
        obtain ⟨u, rfl, hu⟩ := h
        rw [hc.2] at hu
        obtain ⟨_, va, vc, rfl, _⟩ := row_lie hu
        have HI := hid (ints_row rfl hu)
        have HC := hid hc
        have hm := invoke_conf (.slice va (intsOf dt.data.toList).length vc)
        have s31 := s3 2
        clear O1 O3 HV HK hu hc s3
        go_wp2_with fail
        refine (kindOf_conf _ w5).mono ?_
        rintro e w6 ⟨rfl, hw⟩
        rw [hw]
        clear hw w6
        go_wp2_with fail
        refine Calls.mono (dataConf_any va (intsOf dt.data.toList) vc HC.out.1 _ ((HI.out.on BV5.out).on (below_more (Below.refl _ _) _))) ?_
        rintro e w7 ⟨rfl, b7⟩
        rw [confBytes_intsOf, show (⟨dt.data.toList.toArray⟩ : ByteArray) = dt by simp]
        go_wp2
        go_ret2
        exact ⟨by rw [hr.out, ← HVV.out, ← HFF.out]; rfl, below_via (below_more B5.out _) b7⟩
      · have h := HV.out
        simp only [bodyIs, show ¬ ((3 : Int) = 2) by omega, if_false, if_true] at h
        subst h
        have hm := invoke_command (.string dt)
        have s31 := s3 3
        clear O1 O2 HV HK s3
        go_wp2_with fail
        refine (kindOf_command _ w5).mono ?_
        rintro e w6 ⟨rfl, hw⟩
        rw [hw]
        clear hw w6
        go_wp2_with fail
        refine Calls.mono (dataCommand_any dt _) ?_
        rintro e w7 ⟨rfl, b7⟩
        go_wp2
        go_ret2
        exact ⟨by rw [hr.out, ← HVV.out, ← HFF.out]; rfl, below_via (below_more B5.out _) b7⟩
end Go.Proofs.YtohmfmajgehadaaGreatDoor
