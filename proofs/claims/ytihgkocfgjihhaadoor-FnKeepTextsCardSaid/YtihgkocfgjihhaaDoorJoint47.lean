/-
  The walk of impl.CommandText: a writer whose buffer is embedded.
-/
import Derived.Test.YtihgkocfgjihhaaDoorJoint37
import Derived.Test.YtihgkocfgjihhaaDoorJoint44
import Derived.Deep.RegionWith
namespace Go.Proofs.YtihgkocfgjihhaaDoor
open Go.RowKit

set_option maxRecDepth 1000000 in
set_option maxHeartbeats 4000000 in
theorem implCommandText_any (d : CommandD) (w : World) :
    Calls Tryd.prog 13 #[.agg #[.int .i64 d.op, .int .i64 d.token, .int .i64 d.seq, .string d.key, .string d.val, .int .i64 d.ver]] w fun e w' => e = .returned (cmdAns d) ∧ Below w.heap.size w w' := by
  obtain ⟨op, tok, seq, key, val, ver⟩ := d
  dsimp only
  have HB := hid (below_more (Below.refl w.heap.size w) (.cells #[.int .i64 op, .int .i64 tok, .int .i64 seq, .string key, .string val, .int .i64 ver] 37))
  have HX : Hid (BlockIs (w.alloc (.cells #[.int .i64 op, .int .i64 tok, .int .i64 seq, .string key, .string val, .int .i64 ver] 37)) w.heap.size 37 [.int .i64 op, .int .i64 tok, .int .i64 seq, .string key, .string val, .int .i64 ver]) := heap_alloc_new w _
  obtain ⟨W, hW⟩ : ∃ W, w.alloc (.cells #[.int .i64 op, .int .i64 tok, .int .i64 seq, .string key, .string val, .int .i64 ver] 37) = W := ⟨_, rfl⟩
  rw [hW] at HB HX
  have c0 := HX.out.cell (j := 0) rfl
  have c1 := HX.out.cell (j := 1) rfl
  have c2 := HX.out.cell (j := 2) rfl
  have c3 := HX.out.cell (j := 3) rfl
  have c4 := HX.out.cell (j := 4) rfl
  have c5 := HX.out.cell (j := 5) rfl
  go_enter Tryd.func13, Tryd.ntmps13
  go_wp2_with fail
  refine (implCommandOk_any ⟨op, tok, seq, key, val, ver⟩ W).mono ?_
  rintro e w2 ⟨rfl, b2⟩
  cases hok : commandOk ⟨op, tok, seq, key, val, ver⟩ with
  | false =>
    have B2 := hid (below_via HB.out b2)
    have HN : Hid (cmdAns ⟨op, tok, seq, key, val, ver⟩ = .tuple #[.string ByteArray.empty, .bool false]) := (show _ = _ by rw [cmdAns, hok]; exact if_neg (by simp))
    clear b2 hok
    go_wp2
    go_ret2
    exact ⟨by rw [HN.out]; rfl, B2.out⟩
  | true =>
    obtain ⟨ho, ht, hq, hk, hv, hr⟩ := cmd_bounds hok
    dsimp only at ho ht hq hk hv hr
    have HN : Hid (cmdAns ⟨op, tok, seq, key, val, ver⟩ = .tuple #[.string (cmdText ⟨op, tok, seq, key, val, ver⟩), .bool true]) := (show _ = _ by rw [cmdAns, hok]; exact if_pos rfl)
    have X2 := HX.out.on b2 HX.out.lt
    have B2 := below_via HB.out b2
    have l2 := X2.lt
    obtain ⟨n0, rfl⟩ : ∃ n : Nat, op = n := ⟨op.toNat, by omega⟩
    obtain ⟨n1, rfl⟩ : ∃ n : Nat, tok = n := ⟨tok.toNat, by omega⟩
    obtain ⟨n2, rfl⟩ : ∃ n : Nat, seq = n := ⟨seq.toNat, by omega⟩
    obtain ⟨n5, rfl⟩ : ∃ n : Nat, ver = n := ⟨ver.toNat, by omega⟩
    have hwr : IntKind.u8.wrap (n0 : Int) = (n0 : Int) := by rw [IntKind.wrap_u8]; omega
    have hba := below_more (Below.refl w2.heap.size w2) (.cells #[.slice none 0 0, .int .i64 0, .int .i8 0] 52)
    have W3 := hid (wr_new w2 (w.heap.size + 1) l2)
    have X3 := hid (X2.on hba l2)
    have B3 := hid (B2.trans (hba.mono B2.size))
    have S3 : Hid (w.heap.size + 1 ≤ (w2.alloc (.cells #[.slice none 0 0, .int .i64 0, .int .i8 0] 52)).heap.size) := Nat.le_trans l2 hba.size
    obtain ⟨q, hq2⟩ : ∃ q, w2.heap.size = q := ⟨_, rfl⟩
    rw [hq2] at W3
    obtain ⟨u, hu⟩ : ∃ W, w2.alloc (.cells #[.slice none 0 0, .int .i64 0, .int .i8 0] 52) = W := ⟨_, rfl⟩
    rw [hu] at W3 X3 B3 S3
    have HQ := hid hq2
    have HU := hid hu
    clear b2 hok c0 c1 c2 c3 c4 c5 HX HB hW X2 B2 hba hq2 hu l2
    have c0 := X3.out.cell (j := 0) rfl
    have c1 := X3.out.cell (j := 1) rfl
    have c2 := X3.out.cell (j := 2) rfl
    have c3 := X3.out.cell (j := 3) rfl
    have c4 := X3.out.cell (j := 4) rfl
    have c5 := X3.out.cell (j := 5) rfl
    go_wp2
    rw [HU.out, HQ.out]
    have cB := hid (fun (x : World) (hx : WrIs x (w.heap.size + 1) q []) (hs : w.heap.size + 1 ≤ x.heap.size) => writeByte_on (w.heap.size + 1) q [] n0 (by omega) x hx hs (by simp))
    go_region_with (go_at_call 38; refine (cB.out _ (W3.out.on (below_drewN (Below.refl _ _) 1)) S3.out).mono ?_; rintro e w4 ⟨rfl, hw4, b4, _⟩)
    have b4' : Below (w.heap.size + 1) u w4 := (below_drewN (Below.refl _ u) 1).trans b4
    have W4 := hid hw4
    have X4 := hid (X3.out.on b4' (Nat.lt_succ_self _))
    have B4 := hid (B3.out.trans (b4'.mono (Nat.le_succ _)))
    have S4 : Hid (w.heap.size + 1 ≤ w4.heap.size) := Nat.le_trans S3.out b4'.size
    clear hw4 b4 b4' W3 X3 B3 S3 c0 c1 c2 c3 c4 c5 cB HU HQ
    have c := X4.out.cell (j := 1) rfl
    go_wp2_with fail
    refine (wrNumber_on (w.heap.size + 1) q ([] ++ [UInt8.ofNat n0]) n1 (by omega) w4 W4.out S4.out (by have := vb_len (n := n1) (by omega); have := vb_len (n := n2) (by omega); have := vb_len (n := key.size) (by omega); have := vb_len (n := val.size) (by omega); first | (simp; done) | (simp; omega))).mono ?_
    rintro e w5 ⟨rfl, hw5, b5, _⟩
    have W5 := hid hw5
    have X5 := hid (X4.out.on b5 (Nat.lt_succ_self _))
    have B5 := hid (B4.out.trans (b5.mono (Nat.le_succ _)))
    have S5 : Hid (w.heap.size + 1 ≤ w5.heap.size) := Nat.le_trans S4.out b5.size
    clear hw5 b5 W4 X4 B4 S4 c
    have c := X5.out.cell (j := 2) rfl
    go_wp2_with fail
    refine (wrNumber_on (w.heap.size + 1) q (([] ++ [UInt8.ofNat n0]) ++ vb n1) n2 (by omega) w5 W5.out S5.out (by have := vb_len (n := n1) (by omega); have := vb_len (n := n2) (by omega); have := vb_len (n := key.size) (by omega); have := vb_len (n := val.size) (by omega); first | (simp; done) | (simp; omega))).mono ?_
    rintro e w6 ⟨rfl, hw6, b6, _⟩
    have W6 := hid hw6
    have X6 := hid (X5.out.on b6 (Nat.lt_succ_self _))
    have B6 := hid (B5.out.trans (b6.mono (Nat.le_succ _)))
    have S6 : Hid (w.heap.size + 1 ≤ w6.heap.size) := Nat.le_trans S5.out b6.size
    clear hw6 b6 W5 X5 B5 S5 c
    have c := X6.out.cell (j := 3) rfl
    go_wp2_with fail
    refine (wrShort_on (w.heap.size + 1) q ((([] ++ [UInt8.ofNat n0]) ++ vb n1) ++ vb n2) key (by omega) w6 W6.out S6.out (by have := vb_len (n := n1) (by omega); have := vb_len (n := n2) (by omega); have := vb_len (n := key.size) (by omega); have := vb_len (n := val.size) (by omega); first | (simp; done) | (simp; omega))).mono ?_
    rintro e w7 ⟨rfl, hw7, b7, _⟩
    have W7 := hid hw7
    have X7 := hid (X6.out.on b7 (Nat.lt_succ_self _))
    have B7 := hid (B6.out.trans (b7.mono (Nat.le_succ _)))
    have S7 : Hid (w.heap.size + 1 ≤ w7.heap.size) := Nat.le_trans S6.out b7.size
    clear hw7 b7 W6 X6 B6 S6 c
    have c := X7.out.cell (j := 4) rfl
    go_wp2_with fail
    refine (wrShort_on (w.heap.size + 1) q (((([] ++ [UInt8.ofNat n0]) ++ vb n1) ++ vb n2) ++ (vb key.size ++ key.data.toList)) val (by omega) w7 W7.out S7.out (by have := vb_len (n := n1) (by omega); have := vb_len (n := n2) (by omega); have := vb_len (n := key.size) (by omega); have := vb_len (n := val.size) (by omega); first | (simp; done) | (simp; omega))).mono ?_
    rintro e w8 ⟨rfl, hw8, b8, _⟩
    have W8 := hid hw8
    have X8 := hid (X7.out.on b8 (Nat.lt_succ_self _))
    have B8 := hid (B7.out.trans (b8.mono (Nat.le_succ _)))
    have S8 : Hid (w.heap.size + 1 ≤ w8.heap.size) := Nat.le_trans S7.out b8.size
    clear hw8 b8 W7 X7 B7 S7 c
    have c := X8.out.cell (j := 5) rfl
    go_wp2_with fail
    refine (wrNumber_on (w.heap.size + 1) q ((((([] ++ [UInt8.ofNat n0]) ++ vb n1) ++ vb n2) ++ (vb key.size ++ key.data.toList)) ++ (vb val.size ++ val.data.toList)) n5 (by omega) w8 W8.out S8.out (by have := vb_len (n := n1) (by omega); have := vb_len (n := n2) (by omega); have := vb_len (n := key.size) (by omega); have := vb_len (n := val.size) (by omega); first | (simp; done) | (simp; omega))).mono ?_
    rintro e w9 ⟨rfl, hw9, b9, _⟩
    have W9 := hid hw9
    have X9 := hid (X8.out.on b9 (Nat.lt_succ_self _))
    have B9 := hid (B8.out.trans (b9.mono (Nat.le_succ _)))
    have S9 : Hid (w.heap.size + 1 ≤ w9.heap.size) := Nat.le_trans S8.out b9.size
    clear hw9 b9 W8 X8 B8 S8 c
    have HT : Hid ((⟨((((((([] ++ [UInt8.ofNat n0]) ++ vb n1) ++ vb n2) ++ (vb key.size ++ key.data.toList)) ++ (vb val.size ++ val.data.toList)) ++ vb n5)).toArray⟩ : ByteArray) = cmdText ⟨(n0 : Int), (n1 : Int), (n2 : Int), key, val, (n5 : Int)⟩) := (show _ = _ by
      apply ByteArray.ext
      apply Array.toList_inj.1
      rw [cmdText_list]
      simp)
    have cS := hid (string_on (w.heap.size + 1) q _ w9 W9.out)
    rw [HT.out] at cS
    obtain ⟨T, hT⟩ : ∃ T, cmdText ⟨(n0 : Int), (n1 : Int), (n2 : Int), key, val, (n5 : Int)⟩ = T := ⟨_, rfl⟩
    rw [hT] at cS HN
    clear hT HT W9 X9
    go_wp2_with fail
    refine cS.out.mono ?_
    rintro e w10 ⟨rfl, b10⟩
    have B10 := hid (below_via B9.out b10)
    clear b10 cS
    go_wp2
    go_ret2
    exact ⟨by rw [HN.out]; rfl, B10.out⟩
end Go.Proofs.YtihgkocfgjihhaaDoor
