/-
  For every slice of bytes, laws.FnNumbers returns true: what VarText, Decimal, ShortText and Hex write is read back; nothing that was in memory is written. The tables of the library that strconv.Itoa reads are tied to the program's text (the card).
-/
import Derived.Test.YtcbmchbnfhjdgaaDoorCards
import Derived.Test.YtcbmchbnfhjdgaaDoorTie
import Derived.Test.YtcbmchbnfhjdgaaDoorDecI
import Derived.Test.YtcbmchbnfhjdgaaDoorVarI
import Derived.Test.YtcbmchbnfhjdgaaDoorShortI
import Derived.Test.YtcbmchbnfhjdgaaDoorReadShortI
import Derived.Test.YtcbmchbnfhjdgaaDoorHexI
import Derived.Test.YtcbmchbnfhjdgaaDoorUnhexI
import Derived.Test.YtcbmchbnfhjdgaaDoorRdecI
import Derived.Test.YtcbmchbnfhjdgaaDoorPlainBack
import Derived.Test.YtcbmchbnfhjdgaaDoorDrawNum
import Derived.Test.YtcbmchbnfhjdgaaDoorDrawHex
import Derived.Test.YtcbmchbnfhjdgaaDoorBig
import Derived.Deep.DeepCutAuto
import Derived.WalkKit
import Derived.ProofKit
import Derived.OpenShut
import Derived.Deep.DeepHandedRow
import Derived.Lib.LaidTab
import Derived.Stop.LaidErr
namespace Go.Proofs.YtcbmchbnfhjdgaaDoor.fnNumbers
open Go.ChangeShapes Go.WideShapes Go.ChangeAt Go.RowKit

/-- a number between two letters is read back -/
theorem var_back (n : Nat) (hn : n ≤ 1000000000) (w : World) : Calls Tryd.prog 8 #[.string (⟨#[120]⟩ ++ ⟨(vb n).toArray⟩ ++ ⟨#[121]⟩), .int .i64 1] w fun e w' => e = .returned (.tuple #[.int .i64 n, .int .i64 (((vb n).length : Int) + 1), .bool true]) ∧ w' = w := by
  have hl : (⟨#[120]⟩ ++ ⟨(vb n).toArray⟩ ++ ⟨#[121]⟩ : ByteArray).data.toList = 120 :: (vb n ++ [121]) := by simp [ByteArray.data_append]
  have hsz : (⟨#[120]⟩ ++ ⟨(vb n).toArray⟩ ++ ⟨#[121]⟩ : ByteArray).size = (vb n).length + 2 := by
    have h1 : (⟨#[120]⟩ ++ ⟨(vb n).toArray⟩ ++ ⟨#[121]⟩ : ByteArray).size = (⟨#[120]⟩ ++ ⟨(vb n).toArray⟩ ++ ⟨#[121]⟩ : ByteArray).data.toList.length := by rw [Array.length_toList]; rfl
    rw [h1, hl]
    simp
  have hv := vb_len hn
  have c := implReadVar_in (⟨#[120]⟩ ++ ⟨(vb n).toArray⟩ ++ ⟨#[121]⟩) 1 (by omega) (by omega) w
  rw [hl, List.drop_succ_cons, List.drop_zero, rv_vb hn] at c
  refine c.mono ?_
  rintro e w' ⟨rfl, hw⟩
  refine ⟨?_, hw⟩
  simp only [rvAns]
  rw [show ((1 + (vb n).length : Nat) : Int) = ((vb n).length : Int) + 1 by omega]

/-- a number in decimal is read back -/
theorem dec_read (n : Nat) (hn : n ≤ 1000000000) (w : World) : Calls Tryd.prog 9 #[.string ⟨(dec (n : Int)).toArray⟩] w fun e w' => e = .returned (.tuple #[.int .i64 n, .bool true]) ∧ Below w.heap.size w w' := by
  obtain ⟨h1, h2, h3⟩ := dec_back n hn
  have hl : (⟨(dec (n : Int)).toArray⟩ : ByteArray).data.toList = dec n := by simp
  have hsz : (⟨(dec (n : Int)).toArray⟩ : ByteArray).size ≤ 10 := by show (dec (n : Int)).toArray.size ≤ 10; simpa using h3
  have c := implReadDecimal_any ⟨(dec (n : Int)).toArray⟩ hsz w
  rw [hl] at c
  refine c.mono ?_
  rintro e w' ⟨(⟨q, rfl⟩ | ⟨q, rfl⟩), hb⟩
  · exact ⟨by rw [h2], hb⟩
  · exact absurd h1 q

theorem short_size (T : ByteArray) (h : T.size ≤ 300) : (⟨(vb T.size).toArray⟩ ++ T : ByteArray).size ≤ 140737488355328 := by
  rw [ByteArray.size_append]
  have := vb_len (n := T.size) (by omega)
  show (vb T.size).toArray.size + T.size ≤ _
  simp
  omega
theorem short_len (T : ByteArray) : (⟨(vb T.size).toArray⟩ ++ T : ByteArray).size = (vb T.size).length + T.size := by
  rw [ByteArray.size_append]
  show (vb T.size).toArray.size + T.size = _
  simp

/-- a text in figures is read back -/
theorem unhex_back (T : ByteArray) (h : T.size ≤ 300) (w : World) : Calls Tryd.prog 15 #[.string ⟨(hexOf T.data.toList).toArray⟩] w fun e w' => e = .returned (.tuple #[.string T, .bool true]) ∧ Below w.heap.size w w' := by
  have hl : (⟨(hexOf T.data.toList).toArray⟩ : ByteArray).data.toList = hexOf T.data.toList := by simp
  have hsz : (⟨(hexOf T.data.toList).toArray⟩ : ByteArray).size = 2 * T.size := by
    show (hexOf T.data.toList).toArray.size = _
    simp [hexOf_length]
  have c := implUnhex_any ⟨(hexOf T.data.toList).toArray⟩ (by omega) (by omega) w
  rw [hl, unh_hex] at c
  refine c.mono ?_
  rintro e w' ⟨(⟨q, rfl⟩ | ⟨q, rfl⟩), hb⟩
  · exact ⟨by rw [text_list], hb⟩
  · exact absurd (figs_hex _) q

set_option maxRecDepth 1000000 in
set_option maxHeartbeats 2000000 in
theorem walk (ao : Option Addr) (len cap : Nat) (hcap : len ≤ cap) (w : World) (hr : Bytes w ao len) (htab : Lib.TabIs Tryd.prog w "internal/strconv.uint64pow10" .u64 Lib.pow10Tab) :
    Calls Tryd.prog 3 #[.slice ao len cap] w fun e w' => e = .returned (.bool true) ∧ Below w.heap.size w w' := by
  have HR := (show Hid (Bytes w ao len) from hr)
  have HT := (show Hid (Lib.TabIs Tryd.prog w "internal/strconv.uint64pow10" .u64 Lib.pow10Tab) from htab)
  clear hr htab
  by_cases hbig : 1048576 < len
  · go_enter Tryd.func3, Tryd.ntmps3
    go_wp2
    go_ret
    exact ⟨rfl, Below.refl _ _⟩
  · have hlen : len ≤ 1048576 := by omega
    go_enter Tryd.func3, Tryd.ntmps3
    go_wp2_with fail
    refine (big_no ao len cap hlen _).mono ?_
    rintro e w0 ⟨rfl, hw0⟩
    rw [hw0]
    clear hw0 w0
    go_wp2_with fail
    refine (drawVarText_any ao len cap hlen hcap _ HR.out).mono ?_
    rintro e w1 ⟨x, rfl, f1, b1⟩
    have B1 := (show Hid (Below w.heap.size w w1) from b1)
    clear b1 f1
    by_cases hx0 : x < 0
    · go_wp2_with fail
      obtain ⟨n, hne, hn⟩ : ∃ n : Nat, (12345 : Int) = (n : Int) ∧ n ≤ 1000000000 := ⟨12345, rfl, by omega⟩
      rw [hne]
      clear hne
      refine (implVarText_yes n hn _).mono ?_
      rintro e w2 ⟨rfl, b2⟩
      have B2 : Hid (Below w.heap.size w w2) := B1.out.trans (b2.mono B1.out.size)
      clear b2
      have C3 := (show Hid _ from var_back n hn)
      have hv := vb_len hn
      go_wp2_with fail
      refine (C3.out _).mono ?_
      rintro e w3 ⟨rfl, hw3⟩
      rw [hw3]
      clear hw3 w3 C3
      go_wp2_with fail
      refine (implDecimal_any (n : Int) (by omega) (by omega) _ (table_on HT.out B2.out)).mono ?_
      rintro e w4 ⟨rfl, b4⟩
      have B4 : Hid (Below w.heap.size w w4) := B2.out.trans (b4.mono B2.out.size)
      clear b4
      have C5 := (show Hid _ from dec_read n hn)
      go_wp2_with fail
      refine (C5.out _).mono ?_
      rintro e w5 ⟨rfl, b5⟩
      have B5 : Hid (Below w.heap.size w w5) := B4.out.trans (b5.mono B4.out.size)
      clear b5 C5
      go_wp2_with fail
      refine (drawHex_any ao len cap hlen hcap _ (bytes_on HR.out B5.out)).mono ?_
      rintro e w6 ⟨S, rfl, hS, b6⟩
      have B6 : Hid (Below w.heap.size w w6) := B5.out.trans (b6.mono B5.out.size)
      clear b6
      by_cases hs3 : (300 : Int) < (S.size : Int)
      · go_wp2_with fail
        obtain ⟨T, hT, hTs⟩ : ∃ T : ByteArray, (⟨#[97, 98, 99]⟩ : ByteArray) = T ∧ T.size ≤ 300 := ⟨_, rfl, by decide⟩
        rw [hT]
        have HS := (show Hid (T.size ≤ 300) from hTs)
        clear hT hTs
        refine (implShortText_yes T (by have := HS.out; omega) _).mono ?_
        rintro e w7 ⟨rfl, b7⟩
        have B7 : Hid (Below w.heap.size w w7) := B6.out.trans (b7.mono B6.out.size)
        clear b7
        have C8 := (show Hid _ from implReadShort_any (⟨(vb T.size).toArray⟩ ++ T) 0 (short_size T HS.out))
        go_wp2_with fail
        refine (C8.out _).mono ?_
        rw [rs_back T (by have := HS.out; omega)]
        rintro e w8 ⟨rfl, b8⟩
        have B8 : Hid (Below w.heap.size w w8) := B7.out.trans (b8.mono B7.out.size)
        clear b8 C8
        simp only [rsAns]
        rw [extract_back]
        go_wp2_with fail
        refine (implHex_yes T (by have := HS.out; omega) _).mono ?_
        rintro e w9 ⟨rfl, b9⟩
        have B9 : Hid (Below w.heap.size w w9) := B8.out.trans (b9.mono B8.out.size)
        clear b9
        have C10 := (show Hid _ from unhex_back T HS.out)
        go_wp2_with fail
        refine (C10.out _).mono ?_
        rintro e w10 ⟨rfl, b10⟩
        have B10 : Hid (Below w.heap.size w w10) := B9.out.trans (b10.mono B9.out.size)
        clear b10 C10
        have hsz := short_len T
        have g1 : ((n : Int) == (n : Int)) = true := by simp
        go_wp2
        go_ret
        exact ⟨by simp, B10.out⟩

      · go_wp2_with fail
        obtain ⟨T, hT⟩ : ∃ T : ByteArray, S = T := ⟨_, rfl⟩
        subst hT
        have HS : Hid (S.size ≤ 300) := by show _ ≤ _; omega
        refine (implShortText_yes S (by have := HS.out; omega) _).mono ?_
        rintro e w7 ⟨rfl, b7⟩
        have B7 : Hid (Below w.heap.size w w7) := B6.out.trans (b7.mono B6.out.size)
        clear b7
        have C8 := (show Hid _ from implReadShort_any (⟨(vb S.size).toArray⟩ ++ S) 0 (short_size S HS.out))
        go_wp2_with fail
        refine (C8.out _).mono ?_
        rw [rs_back S (by have := HS.out; omega)]
        rintro e w8 ⟨rfl, b8⟩
        have B8 : Hid (Below w.heap.size w w8) := B7.out.trans (b8.mono B7.out.size)
        clear b8 C8
        simp only [rsAns]
        rw [extract_back]
        go_wp2_with fail
        refine (implHex_yes S (by have := HS.out; omega) _).mono ?_
        rintro e w9 ⟨rfl, b9⟩
        have B9 : Hid (Below w.heap.size w w9) := B8.out.trans (b9.mono B8.out.size)
        clear b9
        have C10 := (show Hid _ from unhex_back S HS.out)
        go_wp2_with fail
        refine (C10.out _).mono ?_
        rintro e w10 ⟨rfl, b10⟩
        have B10 : Hid (Below w.heap.size w w10) := B9.out.trans (b10.mono B9.out.size)
        clear b10 C10
        have hsz := short_len S
        have g1 : ((n : Int) == (n : Int)) = true := by simp
        go_wp2
        go_ret
        exact ⟨by simp, B10.out⟩
    · by_cases hx1 : 1000000000 < x
      · go_wp2_with fail
        obtain ⟨n, hne, hn⟩ : ∃ n : Nat, (12345 : Int) = (n : Int) ∧ n ≤ 1000000000 := ⟨12345, rfl, by omega⟩
        rw [hne]
        clear hne
        refine (implVarText_yes n hn _).mono ?_
        rintro e w2 ⟨rfl, b2⟩
        have B2 : Hid (Below w.heap.size w w2) := B1.out.trans (b2.mono B1.out.size)
        clear b2
        have C3 := (show Hid _ from var_back n hn)
        have hv := vb_len hn
        go_wp2_with fail
        refine (C3.out _).mono ?_
        rintro e w3 ⟨rfl, hw3⟩
        rw [hw3]
        clear hw3 w3 C3
        go_wp2_with fail
        refine (implDecimal_any (n : Int) (by omega) (by omega) _ (table_on HT.out B2.out)).mono ?_
        rintro e w4 ⟨rfl, b4⟩
        have B4 : Hid (Below w.heap.size w w4) := B2.out.trans (b4.mono B2.out.size)
        clear b4
        have C5 := (show Hid _ from dec_read n hn)
        go_wp2_with fail
        refine (C5.out _).mono ?_
        rintro e w5 ⟨rfl, b5⟩
        have B5 : Hid (Below w.heap.size w w5) := B4.out.trans (b5.mono B4.out.size)
        clear b5 C5
        go_wp2_with fail
        refine (drawHex_any ao len cap hlen hcap _ (bytes_on HR.out B5.out)).mono ?_
        rintro e w6 ⟨S, rfl, hS, b6⟩
        have B6 : Hid (Below w.heap.size w w6) := B5.out.trans (b6.mono B5.out.size)
        clear b6
        by_cases hs3 : (300 : Int) < (S.size : Int)
        · go_wp2_with fail
          obtain ⟨T, hT, hTs⟩ : ∃ T : ByteArray, (⟨#[97, 98, 99]⟩ : ByteArray) = T ∧ T.size ≤ 300 := ⟨_, rfl, by decide⟩
          rw [hT]
          have HS := (show Hid (T.size ≤ 300) from hTs)
          clear hT hTs
          refine (implShortText_yes T (by have := HS.out; omega) _).mono ?_
          rintro e w7 ⟨rfl, b7⟩
          have B7 : Hid (Below w.heap.size w w7) := B6.out.trans (b7.mono B6.out.size)
          clear b7
          have C8 := (show Hid _ from implReadShort_any (⟨(vb T.size).toArray⟩ ++ T) 0 (short_size T HS.out))
          go_wp2_with fail
          refine (C8.out _).mono ?_
          rw [rs_back T (by have := HS.out; omega)]
          rintro e w8 ⟨rfl, b8⟩
          have B8 : Hid (Below w.heap.size w w8) := B7.out.trans (b8.mono B7.out.size)
          clear b8 C8
          simp only [rsAns]
          rw [extract_back]
          go_wp2_with fail
          refine (implHex_yes T (by have := HS.out; omega) _).mono ?_
          rintro e w9 ⟨rfl, b9⟩
          have B9 : Hid (Below w.heap.size w w9) := B8.out.trans (b9.mono B8.out.size)
          clear b9
          have C10 := (show Hid _ from unhex_back T HS.out)
          go_wp2_with fail
          refine (C10.out _).mono ?_
          rintro e w10 ⟨rfl, b10⟩
          have B10 : Hid (Below w.heap.size w w10) := B9.out.trans (b10.mono B9.out.size)
          clear b10 C10
          have hsz := short_len T
          have g1 : ((n : Int) == (n : Int)) = true := by simp
          go_wp2
          go_ret
          exact ⟨by simp, B10.out⟩

        · go_wp2_with fail
          obtain ⟨T, hT⟩ : ∃ T : ByteArray, S = T := ⟨_, rfl⟩
          subst hT
          have HS : Hid (S.size ≤ 300) := by show _ ≤ _; omega
          refine (implShortText_yes S (by have := HS.out; omega) _).mono ?_
          rintro e w7 ⟨rfl, b7⟩
          have B7 : Hid (Below w.heap.size w w7) := B6.out.trans (b7.mono B6.out.size)
          clear b7
          have C8 := (show Hid _ from implReadShort_any (⟨(vb S.size).toArray⟩ ++ S) 0 (short_size S HS.out))
          go_wp2_with fail
          refine (C8.out _).mono ?_
          rw [rs_back S (by have := HS.out; omega)]
          rintro e w8 ⟨rfl, b8⟩
          have B8 : Hid (Below w.heap.size w w8) := B7.out.trans (b8.mono B7.out.size)
          clear b8 C8
          simp only [rsAns]
          rw [extract_back]
          go_wp2_with fail
          refine (implHex_yes S (by have := HS.out; omega) _).mono ?_
          rintro e w9 ⟨rfl, b9⟩
          have B9 : Hid (Below w.heap.size w w9) := B8.out.trans (b9.mono B8.out.size)
          clear b9
          have C10 := (show Hid _ from unhex_back S HS.out)
          go_wp2_with fail
          refine (C10.out _).mono ?_
          rintro e w10 ⟨rfl, b10⟩
          have B10 : Hid (Below w.heap.size w w10) := B9.out.trans (b10.mono B9.out.size)
          clear b10 C10
          have hsz := short_len S
          have g1 : ((n : Int) == (n : Int)) = true := by simp
          go_wp2
          go_ret
          exact ⟨by simp, B10.out⟩
      · obtain ⟨n, rfl⟩ : ∃ n : Nat, x = n := ⟨x.toNat, by omega⟩
        have hn : n ≤ 1000000000 := by omega
        go_wp2_with fail
        refine (implVarText_yes n hn _).mono ?_
        rintro e w2 ⟨rfl, b2⟩
        have B2 : Hid (Below w.heap.size w w2) := B1.out.trans (b2.mono B1.out.size)
        clear b2
        have C3 := (show Hid _ from var_back n hn)
        have hv := vb_len hn
        go_wp2_with fail
        refine (C3.out _).mono ?_
        rintro e w3 ⟨rfl, hw3⟩
        rw [hw3]
        clear hw3 w3 C3
        go_wp2_with fail
        refine (implDecimal_any (n : Int) (by omega) (by omega) _ (table_on HT.out B2.out)).mono ?_
        rintro e w4 ⟨rfl, b4⟩
        have B4 : Hid (Below w.heap.size w w4) := B2.out.trans (b4.mono B2.out.size)
        clear b4
        have C5 := (show Hid _ from dec_read n hn)
        go_wp2_with fail
        refine (C5.out _).mono ?_
        rintro e w5 ⟨rfl, b5⟩
        have B5 : Hid (Below w.heap.size w w5) := B4.out.trans (b5.mono B4.out.size)
        clear b5 C5
        go_wp2_with fail
        refine (drawHex_any ao len cap hlen hcap _ (bytes_on HR.out B5.out)).mono ?_
        rintro e w6 ⟨S, rfl, hS, b6⟩
        have B6 : Hid (Below w.heap.size w w6) := B5.out.trans (b6.mono B5.out.size)
        clear b6
        by_cases hs3 : (300 : Int) < (S.size : Int)
        · go_wp2_with fail
          obtain ⟨T, hT, hTs⟩ : ∃ T : ByteArray, (⟨#[97, 98, 99]⟩ : ByteArray) = T ∧ T.size ≤ 300 := ⟨_, rfl, by decide⟩
          rw [hT]
          have HS := (show Hid (T.size ≤ 300) from hTs)
          clear hT hTs
          refine (implShortText_yes T (by have := HS.out; omega) _).mono ?_
          rintro e w7 ⟨rfl, b7⟩
          have B7 : Hid (Below w.heap.size w w7) := B6.out.trans (b7.mono B6.out.size)
          clear b7
          have C8 := (show Hid _ from implReadShort_any (⟨(vb T.size).toArray⟩ ++ T) 0 (short_size T HS.out))
          go_wp2_with fail
          refine (C8.out _).mono ?_
          rw [rs_back T (by have := HS.out; omega)]
          rintro e w8 ⟨rfl, b8⟩
          have B8 : Hid (Below w.heap.size w w8) := B7.out.trans (b8.mono B7.out.size)
          clear b8 C8
          simp only [rsAns]
          rw [extract_back]
          go_wp2_with fail
          refine (implHex_yes T (by have := HS.out; omega) _).mono ?_
          rintro e w9 ⟨rfl, b9⟩
          have B9 : Hid (Below w.heap.size w w9) := B8.out.trans (b9.mono B8.out.size)
          clear b9
          have C10 := (show Hid _ from unhex_back T HS.out)
          go_wp2_with fail
          refine (C10.out _).mono ?_
          rintro e w10 ⟨rfl, b10⟩
          have B10 : Hid (Below w.heap.size w w10) := B9.out.trans (b10.mono B9.out.size)
          clear b10 C10
          have hsz := short_len T
          have g1 : ((n : Int) == (n : Int)) = true := by simp
          go_wp2
          go_ret
          exact ⟨by simp, B10.out⟩

        · go_wp2_with fail
          obtain ⟨T, hT⟩ : ∃ T : ByteArray, S = T := ⟨_, rfl⟩
          subst hT
          have HS : Hid (S.size ≤ 300) := by show _ ≤ _; omega
          refine (implShortText_yes S (by have := HS.out; omega) _).mono ?_
          rintro e w7 ⟨rfl, b7⟩
          have B7 : Hid (Below w.heap.size w w7) := B6.out.trans (b7.mono B6.out.size)
          clear b7
          have C8 := (show Hid _ from implReadShort_any (⟨(vb S.size).toArray⟩ ++ S) 0 (short_size S HS.out))
          go_wp2_with fail
          refine (C8.out _).mono ?_
          rw [rs_back S (by have := HS.out; omega)]
          rintro e w8 ⟨rfl, b8⟩
          have B8 : Hid (Below w.heap.size w w8) := B7.out.trans (b8.mono B7.out.size)
          clear b8 C8
          simp only [rsAns]
          rw [extract_back]
          go_wp2_with fail
          refine (implHex_yes S (by have := HS.out; omega) _).mono ?_
          rintro e w9 ⟨rfl, b9⟩
          have B9 : Hid (Below w.heap.size w w9) := B8.out.trans (b9.mono B8.out.size)
          clear b9
          have C10 := (show Hid _ from unhex_back S HS.out)
          go_wp2_with fail
          refine (C10.out _).mono ?_
          rintro e w10 ⟨rfl, b10⟩
          have B10 : Hid (Below w.heap.size w w10) := B9.out.trans (b10.mono B9.out.size)
          clear b10 C10
          have hsz := short_len S
          have g1 : ((n : Int) == (n : Int)) = true := by simp
          go_wp2
          go_ret
          exact ⟨by simp, B10.out⟩

theorem own : ownKnob Tryd.prog.godebug = none := by kernel_rfl
theorem laidOut : laidOutB Tryd.prog = true := by kernel_rfl
theorem gTabType : (Tryd.prog.globals[0]?).map (·.type) = some 63 := by kernel_rfl
theorem cellsT : Tryd.prog.cellsOf 63 = 20 := by kernel_rfl
theorem cellsE : Tryd.prog.cellsOf 56 = 1 := by kernel_rfl
theorem same : (Rows.laid_internal_strconv_uint64pow10 : DataW Unit) = Lib.tabData .u64 Lib.pow10Tab := by kernel_rfl

theorem met {W : World} (h : laidMetH Tryd.prog Rows.fnNumbersRow.laid W) : laidMet Tryd.prog Rows.fnNumbersRow.laid W := h

/-- what the row's list gives: the table of the powers of ten -/
theorem table {W : World} (h : laidMetH Tryd.prog Rows.fnNumbersRow.laid W) : Lib.TabIs Tryd.prog W "internal/strconv.uint64pow10" .u64 Lib.pow10Tab := by
  have h1 := met h
  unfold Rows.fnNumbersRow at h1
  have h2 := h1.tail.tail
  rw [same] at h2
  exact Lib.tabIs_of_head (rest := []) powTab gTabType Tryd.underlying63 Tryd.underlying56 cellsE cellsT h2

theorem contract (H : Type) (enc : TypeId × Value → H) (W : World) (base : Nat) (args : Array Value) (ds gs : List (DataW H)) (before : List MemPlace)
    (hval : ∀ (j : Nat) t v, Tryd.f3.params[j]? = some t → args[j]? = some v → Value.okWide Tryd.prog W .any base t v)
    (hW : DataW.Whole enc Tryd.prog Tryd.f3.params.toList Rows.fnNumbersSpec.vars false W args.toList ds gs before) (hL : laidMetH Tryd.prog Rows.fnNumbersRow.laid W) :
    Calls Tryd.prog 3 args W fun e W' => ∃ v, e = .returned v ∧ Rows.fnNumbersSpec.post enc Tryd.prog Tryd.f3 false true false false W args v W' := by
  have hW' := hW
  obtain ⟨p, q, hA0, hV, rfl, hfz, hnd⟩ := hW
  have hA : DataW.TrodAll enc Tryd.prog W 0 (fun _ => true) true Tryd.f3.params.toList args.toList ds p := hA0
  rw [Tryd.params3] at hA hval
  obtain ⟨v0, vs0, d0, ds0, p0, q0, hargs, rfl, rfl, h0, r0⟩ := trodAll_cons hA
  obtain ⟨rfl, rfl, rfl⟩ := trodAll_nil r0
  obtain rfl : args = #[v0] := by cases args; simp_all
  obtain ⟨rfl, rfl⟩ := trodVars_none hV
  obtain ⟨a0, len0, cap0, rfl⟩ := okWide_slice Tryd.underlying22 (hval 0 22 v0 rfl rfl)
  have k0 := h0
  have lt0 : ∀ x ∈ p0, x.block < W.heap.size := by obtain ⟨m, hm⟩ := k0; exact DataW.trod_lt m _ _ _ hm
  have hb : len0 ≤ cap0 ∧ Bytes W a0 len0 := by
    obtain ⟨fuel, hf⟩ := h0
    rcases open_ints Tryd.underlying22 Tryd.underlying5 (by kernel_rfl) hf with ⟨hcs, _⟩ | ⟨x, l, c, zs, hcs, _, hl, hm, hz, _, hcell, hwz⟩
    · simp [Value.cells] at hcs
      obtain ⟨rfl, rfl, rfl⟩ := hcs
      exact ⟨Nat.le_refl _, fun h => by omega⟩
    · simp [Value.cells] at hcs
      obtain ⟨rfl, rfl, rfl⟩ := hcs
      refine ⟨hl, fun hp => ?_⟩
      have hzl : zs.length = cap0 := by simpa using hz
      obtain ⟨b, off, rfl, hc⟩ := ints_at hcell (by omega)
      refine ⟨b, off, rfl, fun j hj => ?_⟩
      have hjz : j < zs.length := by omega
      have hb8 := bounds_u8 (hwz (zs.getD j 0) (by simp [List.getD, hjz]))
      exact ⟨zs.getD j 0, hb8.1, hb8.2, hc j hjz⟩
  clear hA0
  refine (walk a0 len0 cap0 hb.1 W hb.2 (table hL)).mono fun e W' ⟨he, bel⟩ => ?_
  subst he
  exact ⟨_, rfl, _, _, _, [], _, [], hW', trodAll_mk1 (shut_bool Tryd.underlying4 _), (trodAll_cons_mk (Below.trod laidOut (by kernel_rfl) (of_decide_eq_true (by kernel_rfl)) k0 bel lt0) trodAll_mk0), rfl, bel.frame _, fun h => by cases h⟩

def put (cs : Array Value) : Obj → Obj
  | .cells _ t frozen => .cells cs t frozen
  | o => o

/-- a world for the witness: the three tables hold what their initialisers lay -/
def laidWorld (w : World) : World :=
  { w with heap := ((w.heap.modify 0 (put (Lib.pow10Tab.map (Value.int .u64)).toArray)).modify 1 (put (([0, 1, 28, 2, 29, 14, 24, 3, 30, 22, 20, 15, 25, 17, 4, 8, 31, 27, 13, 23, 21, 19, 16, 7, 26, 12, 18, 6, 11, 5, 10, 9] : List Int).map (Value.int .u8)).toArray)).modify 2 (put (([0, 1, 56, 2, 57, 49, 28, 3, 61, 58, 42, 50, 38, 29, 17, 4, 62, 47, 59, 36, 45, 43, 51, 22, 53, 39, 33, 30, 24, 18, 12, 5, 63, 55, 48, 27, 60, 41, 37, 16, 46, 35, 44, 21, 52, 32, 23, 11, 54, 26, 40, 15, 34, 20, 31, 10, 25, 14, 19, 9, 13, 8, 7, 6] : List Int).map (Value.int .u8)).toArray) }
theorem laid_met (os : Os) : laidMet Tryd.prog Rows.fnNumbersRow.laid ((laidWorld (World.holding Tryd.prog os ⟨#[], #[], []⟩)).forCall (fun _ _ => 0) ⟨#[], #[.slice none 0 0], []⟩).memory :=
  laidMet_of_run' 8 (by kernel_rfl) (by kernel_rfl)
theorem reads (os : Os) {H : Type} (enc : TypeId × Value → H) : ∃ places, DataW.whole enc Tryd.prog ((laidWorld (World.holding Tryd.prog os ⟨#[], #[], []⟩)).forCall (fun _ _ => 0) ⟨#[], #[.slice none 0 0], []⟩).memory Tryd.f3.params.toList Rows.fnNumbersSpec.vars false #[Value.slice none 0 0].toList 8 = some ([.nil], [], places) :=
  ⟨[], by kernel_rfl⟩

set_option maxRecDepth 100000 in
theorem lifted (os : Os) (started : os.Started) (H : Type) (enc : TypeId × Value → H) (F : Stop.Interp) :
    ReturnsInHanded {} Tryd.checked os 3 .any ((OpenSpec.ofChange Rows.fnNumbersSpec).preRow enc Tryd.prog Tryd.f3 Rows.fnNumbersRow.domain false Rows.fnNumbersRow.laid) (((OpenSpec.ofChange Rows.fnNumbersSpec).at F).post enc Tryd.prog Tryd.f3 false true false false) := by
  obtain ⟨places, hx⟩ := reads os enc
  refine returnsInHanded_of_row (C := Tryd.checked) (s := OpenSpec.ofChange Rows.fnNumbersSpec) own started (by kernel_rfl) Tryd.func3
    (witness_row_at (enc := enc) (C := Tryd.checked) false (laidWorld (World.holding Tryd.prog os ⟨#[], #[], []⟩)) #[.slice none 0 0] rfl (by kernel_rfl) (by kernel_rfl) (by kernel_rfl)
      (OpenSpec.preRow_of_cond 8 hx (by kernel_rfl) (fun k hk => by cases hk) (by kernel_rfl) (laid_met os))) ?_
  intro W base args ds gs before hval hW _ _ _ hL _ _
  exact contract H enc W base args ds gs before hval hW hL

theorem said : Rows.FnNumbersSaid :=
  OpenClaim.holds_of_cond 3 Tryd.f3 rfl rfl rfl rfl rfl rfl rfl ⟨rfl, rfl, rfl, rfl, rfl⟩ rfl rfl rfl rfl rfl (by kernel_rfl) Tryd.func3 (by kernel_rfl)
    (of_decide_eq_true (by kernel_rfl)) (by unfold Func.isWrapper; first | (rw [if_pos (by decide +kernel)]; kernel_rfl) | (rw [if_neg (by decide +kernel)]; exact ⟨rfl, rfl⟩))
    (fun os started H enc _ F => by rw [OpenClaim.pre_eq_preRow]; exact lifted os started H enc F)

theorem plain (f : FuncId) (fn : Func) (hf : Tryd.pinned.checked.prog.funcNamed "loop.example/g00232/laws.FnNumbers" = some f) (hfn : Tryd.pinned.checked.prog.funcs[f]? = some fn) :
    false = Tryd.pinned.checked.prog.looks [] ∧ ∀ (j : Nat) t, fn.params[j]? = some t → Tryd.pinned.checked.prog.wantsStandIn t = false := by
  obtain rfl : f = 3 := Option.some.inj ((show Tryd.prog.funcNamed "loop.example/g00232/laws.FnNumbers" = some 3 by kernel_rfl).symm.trans hf) |>.symm
  obtain rfl : fn = Tryd.f3 := (Option.some.inj (Tryd.func3.symm.trans hfn)).symm
  refine ⟨by kernel_rfl, fun j t ht => ?_⟩
  rw [Tryd.params3] at ht
  obtain rfl : t = 22 := by simpa using Array.mem_of_getElem? ht
  exact (show Tryd.prog.wantsStandIn 22 = false by kernel_rfl)

theorem card : Rows.FnNumbersCardSaid :=
  Claim7.holds_tied_plain_at .later [] _ _ _ _ said (fun _ h => by cases h) (by kernel_rfl) (fun _ h => by cases h) fnNumbers_row_tie rfl ⟨rfl, rfl⟩ (by kernel_rfl) rfl plain (by kernel_rfl)
end Go.Proofs.YtcbmchbnfhjdgaaDoor.fnNumbers
