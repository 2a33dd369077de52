/-
  A command read back from its text: part by part, or whole and held against what would be written; nothing of the program stands here.
-/
import Derived.Test.YtdgohbhffjinmaaPlainAt
import Derived.Test.YtdgohbhffjinmaaPlainCmdText
namespace Go.Proofs.Ytdgohbhffjinmaa
open Go.RowKit

def byteAt (s : ByteArray) (k : Nat) : Option (Nat × Nat) := match s.data.toList[k]? with
  | some b => some (b.toNat, k + 1)
  | none => none
theorem byteAt_fits {s : ByteArray} {k n k' : Nat} (h : byteAt s k = some (n, k')) : n ≤ 255 ∧ k' = k + 1 ∧ k < s.size ∧ s.data.toList.drop k = UInt8.ofNat n :: s.data.toList.drop (k + 1) := by
  unfold byteAt at h
  cases hb : s.data.toList[k]? with
  | none => rw [hb] at h; cases h
  | some b =>
    rw [hb] at h
    cases h
    obtain ⟨hk, e⟩ := List.getElem?_eq_some_iff.1 hb
    have := b.toNat_lt
    refine ⟨by omega, rfl, by simpa using hk, ?_⟩
    rw [List.drop_eq_getElem_cons hk, e]
    simp
def cmdAt (s : ByteArray) : Option (CommandD × Nat) :=
  (byteAt s 0).bind fun p0 => (numAt s 1000000 p0.2).bind fun p1 => (numAt s 1000000 p1.2).bind fun p2 => (txtAt s p2.2).bind fun p3 => (txtAt s p3.2).bind fun p4 => (numAt s 1000000000 p4.2).bind fun p5 =>
    if commandOk ⟨p0.1, p1.1, p2.1, p3.1, p4.1, p5.1⟩ = true then some (⟨p0.1, p1.1, p2.1, p3.1, p4.1, p5.1⟩, p5.2) else none
def readCmd (s : ByteArray) : Option CommandD := (cmdAt s).bind fun p => if p.2 = s.size then some p.1 else none

/-- what is read behind one that went wrong or not -/
def nSt (s : ByteArray) : Option Nat → Option Nat
  | none => none
  | some k => (numAt s 1000000000 k).map fun p => p.2
def nVal (s : ByteArray) : Option Nat → Nat
  | none => 0
  | some k => match numAt s 1000000000 k with
    | none => 0
    | some p => p.1
def tSt (s : ByteArray) : Option Nat → Option Nat
  | none => none
  | some k => (txtAt s k).map fun p => p.2
def tVal (s : ByteArray) : Option Nat → ByteArray
  | none => ByteArray.empty
  | some k => match txtAt s k with
    | none => ByteArray.empty
    | some p => p.1
def cmd5 (s : ByteArray) (b : Nat) : CommandD := ⟨b, nVal s (some 1), nVal s (nSt s (some 1)), tVal s (nSt s (nSt s (some 1))), tVal s (tSt s (nSt s (nSt s (some 1)))), nVal s (tSt s (tSt s (nSt s (nSt s (some 1)))))⟩
def end5 (s : ByteArray) : Option Nat := nSt s (tSt s (tSt s (nSt s (nSt s (some 1)))))
def askCmd (s : ByteArray) (b : Nat) : Option CommandD := if (end5 s).isSome = true ∧ commandOk (cmd5 s b) = true ∧ cmdText (cmd5 s b) = s then some (cmd5 s b) else none
theorem numAt_lim {s : ByteArray} {lim k : Nat} (hk : k ≤ s.size) : numAt s lim k = (numAt s 1000000000 k).bind fun p => if p.1 ≤ lim then some p else none := by
  unfold numAt
  cases h : rv (s.data.toList.drop k) with
  | none => rfl
  | some p =>
    obtain ⟨n, c⟩ := p
    have := (rv_fits hk h).1
    simp only [if_pos this, Option.bind_some]
theorem varB_list (n : Nat) : (varB n).data.toList = vb n := by simp [varB]
theorem cmdText_list (d : CommandD) : (cmdText d).data.toList = UInt8.ofNat d.op.toNat :: (vb d.token.toNat ++ (vb d.seq.toNat ++ ((vb d.key.size ++ d.key.data.toList) ++ ((vb d.val.size ++ d.val.data.toList) ++ vb d.ver.toNat)))) := by
  simp [cmdText, shortB, ByteArray.data_append, Array.toList_append, varB_list]
/-- both ways are one -/
theorem ask_cmd {s : ByteArray} {b : Nat} (hb : byteAt s 0 = some (b, 1)) : askCmd s b = readCmd s := by
  have fb := byteAt_fits hb
  have hk1 : 1 ≤ s.size := fb.2.2.1
  have hl : s.data.toList.length = s.size := by simp
  unfold readCmd cmdAt
  rw [hb]
  simp only [Option.bind_some]
  cases h1 : numAt s 1000000000 1 with
  | none =>
    rw [numAt_lim hk1, h1]
    exact if_neg (by simp [end5, nSt, tSt, h1])
  | some p1 =>
    obtain ⟨n1, k2⟩ := p1
    have f1 := numAt_fits hk1 h1
    have hk2 := f1.2.2.2.1
    cases h2 : numAt s 1000000000 k2 with
    | none =>
      have e : askCmd s b = none := if_neg (by simp [end5, nSt, tSt, h1, h2])
      rw [e, numAt_lim hk1, h1]
      simp only [Option.bind_some]
      split
      · simp only [Option.bind_some, numAt_lim (lim := 1000000) hk2, h2]
        rfl
      · rfl
    | some p2 =>
      obtain ⟨n2, k3⟩ := p2
      have f2 := numAt_fits hk2 h2
      have hk3 := f2.2.2.2.1
      cases h3 : txtAt s k3 with
      | none =>
        have e : askCmd s b = none := if_neg (by simp [end5, nSt, tSt, h1, h2, h3])
        rw [e, numAt_lim hk1, h1]
        simp only [Option.bind_some]
        split
        · simp only [Option.bind_some, numAt_lim (lim := 1000000) hk2, h2]
          split <;> simp [h3]
        · rfl
      | some p3 =>
        obtain ⟨t3, k4⟩ := p3
        have f3 := txtAt_fits hk3 h3
        have hk4 := f3.2.2.1
        cases h4 : txtAt s k4 with
        | none =>
          have e : askCmd s b = none := if_neg (by simp [end5, nSt, tSt, h1, h2, h3, h4])
          rw [e, numAt_lim hk1, h1]
          simp only [Option.bind_some]
          split
          · simp only [Option.bind_some, numAt_lim (lim := 1000000) hk2, h2]
            split <;> simp [h3, h4]
          · rfl
        | some p4 =>
          obtain ⟨t4, k5⟩ := p4
          have f4 := txtAt_fits hk4 h4
          have hk5 := f4.2.2.1
          cases h5 : numAt s 1000000000 k5 with
          | none =>
            have e : askCmd s b = none := if_neg (by simp [end5, nSt, tSt, h1, h2, h3, h4, h5])
            rw [e, numAt_lim hk1, h1]
            simp only [Option.bind_some]
            split
            · simp only [Option.bind_some, numAt_lim (lim := 1000000) hk2, h2]
              split <;> simp [h3, h4, h5]
            · rfl
          | some p5 =>
            obtain ⟨n5, k6⟩ := p5
            have f5 := numAt_fits hk5 h5
            have hk6 := f5.2.2.2.1
            have ec : cmd5 s b = ⟨b, n1, n2, t3, t4, n5⟩ := by simp [cmd5, nVal, nSt, tVal, tSt, h1, h2, h3, h4, h5]
            have ee : end5 s = some k6 := by simp [end5, nSt, tSt, h1, h2, h3, h4, h5]
            have ht : s.data.toList = (cmdText ⟨b, n1, n2, t3, t4, n5⟩).data.toList ++ s.data.toList.drop k6 := by
              have q0 := fb.2.2.2
              rw [List.drop_zero] at q0
              refine q0.trans ?_
              have q1 := f1.2.2.2.2
              rw [show (1 : Nat) = 0 + 1 from rfl] at q1
              rw [q1, f2.2.2.2.2, f3.2.2.2, f4.2.2.2, f5.2.2.2.2, cmdText_list]
              simp
            have hz := congrArg List.length ht
            rw [hl, List.length_append, List.length_drop, hl, show (cmdText ⟨b, n1, n2, t3, t4, n5⟩).data.toList.length = (cmdText ⟨b, n1, n2, t3, t4, n5⟩).size from Array.length_toList] at hz
            unfold askCmd
            rw [ec, ee]
            by_cases ok : commandOk ⟨b, n1, n2, t3, t4, n5⟩ = true
            · have cb := cmd_bounds ok
              dsimp only at cb
              rw [numAt_lim hk1, h1]
              simp only [Option.bind_some]
              rw [if_pos (show n1 ≤ 1000000 by omega), Option.bind_some]
              dsimp only
              rw [numAt_lim hk2, h2, Option.bind_some]
              dsimp only
              rw [if_pos (show n2 ≤ 1000000 by omega), Option.bind_some]
              dsimp only
              rw [h3, Option.bind_some, h4, Option.bind_some, h5, Option.bind_some, if_pos ok, Option.bind_some]
              dsimp only
              by_cases he : k6 = s.size
              · have hsame : cmdText ⟨b, n1, n2, t3, t4, n5⟩ = s := by
                  apply ByteArray.ext
                  apply Array.toList_inj.1
                  conv => rhs; rw [ht]
                  rw [he, ← hl, List.drop_length, List.append_nil]
                rw [if_pos ⟨rfl, ok, hsame⟩, if_pos he]
              · rw [if_neg he]
                refine if_neg ?_
                rintro ⟨_, _, q⟩
                rw [q] at hz
                omega
            · rw [if_neg (fun q => ok q.2.1), numAt_lim hk1, h1]
              simp only [Option.bind_some]
              split
              · simp only [Option.bind_some, numAt_lim (lim := 1000000) hk2, h2]
                split
                · simp [h3, h4, h5, ok]
                · rfl
              · rfl
theorem readCmd_empty {s : ByteArray} (h : byteAt s 0 = none) : readCmd s = none := by
  unfold readCmd cmdAt
  rw [h]
  rfl
theorem readCmd_ok {s : ByteArray} {d : CommandD} (h : readCmd s = some d) : commandOk d = true ∧ cmdText d = s := by
  cases hb : byteAt s 0 with
  | none => rw [readCmd_empty hb] at h; cases h
  | some p =>
    obtain ⟨b, k⟩ := p
    obtain rfl : k = 1 := (byteAt_fits hb).2.1
    rw [← ask_cmd hb] at h
    unfold askCmd at h
    split at h
    · next q =>
      cases h
      exact q.2
    · cases h
def cmdD0 : CommandD := ⟨0, 0, 0, ByteArray.empty, ByteArray.empty, 0⟩
def readCmdD (s : ByteArray) : CommandD := (readCmd s).getD cmdD0
def readCmdAns (s : ByteArray) : Value := .tuple #[.agg #[.int .i64 (readCmdD s).op, .int .i64 (readCmdD s).token, .int .i64 (readCmdD s).seq, .string (readCmdD s).key, .string (readCmdD s).val, .int .i64 (readCmdD s).ver], .bool (readCmd s).isSome]
end Go.Proofs.Ytdgohbhffjinmaa
