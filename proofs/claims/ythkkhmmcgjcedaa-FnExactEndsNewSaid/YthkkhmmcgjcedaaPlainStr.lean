/-
  A stream as data: what is right, written, shut, pushed and heard; nothing of the program stands here.
-/
import Derived.Test.YthkkhmmcgjcedaaDataLate
import Derived.Test.YthkkhmmcgjcedaaDataSeg
import Derived.Test.YthkkhmmcgjcedaaPlainIn
import Derived.Test.YthkkhmmcgjcedaaPlainNum
namespace Go.Proofs.Ythkkhmmcgjcedaa
open Go.RowKit

structure StrD where
  st : Int
  iss : Int
  una : Int
  rcv : Int
  wait : ByteArray
  sent : Int
  fin : Int
  pf : Bool
  inn : ByteArray
  late : List LateD
  owe : Bool
  due : Int
  times : Int
def I64 (x : Int) : Prop := -9223372036854775808 ≤ x ∧ x ≤ 9223372036854775807
/-- numbers that are numbers, texts that are texts -/
structure StrD.Fits (d : StrD) : Prop where
  st : I64 d.st
  iss : I64 d.iss
  una : I64 d.una
  rcv : I64 d.rcv
  wait : d.wait.size ≤ maxLen
  sent : I64 d.sent
  fin : I64 d.fin
  inn : d.inn.size ≤ maxLen
  due : I64 d.due
  times : I64 d.times
/-- short texts -/
structure StrD.Small (d : StrD) : Prop where
  wait : d.wait.size ≤ 1048576
  inn : d.inn.size ≤ 1048576
  late : d.late.length ≤ 1048576
  each : ∀ f ∈ d.late, f.text.size ≤ 1048576
/-- the cells of a stream -/
def strCells (d : StrD) (ao : Option Addr) (cap : Nat) : List Value := [.int .i64 d.st, .int .i64 d.iss, .int .i64 d.una, .int .i64 d.rcv, .string d.wait, .int .i64 d.sent, .int .i64 d.fin, .bool d.pf, .string d.inn, .slice ao d.late.length cap, .bool d.owe, .int .i64 d.due, .int .i64 d.times]
/-- an early text is right -/
def lateOk (e : LateD) : Bool := within e.num 0 65535 && within e.text.size 1 8
def latesOk (l : List LateD) : Bool := l.all lateOk
/-- numbers of what is sent -/
def sendOk (d : StrD) : Bool :=
  decide (d.wait.size ≤ 200) && within d.sent 0 (min d.wait.size 24 : Nat) && within d.fin 0 3 && (!decide (d.fin = 2) || decide (d.sent = d.wait.size)) && (!decide (d.fin = 3) || decide (d.wait.size = 0))
def strOk (d : StrD) : Bool :=
  within d.st 0 4 && within d.iss 0 65535 && within d.una 0 65535 && within d.rcv 0 65535 && sendOk d && decide (d.inn.size ≤ 1000) && decide (d.late.length ≤ 8) && within d.due 0 1000000000 && within d.times 0 12 && latesOk d.late
structure StrR (d : StrD) : Prop where
  st : 0 ≤ d.st ∧ d.st ≤ 4
  iss : 0 ≤ d.iss ∧ d.iss ≤ 65535
  una : 0 ≤ d.una ∧ d.una ≤ 65535
  rcv : 0 ≤ d.rcv ∧ d.rcv ≤ 65535
  wait : d.wait.size ≤ 200
  sent : 0 ≤ d.sent ∧ d.sent ≤ (min d.wait.size 24 : Nat)
  fin : 0 ≤ d.fin ∧ d.fin ≤ 3
  fin2 : d.fin = 2 → d.sent = d.wait.size
  fin3 : d.fin = 3 → d.wait.size = 0
  inn : d.inn.size ≤ 1000
  few : d.late.length ≤ 8
  due : 0 ≤ d.due ∧ d.due ≤ 1000000000
  times : 0 ≤ d.times ∧ d.times ≤ 12
  late : latesOk d.late = true
theorem strOk_iff {d : StrD} : strOk d = true ↔ StrR d := by
  constructor
  · intro h
    simp only [strOk, sendOk, Bool.and_eq_true, Bool.or_eq_true, Bool.not_eq_true', decide_eq_true_eq, decide_eq_false_iff_not, within_iff] at h
    obtain ⟨⟨⟨⟨⟨⟨⟨⟨⟨h1, h2⟩, h3⟩, h4⟩, ⟨⟨⟨⟨h5, h6⟩, h7⟩, h8⟩, h9⟩⟩, h10⟩, h11⟩, h12⟩, h13⟩, h14⟩ := h
    exact ⟨h1, h2, h3, h4, h5, h6, h7, fun e => h8.resolve_left (fun h => h e), fun e => h9.resolve_left (fun h => h e), h10, h11, h12, h13, h14⟩
  · intro h
    obtain ⟨h1, h2, h3, h4, h5, h6, h7, h8, h9, h10, h11, h12, h13, h14⟩ := h
    simp only [strOk, sendOk, Bool.and_eq_true, Bool.or_eq_true, Bool.not_eq_true', decide_eq_true_eq, decide_eq_false_iff_not, within_iff]
    refine ⟨⟨⟨⟨⟨⟨⟨⟨⟨h1, h2⟩, h3⟩, h4⟩, ⟨⟨⟨⟨h5, h6⟩, h7⟩, ?_⟩, ?_⟩⟩, h10⟩, h11⟩, h12⟩, h13⟩, h14⟩
    · exact (Classical.em (d.fin = 2)).elim (fun e => Or.inr (h8 e)) Or.inl
    · exact (Classical.em (d.fin = 3)).elim (fun e => Or.inr (h9 e)) Or.inl
theorem strOk_no {d : StrD} (h : ¬ StrR d) : strOk d = false := by
  cases e : strOk d with
  | false => rfl
  | true => exact absurd (strOk_iff.1 e) h
theorem latesOk_iff {l : List LateD} : latesOk l = true ↔ ∀ e ∈ l, (0 ≤ e.num ∧ e.num ≤ 65535) ∧ 1 ≤ (e.text.size : Int) ∧ (e.text.size : Int) ≤ 8 := by
  simp [latesOk, lateOk, List.all_eq_true, within_iff]

/-- a new one -/
def newD (iss : Int) (ask : Bool) : StrD :=
  if within iss 0 65535 = true then ⟨if ask = true then 2 else 1, iss, iss, 0, ByteArray.empty, 0, 0, false, ByteArray.empty, [], false, 0, 0⟩
  else ⟨0, 0, 0, 0, ByteArray.empty, 0, 0, false, ByteArray.empty, [], false, 0, 0⟩
/-- what may be written -/
def mayWrite (d : StrD) (s : ByteArray) : Bool := strOk d && decide (d.fin = 0) && decide (s.size + d.wait.size ≤ 200)
def writeD (d : StrD) (s : ByteArray) : StrD := if mayWrite d s = true then { d with wait := d.wait ++ s } else d
def mayShut (d : StrD) : Bool := strOk d && decide (d.fin = 0)
def shutD (d : StrD) : StrD := if mayShut d = true then { d with fin := 1 } else d
def endedD (d : StrD) : Bool := decide (d.fin = 3) && d.pf
end Go.Proofs.Ythkkhmmcgjcedaa
