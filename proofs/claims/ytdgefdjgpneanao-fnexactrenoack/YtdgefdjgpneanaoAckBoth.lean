/- Chapter 10: RenoAck's answer as a function, at any argument, spec's and impl's. -/
import Derived.Test.YtdgefdjgpneanaoCcBoth
import Derived.Test.YtdgefdjgpneanaoImplAck
namespace Go.Proofs.Ytdgefdjgpneanao
open Go.ChangeShapes Go.WideShapes Go.ChangeAt Go.RowKit
set_option maxRecDepth 100000
set_option linter.unusedVariables false

def ackIn (k wn th fl ac la og st fr : Int) (sl : Bool) (n : Int) : C10 := if wn < th then (if wn + n < th then ⟨k, wn + n, th, max 0 (fl - n), ac, la, og, st, fr, sl⟩ else ⟨k, th, th, max 0 (fl - n), ac, la, og, st, fr, false⟩) else ⟨k, (stepA (ac + n) wn).2, th, max 0 (fl - n), (stepA (ac + n) wn).1, la, og, st, fr, sl⟩
def ackC (k wn th fl ac la og st fr : Int) (sl : Bool) (n : Int) : C10 := if ccB k wn th fl ac la og st fr = true ∧ n10B n = true then ackIn k wn th fl ac la og st fr sl n else zeroC
theorem specRenoAck_any (k wn th fl ac la og st fr : Int) (sl : Bool) (n : Int) (w : World) : Calls Try.prog 21 #[.agg #[.int .i64 k, .int .i64 wn, .int .i64 th, .int .i64 fl, .int .i64 ac, .int .i64 la, .int .i64 og, .int .i64 st, .int .i64 fr, .bool sl], .int .i64 n] w fun e w' => e = .returned (.agg #[.int .i64 ((ackC k wn th fl ac la og st fr sl n).k), .int .i64 ((ackC k wn th fl ac la og st fr sl n).wn), .int .i64 ((ackC k wn th fl ac la og st fr sl n).th), .int .i64 ((ackC k wn th fl ac la og st fr sl n).fl), .int .i64 ((ackC k wn th fl ac la og st fr sl n).ac), .int .i64 ((ackC k wn th fl ac la og st fr sl n).la), .int .i64 ((ackC k wn th fl ac la og st fr sl n).og), .int .i64 ((ackC k wn th fl ac la og st fr sl n).st), .int .i64 ((ackC k wn th fl ac la og st fr sl n).fr), .bool (ackC k wn th fl ac la og st fr sl n).sl]) ∧ Below w.heap.size w w' := by
  cases h1 : ccB k wn th fl ac la og st fr
  · rw [show ackC k wn th fl ac la og st fr sl n = zeroC from if_neg (fun h => by rw [h1] at h; cases h.1)]
    exact specRenoAck_no1 sl w h1
  cases h2 : n10B n
  · rw [show ackC k wn th fl ac la og st fr sl n = zeroC from if_neg (fun h => by rw [h2] at h; cases h.2)]
    exact specRenoAck_no2 sl w h1 h2
  rw [show ackC k wn th fl ac la og st fr sl n = ackIn k wn th fl ac la og st fr sl n from if_pos ⟨h1, h2⟩]
  by_cases h3 : wn < th
  · by_cases h4 : wn + n < th
    · rw [show ackIn k wn th fl ac la og st fr sl n = ⟨k, wn + n, th, max 0 (fl - n), ac, la, og, st, fr, sl⟩ from (if_pos h3).trans (if_pos h4)]
      exact specRenoAck_rise sl w h1 h2 h3 h4
    · rw [show ackIn k wn th fl ac la og st fr sl n = ⟨k, th, th, max 0 (fl - n), ac, la, og, st, fr, false⟩ from (if_pos h3).trans (if_neg h4)]
      exact specRenoAck_top sl w h1 h2 h3 (by omega)
  · rw [show ackIn k wn th fl ac la og st fr sl n = ⟨k, (stepA (ac + n) wn).2, th, max 0 (fl - n), (stepA (ac + n) wn).1, la, og, st, fr, sl⟩ from if_neg h3]
    exact specRenoAck_step sl w h1 h2 (by omega)
theorem implRenoAck_any (k wn th fl ac la og st fr : Int) (sl : Bool) (n : Int) (w : World) : Calls Try.prog 22 #[.agg #[.int .i64 k, .int .i64 wn, .int .i64 th, .int .i64 fl, .int .i64 ac, .int .i64 la, .int .i64 og, .int .i64 st, .int .i64 fr, .bool sl], .int .i64 n] w fun e w' => e = .returned (.agg #[.int .i64 ((ackC k wn th fl ac la og st fr sl n).k), .int .i64 ((ackC k wn th fl ac la og st fr sl n).wn), .int .i64 ((ackC k wn th fl ac la og st fr sl n).th), .int .i64 ((ackC k wn th fl ac la og st fr sl n).fl), .int .i64 ((ackC k wn th fl ac la og st fr sl n).ac), .int .i64 ((ackC k wn th fl ac la og st fr sl n).la), .int .i64 ((ackC k wn th fl ac la og st fr sl n).og), .int .i64 ((ackC k wn th fl ac la og st fr sl n).st), .int .i64 ((ackC k wn th fl ac la og st fr sl n).fr), .bool (ackC k wn th fl ac la og st fr sl n).sl]) ∧ Below w.heap.size w w' := by
  cases h1 : ccB k wn th fl ac la og st fr
  · rw [show ackC k wn th fl ac la og st fr sl n = zeroC from if_neg (fun h => by rw [h1] at h; cases h.1)]
    exact implRenoAck_no1 sl w h1
  cases h2 : n10B n
  · rw [show ackC k wn th fl ac la og st fr sl n = zeroC from if_neg (fun h => by rw [h2] at h; cases h.2)]
    exact implRenoAck_no2 sl w h1 h2
  rw [show ackC k wn th fl ac la og st fr sl n = ackIn k wn th fl ac la og st fr sl n from if_pos ⟨h1, h2⟩]
  by_cases h3 : wn < th
  · by_cases h4 : wn + n < th
    · rw [show ackIn k wn th fl ac la og st fr sl n = ⟨k, wn + n, th, max 0 (fl - n), ac, la, og, st, fr, sl⟩ from (if_pos h3).trans (if_pos h4)]
      exact implRenoAck_rise sl w h1 h2 h3 h4
    · rw [show ackIn k wn th fl ac la og st fr sl n = ⟨k, th, th, max 0 (fl - n), ac, la, og, st, fr, false⟩ from (if_pos h3).trans (if_neg h4)]
      exact implRenoAck_top sl w h1 h2 h3 (by omega)
  · rw [show ackIn k wn th fl ac la og st fr sl n = ⟨k, (stepA (ac + n) wn).2, th, max 0 (fl - n), (stepA (ac + n) wn).1, la, og, st, fr, sl⟩ from if_neg h3]
    exact implRenoAck_step sl w h1 h2 (by omega)
end Go.Proofs.Ytdgefdjgpneanao
