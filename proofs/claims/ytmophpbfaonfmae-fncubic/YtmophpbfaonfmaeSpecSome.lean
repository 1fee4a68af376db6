/- What chapter 10's and 11's functions of spec hand back is some Cc, at any argument. -/
import Derived.Test.YtmophpbfaonfmaeCcBoth
import Derived.Test.YtmophpbfaonfmaeSpecCubLoss
import Derived.Test.YtmophpbfaonfmaeSpecCubAckB
import Derived.Test.YtmophpbfaonfmaeSpecCubAckC
import Derived.Test.YtmophpbfaonfmaeSpecCubAckD
namespace Go.Proofs.Ytmophpbfaonfmae
open Go.ChangeShapes Go.WideShapes Go.ChangeAt Go.RowKit
set_option maxRecDepth 100000
set_option linter.unusedVariables false
set_option linter.unusedSimpArgs false

def CcPost (w : World) (e : Ending) (w' : World) : Prop := ∃ (d : C10), e = .returned (.agg #[.int .i64 d.k, .int .i64 d.wn, .int .i64 d.th, .int .i64 d.fl, .int .i64 d.ac, .int .i64 d.la, .int .i64 d.og, .int .i64 d.st, .int .i64 d.fr, .bool d.sl]) ∧ Below w.heap.size w w'
def CcFPost (w : World) (e : Ending) (w' : World) : Prop := ∃ (d : C10) (f : Bool), e = .returned (.tuple #[.agg #[.int .i64 d.k, .int .i64 d.wn, .int .i64 d.th, .int .i64 d.fl, .int .i64 d.ac, .int .i64 d.la, .int .i64 d.og, .int .i64 d.st, .int .i64 d.fr, .bool d.sl], .bool f]) ∧ Below w.heap.size w w'
theorem specNewCc_some (k : Int) (w : World) : Calls Try.prog 28 #[.int .i64 k] w (CcFPost w) := (specNewCc_any k w).mono (fun e w' h => ⟨_, _, h.1, h.2⟩)
theorem specSent_some (c : C10) (n : Int) (w : World) : Calls Try.prog 25 #[.agg #[.int .i64 c.k, .int .i64 c.wn, .int .i64 c.th, .int .i64 c.fl, .int .i64 c.ac, .int .i64 c.la, .int .i64 c.og, .int .i64 c.st, .int .i64 c.fr, .bool c.sl], .int .i64 n] w (CcFPost w) := by
  exact (specSent_any c.k c.wn c.th c.fl c.ac c.la c.og c.st c.fr c.sl n w).mono (fun e w' h => ⟨_, _, h.1, h.2⟩)
theorem specRenoLoss_some (c : C10) (w : World) : Calls Try.prog 19 #[.agg #[.int .i64 c.k, .int .i64 c.wn, .int .i64 c.th, .int .i64 c.fl, .int .i64 c.ac, .int .i64 c.la, .int .i64 c.og, .int .i64 c.st, .int .i64 c.fr, .bool c.sl]] w (CcPost w) := by
  exact (specRenoLoss_any c.k c.wn c.th c.fl c.ac c.la c.og c.st c.fr c.sl w).mono (fun e w' h => ⟨_, h.1, h.2⟩)
theorem specRenoTimeout_some (c : C10) (w : World) : Calls Try.prog 20 #[.agg #[.int .i64 c.k, .int .i64 c.wn, .int .i64 c.th, .int .i64 c.fl, .int .i64 c.ac, .int .i64 c.la, .int .i64 c.og, .int .i64 c.st, .int .i64 c.fr, .bool c.sl]] w (CcPost w) := by
  exact (specRenoTimeout_any c.k c.wn c.th c.fl c.ac c.la c.og c.st c.fr c.sl w).mono (fun e w' h => ⟨_, h.1, h.2⟩)
theorem specRenoAck_some (c : C10) (n : Int) (w : World) : Calls Try.prog 18 #[.agg #[.int .i64 c.k, .int .i64 c.wn, .int .i64 c.th, .int .i64 c.fl, .int .i64 c.ac, .int .i64 c.la, .int .i64 c.og, .int .i64 c.st, .int .i64 c.fr, .bool c.sl], .int .i64 n] w (CcPost w) := by
  cases h1 : ccB c.k c.wn c.th c.fl c.ac c.la c.og c.st c.fr
  · exact (specRenoAck_no1 c.sl w h1).mono (fun e w' h => ⟨⟨0, 0, 0, 0, 0, 0, 0, 0, 0, false⟩, h.1, h.2⟩)
  cases h2 : n10B n
  · exact (specRenoAck_no2 c.sl w h1 h2).mono (fun e w' h => ⟨⟨0, 0, 0, 0, 0, 0, 0, 0, 0, false⟩, h.1, h.2⟩)
  rcases Int.lt_or_le c.wn c.th with h3 | h3
  · rcases Int.lt_or_le (c.wn + n) c.th with h4 | h4
    · exact (specRenoAck_rise c.sl w h1 h2 h3 h4).mono (fun e w' h => ⟨⟨c.k, c.wn + n, c.th, max 0 (c.fl - n), c.ac, c.la, c.og, c.st, c.fr, c.sl⟩, h.1, h.2⟩)
    · exact (specRenoAck_top c.sl w h1 h2 h3 h4).mono (fun e w' h => ⟨⟨c.k, c.th, c.th, max 0 (c.fl - n), c.ac, c.la, c.og, c.st, c.fr, false⟩, h.1, h.2⟩)
  · exact (specRenoAck_step c.sl w h1 h2 h3).mono (fun e w' h => ⟨⟨c.k, (stepA (c.ac + n) c.wn).2, c.th, max 0 (c.fl - n), (stepA (c.ac + n) c.wn).1, c.la, c.og, c.st, c.fr, c.sl⟩, h.1, h.2⟩)
theorem specCubicLoss_some (c : C10) (w : World) : Calls Try.prog 39 #[.agg #[.int .i64 c.k, .int .i64 c.wn, .int .i64 c.th, .int .i64 c.fl, .int .i64 c.ac, .int .i64 c.la, .int .i64 c.og, .int .i64 c.st, .int .i64 c.fr, .bool c.sl]] w (CcPost w) := by
  cases h1 : ccB c.k c.wn c.th c.fl c.ac c.la c.og c.st c.fr
  · exact (specCubicLoss_no c.sl w h1).mono (fun e w' h => ⟨⟨0, 0, 0, 0, 0, 0, 0, 0, 0, false⟩, h.1, h.2⟩)
  · exact (specCubicLoss_yes c.sl w h1).mono (fun e w' h => ⟨⟨c.k, tenW c.wn, tenW c.wn, c.fl, 0, lastW c.wn c.la, 0, 0, 0, false⟩, h.1, h.2⟩)
theorem specCubicAck_some (c : C10) (n : Int) (now : Int) (w : World) : Calls Try.prog 38 #[.agg #[.int .i64 c.k, .int .i64 c.wn, .int .i64 c.th, .int .i64 c.fl, .int .i64 c.ac, .int .i64 c.la, .int .i64 c.og, .int .i64 c.st, .int .i64 c.fr, .bool c.sl], .int .i64 n, .int .i64 now] w (CcPost w) := by
  obtain ⟨k, wn, th, fl, ac, la, og, st, fr, sl⟩ := c
  simp only
  cases h1 : ccB k wn th fl ac la og st fr
  · exact (specCubicAck_no1 sl w h1).mono (fun e w' h => ⟨⟨0, 0, 0, 0, 0, 0, 0, 0, 0, false⟩, h.1, h.2⟩)
  cases h2 : n10B n
  · exact (specCubicAck_no2 sl w h1 h2).mono (fun e w' h => ⟨⟨0, 0, 0, 0, 0, 0, 0, 0, 0, false⟩, h.1, h.2⟩)
  cases h3 : timeB now
  · exact (specCubicAck_no3 sl w h1 h2 h3).mono (fun e w' h => ⟨⟨0, 0, 0, 0, 0, 0, 0, 0, 0, false⟩, h.1, h.2⟩)
  cases sl
  · by_cases h6 : st = 0
    · subst h6
      exact (specCubicAck_new w h1 h2 h3).mono (fun e w' h => ⟨⟨k, wnW wn (frW wn wn n) (tgW wn (max la wn) wn (msOf (max 1 now) now)), th, max 0 (fl - n), ac, max la wn, wn, max 1 now, frW wn wn n, false⟩, h.1, h.2⟩)
    · exact (specCubicAck_old w h1 h2 h3 h6).mono (fun e w' h => ⟨⟨k, wnW wn (frW wn fr n) (tgW wn la og (msOf st now)), th, max 0 (fl - n), ac, la, og, st, frW wn fr n, false⟩, h.1, h.2⟩)
  rcases Int.lt_or_le wn th with h5 | h5
  · rcases Int.lt_or_le (wn + n) th with h4 | h4
    · exact (specCubicAck_rise w h1 h2 h3 h5 h4).mono (fun e w' h => ⟨⟨k, wn + n, th, max 0 (fl - n), ac, la, og, st, fr, true⟩, h.1, h.2⟩)
    · exact (specCubicAck_top w h1 h2 h3 h5 h4).mono (fun e w' h => ⟨⟨k, th, th, max 0 (fl - n), ac, la, og, st, fr, false⟩, h.1, h.2⟩)
  · by_cases h6 : st = 0
    · subst h6
      exact (specCubicAck_newS w h1 h2 h3 h5).mono (fun e w' h => ⟨⟨k, wnW wn (frW wn wn n) (tgW wn (max la wn) wn (msOf (max 1 now) now)), th, max 0 (fl - n), ac, max la wn, wn, max 1 now, frW wn wn n, true⟩, h.1, h.2⟩)
    · exact (specCubicAck_oldS w h1 h2 h3 h5 h6).mono (fun e w' h => ⟨⟨k, wnW wn (frW wn fr n) (tgW wn la og (msOf st now)), th, max 0 (fl - n), ac, la, og, st, frW wn fr n, true⟩, h.1, h.2⟩)
end Go.Proofs.Ytmophpbfaonfmae
