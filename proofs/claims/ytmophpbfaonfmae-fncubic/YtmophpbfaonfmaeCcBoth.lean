/- Chapter 10: the answers as functions, at any argument, spec's and impl's. -/
import Derived.Test.YtmophpbfaonfmaeSent
import Derived.Test.YtmophpbfaonfmaeImplLoss
namespace Go.Proofs.Ytmophpbfaonfmae
open Go.ChangeShapes Go.WideShapes Go.ChangeAt Go.RowKit
set_option maxRecDepth 100000
set_option linter.unusedVariables false

/-- A Cc. -/
structure C10 where
  k : Int
  wn : Int
  th : Int
  fl : Int
  ac : Int
  la : Int
  og : Int
  st : Int
  fr : Int
  sl : Bool
def zeroC : C10 := ⟨0, 0, 0, 0, 0, 0, 0, 0, 0, false⟩
def newC (k : Int) : C10 := if kindB k = true then ⟨k, 15000, 1000000000, 0, 0, 0, 0, 0, 0, true⟩ else zeroC
def sentC (k wn th fl ac la og st fr : Int) (sl : Bool) (n : Int) : C10 := if sentB k wn th fl ac la og st fr n = true then ⟨k, wn, th, fl + n, ac, la, og, st, fr, sl⟩ else zeroC
def lossC (k wn th fl ac la og st fr : Int) (sl : Bool) : C10 := if ccB k wn th fl ac la og st fr = true then ⟨k, halfW wn, halfW wn, fl, 0, la, og, st, fr, false⟩ else zeroC
def timeC (k wn th fl ac la og st fr : Int) (sl : Bool) : C10 := if ccB k wn th fl ac la og st fr = true then ⟨k, 3000, halfW wn, 0, 0, la, og, st, fr, false⟩ else zeroC
theorem specCcOk_below (k wn th fl ac la og st fr : Int) (sl : Bool) (w : World) : Calls Try.prog 22 #[.agg #[.int .i64 k, .int .i64 wn, .int .i64 th, .int .i64 fl, .int .i64 ac, .int .i64 la, .int .i64 og, .int .i64 st, .int .i64 fr, .bool sl]] w fun e w' => e = .returned (.bool (ccB k wn th fl ac la og st fr)) ∧ Below w.heap.size w w' := by
  refine (specCcOk_any k wn th fl ac la og st fr sl w).mono ?_
  rintro e w' ⟨rfl, rfl⟩
  exact ⟨rfl, by go_grown⟩
theorem specNewCc_any (k : Int) (w : World) : Calls Try.prog 28 #[.int .i64 k] w fun e w' => e = .returned (.tuple #[.agg #[.int .i64 ((newC k).k), .int .i64 ((newC k).wn), .int .i64 ((newC k).th), .int .i64 ((newC k).fl), .int .i64 ((newC k).ac), .int .i64 ((newC k).la), .int .i64 ((newC k).og), .int .i64 ((newC k).st), .int .i64 ((newC k).fr), .bool (newC k).sl], .bool (kindB k)]) ∧ Below w.heap.size w w' := by
  cases h : kindB k
  · rw [show newC k = zeroC from if_neg (by rw [h]; decide)]
    exact specNewCc_no w h
  · rw [show newC k = ⟨k, 15000, 1000000000, 0, 0, 0, 0, 0, 0, true⟩ from if_pos h]
    exact specNewCc_yes w h
theorem specSent_any (k wn th fl ac la og st fr : Int) (sl : Bool) (n : Int) (w : World) : Calls Try.prog 25 #[.agg #[.int .i64 k, .int .i64 wn, .int .i64 th, .int .i64 fl, .int .i64 ac, .int .i64 la, .int .i64 og, .int .i64 st, .int .i64 fr, .bool sl], .int .i64 n] w fun e w' => e = .returned (.tuple #[.agg #[.int .i64 ((sentC k wn th fl ac la og st fr sl n).k), .int .i64 ((sentC k wn th fl ac la og st fr sl n).wn), .int .i64 ((sentC k wn th fl ac la og st fr sl n).th), .int .i64 ((sentC k wn th fl ac la og st fr sl n).fl), .int .i64 ((sentC k wn th fl ac la og st fr sl n).ac), .int .i64 ((sentC k wn th fl ac la og st fr sl n).la), .int .i64 ((sentC k wn th fl ac la og st fr sl n).og), .int .i64 ((sentC k wn th fl ac la og st fr sl n).st), .int .i64 ((sentC k wn th fl ac la og st fr sl n).fr), .bool (sentC k wn th fl ac la og st fr sl n).sl], .bool (sentB k wn th fl ac la og st fr n)]) ∧ Below w.heap.size w w' := by
  have no : sentB k wn th fl ac la og st fr n = false → sentC k wn th fl ac la og st fr sl n = zeroC := fun h => if_neg (by rw [h]; decide)
  cases h1 : ccB k wn th fl ac la og st fr
  · have h : sentB k wn th fl ac la og st fr n = false := by unfold sentB; rw [h1]; rfl
    rw [no h, h]
    exact specSent_no1 sl w h1
  cases h2 : s10B n
  · have h : sentB k wn th fl ac la og st fr n = false := by unfold sentB; rw [h1, h2]; rfl
    rw [no h, h]
    exact specSent_no2 sl w h1 h2
  by_cases h3 : fl + n ≤ wn
  · have h : sentB k wn th fl ac la og st fr n = true := by unfold sentB; rw [h1, h2, decide_eq_true h3]; rfl
    rw [show sentC k wn th fl ac la og st fr sl n = ⟨k, wn, th, fl + n, ac, la, og, st, fr, sl⟩ from if_pos h, h]
    exact specSent_yes sl w h1 h2 h3
  · have h : sentB k wn th fl ac la og st fr n = false := by unfold sentB; rw [h1, h2, decide_eq_false h3]; rfl
    rw [no h, h]
    exact specSent_no3 sl w h1 h2 (by omega)
theorem specRenoLoss_any (k wn th fl ac la og st fr : Int) (sl : Bool) (w : World) : Calls Try.prog 19 #[.agg #[.int .i64 k, .int .i64 wn, .int .i64 th, .int .i64 fl, .int .i64 ac, .int .i64 la, .int .i64 og, .int .i64 st, .int .i64 fr, .bool sl]] w fun e w' => e = .returned (.agg #[.int .i64 ((lossC k wn th fl ac la og st fr sl).k), .int .i64 ((lossC k wn th fl ac la og st fr sl).wn), .int .i64 ((lossC k wn th fl ac la og st fr sl).th), .int .i64 ((lossC k wn th fl ac la og st fr sl).fl), .int .i64 ((lossC k wn th fl ac la og st fr sl).ac), .int .i64 ((lossC k wn th fl ac la og st fr sl).la), .int .i64 ((lossC k wn th fl ac la og st fr sl).og), .int .i64 ((lossC k wn th fl ac la og st fr sl).st), .int .i64 ((lossC k wn th fl ac la og st fr sl).fr), .bool (lossC k wn th fl ac la og st fr sl).sl]) ∧ Below w.heap.size w w' := by
  cases h1 : ccB k wn th fl ac la og st fr
  · rw [show lossC k wn th fl ac la og st fr sl = zeroC from if_neg (by rw [h1]; decide)]
    exact specRenoLoss_no sl w h1
  · rw [show lossC k wn th fl ac la og st fr sl = ⟨k, halfW wn, halfW wn, fl, 0, la, og, st, fr, false⟩ from if_pos h1]
    exact specRenoLoss_yes sl w h1
theorem specRenoTimeout_any (k wn th fl ac la og st fr : Int) (sl : Bool) (w : World) : Calls Try.prog 20 #[.agg #[.int .i64 k, .int .i64 wn, .int .i64 th, .int .i64 fl, .int .i64 ac, .int .i64 la, .int .i64 og, .int .i64 st, .int .i64 fr, .bool sl]] w fun e w' => e = .returned (.agg #[.int .i64 ((timeC k wn th fl ac la og st fr sl).k), .int .i64 ((timeC k wn th fl ac la og st fr sl).wn), .int .i64 ((timeC k wn th fl ac la og st fr sl).th), .int .i64 ((timeC k wn th fl ac la og st fr sl).fl), .int .i64 ((timeC k wn th fl ac la og st fr sl).ac), .int .i64 ((timeC k wn th fl ac la og st fr sl).la), .int .i64 ((timeC k wn th fl ac la og st fr sl).og), .int .i64 ((timeC k wn th fl ac la og st fr sl).st), .int .i64 ((timeC k wn th fl ac la og st fr sl).fr), .bool (timeC k wn th fl ac la og st fr sl).sl]) ∧ Below w.heap.size w w' := by
  cases h1 : ccB k wn th fl ac la og st fr
  · rw [show timeC k wn th fl ac la og st fr sl = zeroC from if_neg (by rw [h1]; decide)]
    exact specRenoTimeout_no sl w h1
  · rw [show timeC k wn th fl ac la og st fr sl = ⟨k, 3000, halfW wn, 0, 0, la, og, st, fr, false⟩ from if_pos h1]
    exact specRenoTimeout_yes sl w h1
theorem implCcOk_below (k wn th fl ac la og st fr : Int) (sl : Bool) (w : World) : Calls Try.prog 21 #[.agg #[.int .i64 k, .int .i64 wn, .int .i64 th, .int .i64 fl, .int .i64 ac, .int .i64 la, .int .i64 og, .int .i64 st, .int .i64 fr, .bool sl]] w fun e w' => e = .returned (.bool (ccB k wn th fl ac la og st fr)) ∧ Below w.heap.size w w' := by
  refine (implCcOk_any k wn th fl ac la og st fr sl w).mono ?_
  rintro e w' ⟨rfl, rfl⟩
  exact ⟨rfl, by go_grown⟩
theorem implNewCc_any (k : Int) (w : World) : Calls Try.prog 27 #[.int .i64 k] w fun e w' => e = .returned (.tuple #[.agg #[.int .i64 ((newC k).k), .int .i64 ((newC k).wn), .int .i64 ((newC k).th), .int .i64 ((newC k).fl), .int .i64 ((newC k).ac), .int .i64 ((newC k).la), .int .i64 ((newC k).og), .int .i64 ((newC k).st), .int .i64 ((newC k).fr), .bool (newC k).sl], .bool (kindB k)]) ∧ Below w.heap.size w w' := by
  cases h : kindB k
  · rw [show newC k = zeroC from if_neg (by rw [h]; decide)]
    exact implNewCc_no w h
  · rw [show newC k = ⟨k, 15000, 1000000000, 0, 0, 0, 0, 0, 0, true⟩ from if_pos h]
    exact implNewCc_yes w h
theorem implSent_any (k wn th fl ac la og st fr : Int) (sl : Bool) (n : Int) (w : World) : Calls Try.prog 24 #[.agg #[.int .i64 k, .int .i64 wn, .int .i64 th, .int .i64 fl, .int .i64 ac, .int .i64 la, .int .i64 og, .int .i64 st, .int .i64 fr, .bool sl], .int .i64 n] w fun e w' => e = .returned (.tuple #[.agg #[.int .i64 ((sentC k wn th fl ac la og st fr sl n).k), .int .i64 ((sentC k wn th fl ac la og st fr sl n).wn), .int .i64 ((sentC k wn th fl ac la og st fr sl n).th), .int .i64 ((sentC k wn th fl ac la og st fr sl n).fl), .int .i64 ((sentC k wn th fl ac la og st fr sl n).ac), .int .i64 ((sentC k wn th fl ac la og st fr sl n).la), .int .i64 ((sentC k wn th fl ac la og st fr sl n).og), .int .i64 ((sentC k wn th fl ac la og st fr sl n).st), .int .i64 ((sentC k wn th fl ac la og st fr sl n).fr), .bool (sentC k wn th fl ac la og st fr sl n).sl], .bool (sentB k wn th fl ac la og st fr n)]) ∧ Below w.heap.size w w' := by
  have no : sentB k wn th fl ac la og st fr n = false → sentC k wn th fl ac la og st fr sl n = zeroC := fun h => if_neg (by rw [h]; decide)
  cases h1 : ccB k wn th fl ac la og st fr
  · have h : sentB k wn th fl ac la og st fr n = false := by unfold sentB; rw [h1]; rfl
    rw [no h, h]
    exact implSent_no1 sl w h1
  cases h2 : s10B n
  · have h : sentB k wn th fl ac la og st fr n = false := by unfold sentB; rw [h1, h2]; rfl
    rw [no h, h]
    exact implSent_no2 sl w h1 h2
  by_cases h3 : fl + n ≤ wn
  · have h : sentB k wn th fl ac la og st fr n = true := by unfold sentB; rw [h1, h2, decide_eq_true h3]; rfl
    rw [show sentC k wn th fl ac la og st fr sl n = ⟨k, wn, th, fl + n, ac, la, og, st, fr, sl⟩ from if_pos h, h]
    exact implSent_yes sl w h1 h2 h3
  · have h : sentB k wn th fl ac la og st fr n = false := by unfold sentB; rw [h1, h2, decide_eq_false h3]; rfl
    rw [no h, h]
    exact implSent_no3 sl w h1 h2 (by omega)
theorem implRenoLoss_any (k wn th fl ac la og st fr : Int) (sl : Bool) (w : World) : Calls Try.prog 16 #[.agg #[.int .i64 k, .int .i64 wn, .int .i64 th, .int .i64 fl, .int .i64 ac, .int .i64 la, .int .i64 og, .int .i64 st, .int .i64 fr, .bool sl]] w fun e w' => e = .returned (.agg #[.int .i64 ((lossC k wn th fl ac la og st fr sl).k), .int .i64 ((lossC k wn th fl ac la og st fr sl).wn), .int .i64 ((lossC k wn th fl ac la og st fr sl).th), .int .i64 ((lossC k wn th fl ac la og st fr sl).fl), .int .i64 ((lossC k wn th fl ac la og st fr sl).ac), .int .i64 ((lossC k wn th fl ac la og st fr sl).la), .int .i64 ((lossC k wn th fl ac la og st fr sl).og), .int .i64 ((lossC k wn th fl ac la og st fr sl).st), .int .i64 ((lossC k wn th fl ac la og st fr sl).fr), .bool (lossC k wn th fl ac la og st fr sl).sl]) ∧ Below w.heap.size w w' := by
  cases h1 : ccB k wn th fl ac la og st fr
  · rw [show lossC k wn th fl ac la og st fr sl = zeroC from if_neg (by rw [h1]; decide)]
    exact implRenoLoss_no sl w h1
  · rw [show lossC k wn th fl ac la og st fr sl = ⟨k, halfW wn, halfW wn, fl, 0, la, og, st, fr, false⟩ from if_pos h1]
    exact implRenoLoss_yes sl w h1
theorem implRenoTimeout_any (k wn th fl ac la og st fr : Int) (sl : Bool) (w : World) : Calls Try.prog 17 #[.agg #[.int .i64 k, .int .i64 wn, .int .i64 th, .int .i64 fl, .int .i64 ac, .int .i64 la, .int .i64 og, .int .i64 st, .int .i64 fr, .bool sl]] w fun e w' => e = .returned (.agg #[.int .i64 ((timeC k wn th fl ac la og st fr sl).k), .int .i64 ((timeC k wn th fl ac la og st fr sl).wn), .int .i64 ((timeC k wn th fl ac la og st fr sl).th), .int .i64 ((timeC k wn th fl ac la og st fr sl).fl), .int .i64 ((timeC k wn th fl ac la og st fr sl).ac), .int .i64 ((timeC k wn th fl ac la og st fr sl).la), .int .i64 ((timeC k wn th fl ac la og st fr sl).og), .int .i64 ((timeC k wn th fl ac la og st fr sl).st), .int .i64 ((timeC k wn th fl ac la og st fr sl).fr), .bool (timeC k wn th fl ac la og st fr sl).sl]) ∧ Below w.heap.size w w' := by
  cases h1 : ccB k wn th fl ac la og st fr
  · rw [show timeC k wn th fl ac la og st fr sl = zeroC from if_neg (by rw [h1]; decide)]
    exact implRenoTimeout_no sl w h1
  · rw [show timeC k wn th fl ac la og st fr sl = ⟨k, 3000, halfW wn, 0, 0, la, og, st, fr, false⟩ from if_pos h1]
    exact implRenoTimeout_yes sl w h1
end Go.Proofs.Ytmophpbfaonfmae
