/- Chapter 10: the answers as functions, at any argument, spec's and impl's. -/
import Derived.Test.YtmophpbfaonfmapSent
import Derived.Test.YtmophpbfaonfmapImplLoss
namespace Go.Proofs.Ytmophpbfaonfmap
open Go.ChangeShapes Go.WideShapes Go.ChangeAt Go.RowKit
set_option maxRecDepth 100000
set_option linter.unusedVariables false

/-- A Cc. -/
structure C10 where
  k : Int
  wn : Int
  th : Int
  fl : Int
  ac : Int
  la : Int
  og : Int
  st : Int
  fr : Int
  sl : Bool
def zeroC : C10 := ⟨0, 0, 0, 0, 0, 0, 0, 0, 0, false⟩
def newC (k : Int) : C10 := if kindB k = true then ⟨k, 15000, 1000000000, 0, 0, 0, 0, 0, 0, true⟩ else zeroC
def sentC (k wn th fl ac la og st fr : Int) (sl : Bool) (n : Int) : C10 := if sentB k wn th fl ac la og st fr n = true then ⟨k, wn, th, fl + n, ac, la, og, st, fr, sl⟩ else zeroC
def lossC (k wn th fl ac la og st fr : Int) (sl : Bool) : C10 := if ccB k wn th fl ac la og st fr = true then ⟨k, halfW wn, halfW wn, fl, 0, la, og, st, fr, false⟩ else zeroC
def timeC (k wn th fl ac la og st fr : Int) (sl : Bool) : C10 := if ccB k wn th fl ac la og st fr = true then ⟨k, 3000, halfW wn, 0, 0, la, og, st, fr, false⟩ else zeroC
theorem specCcOk_below (k wn th fl ac la og st fr : Int) (sl : Bool) (w : World) : Calls Try.prog 20 #[.agg #[.int .i64 k, .int .i64 wn, .int .i64 th, .int .i64 fl, .int .i64 ac, .int .i64 la, .int .i64 og, .int .i64 st, .int .i64 fr, .bool sl]] w fun e w' => e = .returned (.bool (ccB k wn th fl ac la og st fr)) ∧ Below w.heap.size w w' := by
  refine (specCcOk_any k wn th fl ac la og st fr sl w).mono ?_
  rintro e w' ⟨rfl, rfl⟩
  exact ⟨rfl, by go_grown⟩
theorem specRenoTimeout_any (k wn th fl ac la og st fr : Int) (sl : Bool) (w : World) : Calls Try.prog 8 #[.agg #[.int .i64 k, .int .i64 wn, .int .i64 th, .int .i64 fl, .int .i64 ac, .int .i64 la, .int .i64 og, .int .i64 st, .int .i64 fr, .bool sl]] w fun e w' => e = .returned (.agg #[.int .i64 ((timeC k wn th fl ac la og st fr sl).k), .int .i64 ((timeC k wn th fl ac la og st fr sl).wn), .int .i64 ((timeC k wn th fl ac la og st fr sl).th), .int .i64 ((timeC k wn th fl ac la og st fr sl).fl), .int .i64 ((timeC k wn th fl ac la og st fr sl).ac), .int .i64 ((timeC k wn th fl ac la og st fr sl).la), .int .i64 ((timeC k wn th fl ac la og st fr sl).og), .int .i64 ((timeC k wn th fl ac la og st fr sl).st), .int .i64 ((timeC k wn th fl ac la og st fr sl).fr), .bool (timeC k wn th fl ac la og st fr sl).sl]) ∧ Below w.heap.size w w' := by
  cases h1 : ccB k wn th fl ac la og st fr
  · rw [show timeC k wn th fl ac la og st fr sl = zeroC from if_neg (by rw [h1]; decide)]
    exact specRenoTimeout_no sl w h1
  · rw [show timeC k wn th fl ac la og st fr sl = ⟨k, 3000, halfW wn, 0, 0, la, og, st, fr, false⟩ from if_pos h1]
    exact specRenoTimeout_yes sl w h1
theorem implCcOk_below (k wn th fl ac la og st fr : Int) (sl : Bool) (w : World) : Calls Try.prog 22 #[.agg #[.int .i64 k, .int .i64 wn, .int .i64 th, .int .i64 fl, .int .i64 ac, .int .i64 la, .int .i64 og, .int .i64 st, .int .i64 fr, .bool sl]] w fun e w' => e = .returned (.bool (ccB k wn th fl ac la og st fr)) ∧ Below w.heap.size w w' := by
  refine (implCcOk_any k wn th fl ac la og st fr sl w).mono ?_
  rintro e w' ⟨rfl, rfl⟩
  exact ⟨rfl, by go_grown⟩
theorem implRenoTimeout_any (k wn th fl ac la og st fr : Int) (sl : Bool) (w : World) : Calls Try.prog 10 #[.agg #[.int .i64 k, .int .i64 wn, .int .i64 th, .int .i64 fl, .int .i64 ac, .int .i64 la, .int .i64 og, .int .i64 st, .int .i64 fr, .bool sl]] w fun e w' => e = .returned (.agg #[.int .i64 ((timeC k wn th fl ac la og st fr sl).k), .int .i64 ((timeC k wn th fl ac la og st fr sl).wn), .int .i64 ((timeC k wn th fl ac la og st fr sl).th), .int .i64 ((timeC k wn th fl ac la og st fr sl).fl), .int .i64 ((timeC k wn th fl ac la og st fr sl).ac), .int .i64 ((timeC k wn th fl ac la og st fr sl).la), .int .i64 ((timeC k wn th fl ac la og st fr sl).og), .int .i64 ((timeC k wn th fl ac la og st fr sl).st), .int .i64 ((timeC k wn th fl ac la og st fr sl).fr), .bool (timeC k wn th fl ac la og st fr sl).sl]) ∧ Below w.heap.size w w' := by
  cases h1 : ccB k wn th fl ac la og st fr
  · rw [show timeC k wn th fl ac la og st fr sl = zeroC from if_neg (by rw [h1]; decide)]
    exact implRenoTimeout_no sl w h1
  · rw [show timeC k wn th fl ac la og st fr sl = ⟨k, 3000, halfW wn, 0, 0, la, og, st, fr, false⟩ from if_pos h1]
    exact implRenoTimeout_yes sl w h1
end Go.Proofs.Ytmophpbfaonfmap
