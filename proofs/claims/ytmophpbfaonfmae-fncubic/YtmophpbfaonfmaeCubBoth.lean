/- Chapter 11: the answers as functions, at any argument, spec's and impl's. -/
import Derived.Test.YtmophpbfaonfmaeCcBoth
import Derived.Test.YtmophpbfaonfmaeImplCubLoss
import Derived.Test.YtmophpbfaonfmaeImplCubAck
import Derived.Test.YtmophpbfaonfmaeSpecCubAckB
import Derived.Test.YtmophpbfaonfmaeSpecCubAckC
import Derived.Test.YtmophpbfaonfmaeSpecCubAckD
namespace Go.Proofs.Ytmophpbfaonfmae
open Go.ChangeShapes Go.WideShapes Go.ChangeAt Go.RowKit
set_option maxRecDepth 100000
set_option linter.unusedVariables false

def downC (k wn th fl ac la og st fr : Int) (sl : Bool) : C10 := if ccB k wn th fl ac la og st fr = true then ⟨k, tenW wn, tenW wn, fl, 0, lastW wn la, 0, 0, 0, false⟩ else zeroC
def cubIn (k wn th fl ac la og st fr : Int) (sl : Bool) (n now : Int) : C10 := if sl = true ∧ wn < th then (if wn + n < th then ⟨k, wn + n, th, max 0 (fl - n), ac, la, og, st, fr, true⟩ else ⟨k, th, th, max 0 (fl - n), ac, la, og, st, fr, false⟩) else if st = 0 then ⟨k, wnW wn (frW wn wn n) (tgW wn (max la wn) wn (msOf (max 1 now) now)), th, max 0 (fl - n), ac, max la wn, wn, max 1 now, frW wn wn n, sl⟩ else ⟨k, wnW wn (frW wn fr n) (tgW wn la og (msOf st now)), th, max 0 (fl - n), ac, la, og, st, frW wn fr n, sl⟩
def cubC (k wn th fl ac la og st fr : Int) (sl : Bool) (n now : Int) : C10 := if (ccB k wn th fl ac la og st fr = true ∧ n10B n = true) ∧ timeB now = true then cubIn k wn th fl ac la og st fr sl n now else zeroC
theorem cc_fl {k wn th fl ac la og st fr gx : Int} (h : ccB k wn th fl ac la og st fr = true) (hg : 0 ≤ gx ∧ gx ≤ 1000000000) : ccB k wn th gx ac la og st fr = true := by
  have hw : w10B gx = true := by unfold w10B; simp only [Bool.and_eq_true, decide_eq_true_eq]; exact hg
  unfold ccB at h ⊢
  simp only [Bool.and_eq_true] at h ⊢
  simp_all only [and_self]
theorem specCubicLoss_any (k wn th fl ac la og st fr : Int) (sl : Bool) (w : World) : Calls Try.prog 39 #[.agg #[.int .i64 k, .int .i64 wn, .int .i64 th, .int .i64 fl, .int .i64 ac, .int .i64 la, .int .i64 og, .int .i64 st, .int .i64 fr, .bool sl]] w fun e w' => e = .returned (.agg #[.int .i64 ((downC k wn th fl ac la og st fr sl).k), .int .i64 ((downC k wn th fl ac la og st fr sl).wn), .int .i64 ((downC k wn th fl ac la og st fr sl).th), .int .i64 ((downC k wn th fl ac la og st fr sl).fl), .int .i64 ((downC k wn th fl ac la og st fr sl).ac), .int .i64 ((downC k wn th fl ac la og st fr sl).la), .int .i64 ((downC k wn th fl ac la og st fr sl).og), .int .i64 ((downC k wn th fl ac la og st fr sl).st), .int .i64 ((downC k wn th fl ac la og st fr sl).fr), .bool (downC k wn th fl ac la og st fr sl).sl]) ∧ Below w.heap.size w w' := by
  cases h1 : ccB k wn th fl ac la og st fr
  · rw [show downC k wn th fl ac la og st fr sl = zeroC from if_neg (by rw [h1]; decide)]
    exact specCubicLoss_no sl w h1
  · rw [show downC k wn th fl ac la og st fr sl = ⟨k, tenW wn, tenW wn, fl, 0, lastW wn la, 0, 0, 0, false⟩ from if_pos h1]
    exact specCubicLoss_yes sl w h1
theorem specCubicAck_any (k wn th fl ac la og st fr : Int) (sl : Bool) (n now : Int) (w : World) : Calls Try.prog 38 #[.agg #[.int .i64 k, .int .i64 wn, .int .i64 th, .int .i64 fl, .int .i64 ac, .int .i64 la, .int .i64 og, .int .i64 st, .int .i64 fr, .bool sl], .int .i64 n, .int .i64 now] w fun e w' => e = .returned (.agg #[.int .i64 ((cubC k wn th fl ac la og st fr sl n now).k), .int .i64 ((cubC k wn th fl ac la og st fr sl n now).wn), .int .i64 ((cubC k wn th fl ac la og st fr sl n now).th), .int .i64 ((cubC k wn th fl ac la og st fr sl n now).fl), .int .i64 ((cubC k wn th fl ac la og st fr sl n now).ac), .int .i64 ((cubC k wn th fl ac la og st fr sl n now).la), .int .i64 ((cubC k wn th fl ac la og st fr sl n now).og), .int .i64 ((cubC k wn th fl ac la og st fr sl n now).st), .int .i64 ((cubC k wn th fl ac la og st fr sl n now).fr), .bool (cubC k wn th fl ac la og st fr sl n now).sl]) ∧ Below w.heap.size w w' := by
  cases h1 : ccB k wn th fl ac la og st fr
  · rw [show cubC k wn th fl ac la og st fr sl n now = zeroC from if_neg (fun h => by rw [h1] at h; cases h.1.1)]
    exact specCubicAck_no1 sl w h1
  cases h2 : n10B n
  · rw [show cubC k wn th fl ac la og st fr sl n now = zeroC from if_neg (fun h => by rw [h2] at h; cases h.1.2)]
    exact specCubicAck_no2 sl w h1 h2
  cases h3 : timeB now
  · rw [show cubC k wn th fl ac la og st fr sl n now = zeroC from if_neg (fun h => by rw [h3] at h; cases h.2)]
    exact specCubicAck_no3 sl w h1 h2 h3
  rw [show cubC k wn th fl ac la og st fr sl n now = cubIn k wn th fl ac la og st fr sl n now from if_pos ⟨⟨h1, h2⟩, h3⟩]
  cases sl
  · have HN : ¬ (false = true ∧ wn < th) := fun h => by cases h.1
    by_cases h6 : st = 0
    · subst h6
      rw [show cubIn k wn th fl ac la og 0 fr false n now = ⟨k, wnW wn (frW wn wn n) (tgW wn (max la wn) wn (msOf (max 1 now) now)), th, max 0 (fl - n), ac, max la wn, wn, max 1 now, frW wn wn n, false⟩ from (if_neg HN).trans (if_pos rfl)]
      exact specCubicAck_new w h1 h2 h3
    · rw [show cubIn k wn th fl ac la og st fr false n now = ⟨k, wnW wn (frW wn fr n) (tgW wn la og (msOf st now)), th, max 0 (fl - n), ac, la, og, st, frW wn fr n, false⟩ from (if_neg HN).trans (if_neg h6)]
      exact specCubicAck_old w h1 h2 h3 h6
  · by_cases h5 : wn < th
    · by_cases h4 : wn + n < th
      · rw [show cubIn k wn th fl ac la og st fr true n now = ⟨k, wn + n, th, max 0 (fl - n), ac, la, og, st, fr, true⟩ from (if_pos ⟨rfl, h5⟩).trans (if_pos h4)]
        exact specCubicAck_rise w h1 h2 h3 h5 h4
      · rw [show cubIn k wn th fl ac la og st fr true n now = ⟨k, th, th, max 0 (fl - n), ac, la, og, st, fr, false⟩ from (if_pos ⟨rfl, h5⟩).trans (if_neg h4)]
        exact specCubicAck_top w h1 h2 h3 h5 (by omega)
    · have HN : ¬ (true = true ∧ wn < th) := fun h => h5 h.2
      by_cases h6 : st = 0
      · subst h6
        rw [show cubIn k wn th fl ac la og 0 fr true n now = ⟨k, wnW wn (frW wn wn n) (tgW wn (max la wn) wn (msOf (max 1 now) now)), th, max 0 (fl - n), ac, max la wn, wn, max 1 now, frW wn wn n, true⟩ from (if_neg HN).trans (if_pos rfl)]
        exact specCubicAck_newS w h1 h2 h3 (by omega)
      · rw [show cubIn k wn th fl ac la og st fr true n now = ⟨k, wnW wn (frW wn fr n) (tgW wn la og (msOf st now)), th, max 0 (fl - n), ac, la, og, st, frW wn fr n, true⟩ from (if_neg HN).trans (if_neg h6)]
        exact specCubicAck_oldS w h1 h2 h3 (by omega) h6
theorem implCubicLoss_any (k wn th fl ac la og st fr : Int) (sl : Bool) (w : World) : Calls Try.prog 37 #[.agg #[.int .i64 k, .int .i64 wn, .int .i64 th, .int .i64 fl, .int .i64 ac, .int .i64 la, .int .i64 og, .int .i64 st, .int .i64 fr, .bool sl]] w fun e w' => e = .returned (.agg #[.int .i64 ((downC k wn th fl ac la og st fr sl).k), .int .i64 ((downC k wn th fl ac la og st fr sl).wn), .int .i64 ((downC k wn th fl ac la og st fr sl).th), .int .i64 ((downC k wn th fl ac la og st fr sl).fl), .int .i64 ((downC k wn th fl ac la og st fr sl).ac), .int .i64 ((downC k wn th fl ac la og st fr sl).la), .int .i64 ((downC k wn th fl ac la og st fr sl).og), .int .i64 ((downC k wn th fl ac la og st fr sl).st), .int .i64 ((downC k wn th fl ac la og st fr sl).fr), .bool (downC k wn th fl ac la og st fr sl).sl]) ∧ Below w.heap.size w w' := by
  cases h1 : ccB k wn th fl ac la og st fr
  · rw [show downC k wn th fl ac la og st fr sl = zeroC from if_neg (by rw [h1]; decide)]
    exact implCubicLoss_no sl w h1
  · rw [show downC k wn th fl ac la og st fr sl = ⟨k, tenW wn, tenW wn, fl, 0, lastW wn la, 0, 0, 0, false⟩ from if_pos h1]
    exact implCubicLoss_yes sl w h1
theorem implCubicAck_any (k wn th fl ac la og st fr : Int) (sl : Bool) (n now : Int) (w : World) : Calls Try.prog 36 #[.agg #[.int .i64 k, .int .i64 wn, .int .i64 th, .int .i64 fl, .int .i64 ac, .int .i64 la, .int .i64 og, .int .i64 st, .int .i64 fr, .bool sl], .int .i64 n, .int .i64 now] w fun e w' => e = .returned (.agg #[.int .i64 ((cubC k wn th fl ac la og st fr sl n now).k), .int .i64 ((cubC k wn th fl ac la og st fr sl n now).wn), .int .i64 ((cubC k wn th fl ac la og st fr sl n now).th), .int .i64 ((cubC k wn th fl ac la og st fr sl n now).fl), .int .i64 ((cubC k wn th fl ac la og st fr sl n now).ac), .int .i64 ((cubC k wn th fl ac la og st fr sl n now).la), .int .i64 ((cubC k wn th fl ac la og st fr sl n now).og), .int .i64 ((cubC k wn th fl ac la og st fr sl n now).st), .int .i64 ((cubC k wn th fl ac la og st fr sl n now).fr), .bool (cubC k wn th fl ac la og st fr sl n now).sl]) ∧ Below w.heap.size w w' := by
  cases h1 : ccB k wn th fl ac la og st fr
  · rw [show cubC k wn th fl ac la og st fr sl n now = zeroC from if_neg (fun h => by rw [h1] at h; cases h.1.1)]
    exact implCubicAck_no1 sl w h1
  cases h2 : n10B n
  · rw [show cubC k wn th fl ac la og st fr sl n now = zeroC from if_neg (fun h => by rw [h2] at h; cases h.1.2)]
    exact implCubicAck_no2 sl w h1 h2
  cases h3 : timeB now
  · rw [show cubC k wn th fl ac la og st fr sl n now = zeroC from if_neg (fun h => by rw [h3] at h; cases h.2)]
    exact implCubicAck_no3 sl w h1 h2 h3
  rw [show cubC k wn th fl ac la og st fr sl n now = cubIn k wn th fl ac la og st fr sl n now from if_pos ⟨⟨h1, h2⟩, h3⟩]
  obtain ⟨_, hw, ht, hf, _⟩ := cc_num h1
  have hn := n10_num h2
  have hg : (if fl - n < 0 then 0 else fl - n) = max 0 (fl - n) := by split <;> omega
  have h1' := cc_fl (gx := max 0 (fl - n)) h1 (by omega)
  cases sl
  · have HN : ¬ (false = true ∧ wn < th) := fun h => by cases h.1
    by_cases h6 : st = 0
    · subst h6
      rw [show cubIn k wn th fl ac la og 0 fr false n now = ⟨k, wnW wn (frW wn wn n) (tgW wn (max la wn) wn (msOf (max 1 now) now)), th, max 0 (fl - n), ac, max la wn, wn, max 1 now, frW wn wn n, false⟩ from (if_neg HN).trans (if_pos rfl)]
      exact implCubicAck_go _ w h1 h2 h3 (fun {tb bm w} T => thr_stepA w T hf hn hg (fun {w} T => along_new false w T h1' h2 h3))
    · rw [show cubIn k wn th fl ac la og st fr false n now = ⟨k, wnW wn (frW wn fr n) (tgW wn la og (msOf st now)), th, max 0 (fl - n), ac, la, og, st, frW wn fr n, false⟩ from (if_neg HN).trans (if_neg h6)]
      exact implCubicAck_go _ w h1 h2 h3 (fun {tb bm w} T => thr_stepA w T hf hn hg (fun {w} T => along_old false w T h1' h2 h3 h6))
  · by_cases h5 : wn < th
    · by_cases h4 : wn + n < th
      · rw [show cubIn k wn th fl ac la og st fr true n now = ⟨k, wn + n, th, max 0 (fl - n), ac, la, og, st, fr, true⟩ from (if_pos ⟨rfl, h5⟩).trans (if_pos h4)]
        exact implCubicAck_go _ w h1 h2 h3 (fun {tb bm w} T => thr_rise w hf hn hg hw ht h5 h4)
      · rw [show cubIn k wn th fl ac la og st fr true n now = ⟨k, th, th, max 0 (fl - n), ac, la, og, st, fr, false⟩ from (if_pos ⟨rfl, h5⟩).trans (if_neg h4)]
        exact implCubicAck_go _ w h1 h2 h3 (fun {tb bm w} T => thr_top w hf hn hg hw ht h5 (by omega))
    · have HN : ¬ (true = true ∧ wn < th) := fun h => h5 h.2
      by_cases h6 : st = 0
      · subst h6
        rw [show cubIn k wn th fl ac la og 0 fr true n now = ⟨k, wnW wn (frW wn wn n) (tgW wn (max la wn) wn (msOf (max 1 now) now)), th, max 0 (fl - n), ac, max la wn, wn, max 1 now, frW wn wn n, true⟩ from (if_neg HN).trans (if_pos rfl)]
        exact implCubicAck_go _ w h1 h2 h3 (fun {tb bm w} T => thr_stepB w T hf hn hg (by omega) (fun {w} T => along_new true w T h1' h2 h3))
      · rw [show cubIn k wn th fl ac la og st fr true n now = ⟨k, wnW wn (frW wn fr n) (tgW wn la og (msOf st now)), th, max 0 (fl - n), ac, la, og, st, frW wn fr n, true⟩ from (if_neg HN).trans (if_neg h6)]
        exact implCubicAck_go _ w h1 h2 h3 (fun {tb bm w} T => thr_stepB w T hf hn hg (by omega) (fun {w} T => along_old true w T h1' h2 h3 h6))
end Go.Proofs.Ytmophpbfaonfmae
