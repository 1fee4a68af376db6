/- Observe: both sides at any input. -/
import Derived.Test.YtiibafphgjlffaeSpecObsNo
import Derived.Test.YtiibafphgjlffaeImplObs
namespace Go.Proofs.Ytiibafphgjlffae
open Go.ChangeShapes Go.WideShapes Go.ChangeAt Go.RowKit
set_option maxRecDepth 100000
set_option linter.unusedVariables false
set_option linter.unusedSimpArgs false

/-- When Observe does not refuse. -/
def ObOk (sa cy sn tp sv mt ta now rate trip flight : Int) (xs : List (Int × Int)) : Prop := pokB sa cy sn tp sv mt ta xs = true ∧ timeB now = true ∧ rateB rate = true ∧ inP 1 trip 1000000000000000 = true ∧ w10B flight = true ∧ ¬ now < sn ∧ ¬ now < ta ∧ lastAt xs ≤ now
theorem ob_push {sa cy sn tp sv mt ta now rate trip flight : Int} {xs : List (Int × Int)} (h : ObOk sa cy sn tp sv mt ta now rate trip flight xs) : PushOk true xs (now, rate) 10000000000 := by
  obtain ⟨hp, hn, hr, _, _, _, _, hl⟩ := h
  exact ⟨(pok_fil hp).1, by unfold smpB; rw [hn, hr]; rfl, by decide, hl⟩
theorem ob_no {sa cy sn tp sv mt ta now rate trip flight : Int} {xs : List (Int × Int)} (hp : pokB sa cy sn tp sv mt ta xs = true) (hn : timeB now = true) (hr : rateB rate = true) (ht : inP 1 trip 1000000000000000 = true) (hw : w10B flight = true) (h1 : ¬ now < sn) (h2 : ¬ now < ta) (h : ¬ ObOk sa cy sn tp sv mt ta now rate trip flight xs) : ¬ PushOk true xs (now, rate) 10000000000 := fun k => h ⟨hp, hn, hr, ht, hw, h1, h2, k.2.2.2⟩
/-- A Probe with a list of its own, made anew. -/
def AnsPost (w : World) (ys : List (Int × Int)) (s : Pb) (e : Ending) (w' : World) : Prop := ∃ a n c, e = .returned (.agg #[.int .i64 s.sa, .int .i64 s.cy, .int .i64 s.sn, .int .i64 s.tp, .int .i64 s.sv, .slice a n c, .int .i64 s.mt, .int .i64 s.ta]) ∧ FV w' w.heap.size (.slice a n c) ys ∧ Below w.heap.size w w'
theorem ans_zero {w w' : World} {e : Ending} (h : e = .returned (.agg #[.int .i64 0, .int .i64 0, .int .i64 0, .int .i64 0, .int .i64 0, .slice none 0 0, .int .i64 0, .int .i64 0]) ∧ Below w.heap.size w w') : AnsPost w [] ⟨0, 0, 0, 0, 0, 0, 0⟩ e w' := ⟨none, 0, 0, h.1, .inr ⟨rfl, rfl⟩, h.2⟩
theorem ans_ob {w w' : World} {e : Ending} {zs : List (Int × Int)} {s : Pb} (h : ObPost w zs s e w') : AnsPost w zs s e w' := by
  obtain ⟨g, c, h1, h2, h3⟩ := h
  exact ⟨_, _, _, h1, h2, h3⟩
theorem specObserve_no {sa cy sn tp sv mt ta now rate trip flight : Int} {w : World} {a : Option Addr} (cap : Nat) {xs : List (Int × Int)} (h : ¬ ObOk sa cy sn tp sv mt ta now rate trip flight xs) (smp : Smp w.heap.size w a xs) : Calls Try.prog 44 #[.agg #[.int .i64 sa, .int .i64 cy, .int .i64 sn, .int .i64 tp, .int .i64 sv, .slice a xs.length cap, .int .i64 mt, .int .i64 ta], .int .i64 now, .int .i64 rate, .int .i64 trip, .int .i64 flight] w fun e w' => e = .returned (.agg #[.int .i64 0, .int .i64 0, .int .i64 0, .int .i64 0, .int .i64 0, .slice none 0 0, .int .i64 0, .int .i64 0]) ∧ Below w.heap.size w w' := by
  cases hp : pokB sa cy sn tp sv mt ta xs
  · exact specObserve_no0 cap hp smp
  cases hn : timeB now
  · exact specObserve_no1 cap hp hn smp
  cases hr : rateB rate
  · exact specObserve_no2 cap hp hn hr smp
  cases ht : inP 1 trip 1000000000000000
  · exact specObserve_no3 cap hp hn hr ht smp
  cases hw : w10B flight
  · exact specObserve_no4 cap hp hn hr ht hw smp
  by_cases h1 : now < sn
  · exact specObserve_no5 cap hp hn hr ht hw h1 smp
  by_cases h2 : now < ta
  · exact specObserve_no6 cap hp hn hr ht hw h1 h2 smp
  exact specObserve_push cap hp hn hr ht hw h1 h2 (ob_no hp hn hr ht hw h1 h2 h) smp
theorem implObserve_no {sa cy sn tp sv mt ta now rate trip flight : Int} {w : World} {a : Option Addr} (cap : Nat) {xs : List (Int × Int)} (h : ¬ ObOk sa cy sn tp sv mt ta now rate trip flight xs) (smp : Smp w.heap.size w a xs) : Calls Try.prog 42 #[.agg #[.int .i64 sa, .int .i64 cy, .int .i64 sn, .int .i64 tp, .int .i64 sv, .slice a xs.length cap, .int .i64 mt, .int .i64 ta], .int .i64 now, .int .i64 rate, .int .i64 trip, .int .i64 flight] w fun e w' => e = .returned (.agg #[.int .i64 0, .int .i64 0, .int .i64 0, .int .i64 0, .int .i64 0, .slice none 0 0, .int .i64 0, .int .i64 0]) ∧ Below w.heap.size w w' := by
  cases hp : pokB sa cy sn tp sv mt ta xs
  · exact implObserve_no0 cap hp smp
  by_cases h1 : now < sn
  · exact implObserve_no1 cap hp h1 smp
  by_cases h2 : now < ta
  · exact implObserve_no2 cap hp h1 h2 smp
  cases ht : inP 1 trip 1000000000000000
  · exact implObserve_no3 cap hp h1 h2 ht smp
  cases hw : w10B flight
  · exact implObserve_no4 cap hp h1 h2 ht hw smp
  refine implObserve_push cap hp h1 h2 ht hw (fun k => h ⟨hp, ?_, ?_, ht, hw, h1, h2, k.2.2.2⟩ : ¬ PushOk true xs (now, rate) 10000000000) smp
  · have q := k.2.1
    unfold smpB at q
    simp only [Bool.and_eq_true] at q
    exact q.1
  · have q := k.2.1
    unfold smpB at q
    simp only [Bool.and_eq_true] at q
    exact q.2
theorem push_few {most : Bool} {xs : List (Int × Int)} {s : Int × Int} {win : Int} (h : PushOk most xs s win) : (pushOf most xs s win).length ≤ 100 := (push_ok h).1
open Classical in
/-- One list and one Probe's numbers: both sides answer with them. -/
theorem observes (sa cy sn tp sv mt ta now rate trip flight : Int) (xs : List (Int × Int)) : ∃ (ys : List (Int × Int)) (s : Pb), ys.length ≤ 100 ∧ (ObOk sa cy sn tp sv mt ta now rate trip flight xs → ys = pushOf true xs (now, rate) 10000000000 ∧ s = obs now (bestOf ys) trip flight ⟨sa, cy, sn, tp, sv, mt, ta⟩) ∧ (¬ ObOk sa cy sn tp sv mt ta now rate trip flight xs → ys = [] ∧ s = ⟨0, 0, 0, 0, 0, 0, 0⟩) ∧
    (∀ (w : World) (a : Option Addr) (cap : Nat), Smp w.heap.size w a xs → Calls Try.prog 44 #[.agg #[.int .i64 sa, .int .i64 cy, .int .i64 sn, .int .i64 tp, .int .i64 sv, .slice a xs.length cap, .int .i64 mt, .int .i64 ta], .int .i64 now, .int .i64 rate, .int .i64 trip, .int .i64 flight] w (AnsPost w ys s)) ∧
    (∀ (w : World) (a : Option Addr) (cap : Nat), Smp w.heap.size w a xs → xs.length ≤ cap → (a = none → cap = 0) → Calls Try.prog 42 #[.agg #[.int .i64 sa, .int .i64 cy, .int .i64 sn, .int .i64 tp, .int .i64 sv, .slice a xs.length cap, .int .i64 mt, .int .i64 ta], .int .i64 now, .int .i64 rate, .int .i64 trip, .int .i64 flight] w (AnsPost w ys s)) := by
  by_cases h : ObOk sa cy sn tp sv mt ta now rate trip flight xs
  · have hP := ob_push h
    obtain ⟨hp, hn, hr, ht, hw, h1, h2, hl⟩ := id h
    refine ⟨pushOf true xs (now, rate) 10000000000, obs now (bestOf (pushOf true xs (now, rate) 10000000000)) trip flight ⟨sa, cy, sn, tp, sv, mt, ta⟩, push_few hP, fun _ => ⟨rfl, rfl⟩, fun k => absurd h k, ?_, ?_⟩
    · intro w a cap smp
      exact (specObserve_go cap hp hn hr ht hw h1 h2 hP rfl smp).mono fun e w' k => ans_ob k
    · intro w a cap smp hlc hnn
      exact (implObserve_go cap hp hn ht hw h1 h2 hP rfl smp hlc hnn).mono fun e w' k => ans_ob k
  · refine ⟨[], ⟨0, 0, 0, 0, 0, 0, 0⟩, by decide, fun k => absurd k h, fun _ => ⟨rfl, rfl⟩, ?_, ?_⟩
    · intro w a cap smp
      exact (specObserve_no cap h smp).mono fun e w' k => ans_zero k
    · intro w a cap smp hlc hnn
      exact (implObserve_no cap h smp).mono fun e w' k => ans_zero k
end Go.Proofs.Ytiibafphgjlffae
