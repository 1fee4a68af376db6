/- Turns as mathematics: when they are right; what waits. A flow is (Quantum, Deficit, Sizes). -/
import Derived.Test.YtibfclfidaofkasGrpV
namespace Go.Proofs.Ytibfclfidaofkas
open Go.ChangeShapes Go.WideShapes Go.ChangeAt Go.RowKit
set_option maxRecDepth 100000
set_option linter.unusedVariables false

def inB (lo x hi : Int) : Bool := decide (lo ≤ x) && decide (x ≤ hi)
def sg (n : Int) : Bool := inB 1 n 1500
def allSg (xs : List Int) : Bool := xs.all sg
def flowB (f : F8) : Bool := (((inB 1500 f.1 1000000000 && inB 0 f.2.1 (f.1 + 1500)) && decide (f.2.2.length ≤ 100)) && (!decide (f.2.2.length = 0) || decide (f.2.1 = 0))) && allSg f.2.2
/-- Flow i is right in its place. -/
def atB (at' : Int) (fresh : Bool) (i : Nat) (f : F8) : Bool := flowB f && ((decide ((i : Int) = at') && !fresh) || decide (f.2.1 < 1500))
def okTo (fs : List F8) (at' : Int) (fresh : Bool) : Nat → Bool
  | 0 => true
  | k + 1 => okTo fs at' fresh k && (match fs[k]? with | some f => atB at' fresh k f | none => true)
def turnsB (fs : List F8) (at' : Int) (fresh : Bool) : Bool := ((inB 1 fs.length 30) && inB 0 at' ((fs.length : Int) - 1)) && okTo fs at' fresh fs.length
theorem in_num {lo x hi : Int} (h : inB lo x hi = true) : lo ≤ x ∧ x ≤ hi := by simpa [inB] using h
theorem ok_next {fs : List F8} {at' : Int} {fresh : Bool} {k : Nat} (h : k < fs.length) : okTo fs at' fresh (k + 1) = (okTo fs at' fresh k && atB at' fresh k fs[k]) := by
  show (okTo fs at' fresh k && (match fs[k]? with | some f => atB at' fresh k f | none => true)) = _
  rw [List.getElem?_eq_getElem h]
theorem ok_stays {fs : List F8} {at' : Int} {fresh : Bool} {k : Nat} (h : okTo fs at' fresh k = false) : ∀ d, okTo fs at' fresh (k + d) = false
  | 0 => h
  | d + 1 => by
    show (okTo fs at' fresh (k + d) && _) = false
    rw [ok_stays h d]
    rfl
theorem ok_bad {fs : List F8} {at' : Int} {fresh : Bool} {k : Nat} (hk : k < fs.length) (h : atB at' fresh k fs[k] = false) : okTo fs at' fresh fs.length = false := by
  have e : okTo fs at' fresh (k + 1) = false := by rw [ok_next hk, h, Bool.and_false]
  have s := ok_stays e (fs.length - (k + 1))
  rw [show k + 1 + (fs.length - (k + 1)) = fs.length by omega] at s
  exact s
theorem ok_all {fs : List F8} {at' : Int} {fresh : Bool} : ∀ {n : Nat}, okTo fs at' fresh n = true → ∀ k (h : k < fs.length), k < n → atB at' fresh k fs[k] = true
  | 0, _, k, _, hk => by omega
  | n + 1, h, k, hl, hk => by
    by_cases hn : n < fs.length
    · rw [ok_next hn, Bool.and_eq_true] at h
      by_cases e : k = n
      · subst e; exact h.2
      · exact ok_all h.1 k hl (by omega)
    · have h' : (okTo fs at' fresh n && (match fs[n]? with | some f => atB at' fresh n f | none => true)) = true := h
      rw [Bool.and_eq_true] at h'
      exact ok_all h'.1 k hl (by omega)
theorem sg_step {xs : List Int} {k : Nat} (h : k < xs.length) : allSg (xs.take (k + 1)) = (allSg (xs.take k) && sg xs[k]) := by
  unfold allSg
  rw [List.take_succ_eq_append_getElem h, List.all_append]
  simp
theorem sg_bad {xs : List Int} {k : Nat} (h : k < xs.length) (hs : sg xs[k] = false) : allSg xs = false := by
  unfold allSg
  rw [List.all_eq_false]
  exact ⟨xs[k], List.getElem_mem h, by rw [hs]; simp⟩
theorem sg_all {xs : List Int} (h : ∀ k (hk : k < xs.length), sg xs[k] = true) : allSg xs = true := by
  unfold allSg
  rw [List.all_eq_true]
  intro x hx
  obtain ⟨k, hk, rfl⟩ := List.mem_iff_getElem.1 hx
  exact h k hk
theorem sg_at {xs : List Int} (h : allSg xs = true) (k : Nat) (hk : k < xs.length) : 1 ≤ xs[k] ∧ xs[k] ≤ 1500 := in_num (List.all_eq_true.1 h _ (List.getElem_mem hk))
/-- A flow that is right, in numbers. -/
structure FlowOk (f : F8) : Prop where
  q0 : 1500 ≤ f.1
  q1 : f.1 ≤ 1000000000
  d0 : 0 ≤ f.2.1
  d1 : f.2.1 ≤ f.1 + 1500
  len : f.2.2.length ≤ 100
  none : f.2.2.length = 0 → f.2.1 = 0
  seg : allSg f.2.2 = true
theorem flow_ok {f : F8} (h : flowB f = true) : FlowOk f := by
  unfold flowB at h
  simp only [Bool.and_eq_true] at h
  obtain ⟨⟨⟨⟨h1, h2⟩, h3⟩, h4⟩, h5⟩ := h
  refine ⟨(in_num h1).1, (in_num h1).2, (in_num h2).1, (in_num h2).2, of_decide_eq_true h3, fun e => ?_, h5⟩
  rw [decide_eq_true e] at h4
  simpa using h4
/-- Turns that are right. -/
structure TurnsOk (fs : List F8) (at' : Int) (fresh : Bool) : Prop where
  l0 : 1 ≤ fs.length
  l1 : fs.length ≤ 30
  a0 : 0 ≤ at'
  a1 : at' < fs.length
  flow : ∀ k (h : k < fs.length), FlowOk fs[k]
  less : ∀ k (h : k < fs.length), ((k : Int) ≠ at' ∨ fresh = true) → fs[k].2.1 < 1500
theorem turns_ok {fs : List F8} {at' : Int} {fresh : Bool} (h : turnsB fs at' fresh = true) : TurnsOk fs at' fresh := by
  unfold turnsB at h
  simp only [Bool.and_eq_true] at h
  obtain ⟨⟨h1, h2⟩, h3⟩ := h
  have n1 := in_num h1
  have n2 := in_num h2
  refine ⟨by omega, by omega, n2.1, by omega, fun k hk => ?_, fun k hk hne => ?_⟩
  · have := ok_all h3 k hk hk
    unfold atB at this
    rw [Bool.and_eq_true] at this
    exact flow_ok this.1
  · have := ok_all h3 k hk hk
    unfold atB at this
    rw [Bool.and_eq_true, Bool.or_eq_true] at this
    rcases this.2 with e | e
    · rw [Bool.and_eq_true] at e
      have e1 := of_decide_eq_true e.1
      rcases hne with hn | hn
      · exact absurd e1 hn
      · rw [hn] at e; exact absurd e.2 (by decide)
    · exact of_decide_eq_true e
/-- How many bytes the first k of a list are, and the first k flows. -/
def sumTo (xs : List Int) : Nat → Int
  | 0 => 0
  | k + 1 => sumTo xs k + (match xs[k]? with | some x => x | none => 0)
def waitTo (fs : List F8) : Nat → Int
  | 0 => 0
  | k + 1 => waitTo fs k + (match fs[k]? with | some f => sumTo f.2.2 f.2.2.length | none => 0)
def waitOf (fs : List F8) (at' : Int) (fresh : Bool) : Int := if turnsB fs at' fresh = true then waitTo fs fs.length else -1
theorem sumTo_next {xs : List Int} {k : Nat} (h : k < xs.length) : sumTo xs (k + 1) = sumTo xs k + xs[k] := by
  show sumTo xs k + (match xs[k]? with | some x => x | none => 0) = _
  rw [List.getElem?_eq_getElem h]
theorem waitTo_next {fs : List F8} {k : Nat} (h : k < fs.length) : waitTo fs (k + 1) = waitTo fs k + sumTo fs[k].2.2 fs[k].2.2.length := by
  show waitTo fs k + (match fs[k]? with | some f => sumTo f.2.2 f.2.2.length | none => 0) = _
  rw [List.getElem?_eq_getElem h]
theorem sumTo_in {xs : List Int} (h : allSg xs = true) : ∀ k, k ≤ xs.length → 0 ≤ sumTo xs k ∧ sumTo xs k ≤ 1500 * (k : Int)
  | 0, _ => by exact ⟨Int.le_refl _, Int.le_refl _⟩
  | k + 1, hk => by
    have ih := sumTo_in h k (by omega)
    have hx := sg_at h k (by omega)
    rw [sumTo_next (by omega)]
    omega
theorem waitTo_in {fs : List F8} (h : ∀ k (h : k < fs.length), FlowOk fs[k]) : ∀ k, k ≤ fs.length → 0 ≤ waitTo fs k ∧ waitTo fs k ≤ 150000 * (k : Int)
  | 0, _ => by exact ⟨Int.le_refl _, Int.le_refl _⟩
  | k + 1, hk => by
    have ih := waitTo_in h k (by omega)
    have hf := h k (by omega)
    have hx := sumTo_in hf.seg fs[k].2.2.length (Nat.le_refl _)
    have hl := hf.len
    rw [waitTo_next (by omega)]
    omega
end Go.Proofs.Ytibfclfidaofkas
