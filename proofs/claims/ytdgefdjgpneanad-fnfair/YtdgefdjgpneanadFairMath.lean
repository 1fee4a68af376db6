/- Two queues that are never empty are served by their quanta, as mathematics: what a flow got and what it has left is its quantum as often as its turn came; and the turns of two flows are never more than one apart. -/
import Derived.Test.YtdgefdjgpneanadTurnMath2
namespace Go.Proofs.Ytdgefdjgpneanad
open Go.ChangeShapes Go.WideShapes Go.ChangeAt Go.RowKit
set_option maxRecDepth 100000
set_option linter.unusedVariables false
set_option linter.unusedSimpArgs false

/-- Whether flow f has had its turn in this round. -/
def cnt (a : Int) (fresh : Bool) (f : Nat) : Int := if (f : Int) < a ∨ ((f : Int) = a ∧ fresh = false) then 1 else 0
theorem cnt_in (a : Int) (fresh : Bool) (f : Nat) : 0 ≤ cnt a fresh f ∧ cnt a fresh f ≤ 1 := by unfold cnt; split <;> omega
structure FairSt (fs0 : List F8) (d : Nat) (fs : List F8) (a : Int) (fresh : Bool) (S : List Int) : Prop where
  ok : TurnsOk fs a fresh
  len : fs.length = fs0.length
  sl : S.length = fs0.length
  q : ∀ f (h : f < fs.length) (h0 : f < fs0.length), fs[f].1 = fs0[f].1
  more : ∀ f (h : f < fs.length), 100 ≤ fs[f].2.2.length + d
  rho : ∃ r : Int, ∀ f (h : f < fs.length) (hs : f < S.length), S[f] + fs[f].2.1 = (r + cnt a fresh f) * fs[f].1
theorem try_gives {f g : F8} {fr : Bool} {s : Int} (h : tryF f fr = some (g, s)) (hl : 2 ≤ f.2.2.length) : g.1 = f.1 ∧ g.2.1 = dueOf f.1 f.2.1 fr - s ∧ f.2.2 = s :: g.2.2 := by
  have hp := try_pop h
  unfold tryF at h
  rw [hp] at h hl
  simp only at h
  split at h
  · injection h with h
    injection h with h1 h2
    have hne : ¬ g.2.2.length = 0 := by simp at hl; omega
    rw [if_neg hne] at h1
    rw [← h1]
    exact ⟨rfl, rfl, by rw [hp]⟩
  · cases h
/-- Whose turn it is: the one that had it, or the next one, fresh. -/
theorem srv_turn {fs : List F8} {a : Int} {fresh : Bool} {m : Nat} {g : F8} {s : Int} (ok : TurnsOk fs a fresh) (ne : ∀ f (h : f < fs.length), fs[f].2.2 ≠ []) (SI : SrvIs fs a fresh m g s) :
    (tryF (fs[m]'SI.lt) fresh = some (g, s) ∧ (m : Int) = a) ∨ (tryF (fs[m]'SI.lt) true = some (g, s) ∧ fresh = false ∧ (m : Int) = (a + 1) % (fs.length : Int)) := by
  obtain ⟨j, hj, h1, h2, h3⟩ := find_spec SI.fnd
  have hm := SI.lt
  have at_m : ∀ fr, tryAt fs ((m : Int), fr) = tryF fs[m] fr := fun fr => by
    unfold tryAt
    simp only [Int.toNat_natCast]
    rw [List.getElem?_eq_getElem hm]
  have yes : ∀ k : Nat, k < fs.length → tryAt fs ((k : Int), true) ≠ none := fun k hk => by
    unfold tryAt
    simp only [Int.toNat_natCast]
    rw [List.getElem?_eq_getElem hk]
    exact fresh_yes (ok.flow k hk) (ne k hk)
  have hL := come_length fs.length a fresh fs.length
  have l0 := ok.l0
  have hN : (0 : Int) < (fs.length : Int) := by omega
  have nx : ∃ k : Nat, k < fs.length ∧ ((k : Nat) : Int) = (a + 1) % (fs.length : Int) := by
    have e0 := Int.emod_nonneg (a + 1) (show (fs.length : Int) ≠ 0 by omega)
    have e1 := Int.emod_lt_of_pos (a + 1) hN
    exact ⟨((a + 1) % (fs.length : Int)).toNat, by omega, by omega⟩
  obtain ⟨k, hk, ek⟩ := nx
  match j, hj, h1, h2, h3 with
  | 0, hj, h1, h2, h3 =>
    rw [come_zero] at h1 h2
    simp only at h1
    refine .inl ⟨?_, h1.symm⟩
    rw [← at_m, ← h1]
    exact h2
  | 1, hj, h1, h2, h3 =>
    rw [come_succ] at h1 h2
    have e1 : (a + 1 + ((0 : Nat) : Int)) % (fs.length : Int) = (m : Int) := h1
    rw [show a + 1 + ((0 : Nat) : Int) = a + 1 by omega] at e1
    have h2' : tryAt fs ((m : Int), true) = some (g, s) := by
      rw [← e1]
      rw [show a + 1 + ((0 : Nat) : Int) = a + 1 by omega] at h2
      exact h2
    refine .inr ⟨by rw [← at_m]; exact h2', ?_, e1.symm⟩
    cases hf : fresh with
    | false => rfl
    | true =>
      have h4 := h3 0 (by omega)
      rw [come_zero, hf] at h4
      have a0 := ok.a0
      have a1 := ok.a1
      have := yes a.toNat (by omega)
      rw [Int.toNat_of_nonneg a0] at this
      exact absurd h4 this
  | j + 2, hj, h1, h2, h3 =>
    have h4 := h3 1 (by omega)
    rw [come_succ] at h4
    rw [show a + 1 + ((0 : Nat) : Int) = a + 1 by omega, ← ek] at h4
    exact absurd h4 (yes k hk)
theorem FairSt.step {fs0 : List F8} {d : Nat} {fs : List F8} {a : Int} {fresh : Bool} {S : List Int} {m : Nat} {g : F8} {s : Int} (h : FairSt fs0 d fs a fresh S) (hd : d ≤ 98) (SI : SrvIs fs a fresh m g s) :
    FairSt fs0 (d + 1) (fs.set m g) (m : Int) false (S.set m (S.getD m 0 + s)) := by
  have hm := SI.lt
  have hlen := h.len
  have hsl := h.sl
  have hms : m < S.length := by omega
  have hmore := h.more m hm
  have ne : ∀ f (hf : f < fs.length), fs[f].2.2 ≠ [] := fun f hf e => by
    have := h.more f hf
    rw [e] at this
    simp at this
    omega
  obtain ⟨r, hr⟩ := h.rho
  have a0 := h.ok.a0
  have a1 := h.ok.a1
  -- what the flow has behind it
  have key : g.1 = fs[m].1 ∧ fs[m].2.2 = s :: g.2.2 ∧ ∃ r' : Int, S[m] + s + g.2.1 = (r' + 1) * fs[m].1 ∧ ∀ f : Nat, f < fs.length → f ≠ m → r + cnt a fresh f = r' + cnt (m : Int) false f := by
    have hrm := hr m hm hms
    rcases srv_turn h.ok ne SI with ⟨ht, hma⟩ | ⟨ht, hfr, hma⟩
    · obtain ⟨g1, g2, g3⟩ := try_gives ht (by omega)
      refine ⟨g1, g3, r, ?_, fun f hf hne => ?_⟩
      · rw [g2]
        cases fresh with
        | true =>
          have e : cnt a true m = 0 := by unfold cnt; rw [if_neg]; rintro (h | h) <;> simp_all
          rw [e, Int.add_zero] at hrm
          unfold dueOf
          rw [if_pos rfl, Int.add_mul, Int.one_mul, ← hrm]
          omega
        | false =>
          have e : cnt a false m = 1 := by unfold cnt; rw [if_pos (.inr ⟨hma, rfl⟩)]
          rw [e] at hrm
          unfold dueOf
          rw [if_neg (by decide), ← hrm]
          omega
      · unfold cnt
        by_cases hlt : (f : Int) < a
        · rw [if_pos (.inl hlt), if_pos (.inl (by omega))]
        · rw [if_neg (by rintro (h | ⟨h, _⟩) <;> omega), if_neg (by rintro (h | ⟨h, _⟩) <;> omega)]
    · subst hfr
      obtain ⟨g1, g2, g3⟩ := try_gives ht (by omega)
      unfold dueOf at g2
      rw [if_pos rfl] at g2
      by_cases hw : a + 1 < (fs.length : Int)
      · rw [Int.emod_eq_of_lt (by omega) hw] at hma
        refine ⟨g1, g3, r, ?_, fun f hf hne => ?_⟩
        · have e : cnt a false m = 0 := by unfold cnt; rw [if_neg (by rintro (h | ⟨h, _⟩) <;> omega)]
          rw [e, Int.add_zero] at hrm
          rw [g2, Int.add_mul, Int.one_mul, ← hrm]
          omega
        · unfold cnt
          by_cases hlt : (f : Int) ≤ a
          · rw [if_pos (by rcases Int.lt_or_eq_of_le hlt with h | h; exact .inl h; exact .inr ⟨h, rfl⟩), if_pos (.inl (by omega))]
          · rw [if_neg (by rintro (h | ⟨h, _⟩) <;> omega), if_neg (by rintro (h | ⟨h, _⟩) <;> omega)]
      · have e0 : a + 1 = (fs.length : Int) := by omega
        rw [e0, Int.emod_self] at hma
        refine ⟨g1, g3, r + 1, ?_, fun f hf hne => ?_⟩
        · have e : cnt a false m = 1 := by
            unfold cnt
            by_cases h0 : (m : Int) < a
            · rw [if_pos (.inl h0)]
            · rw [if_pos (.inr ⟨by omega, rfl⟩)]
          rw [e] at hrm
          rw [g2, Int.add_mul (r + 1), Int.one_mul, ← hrm]
          omega
        · unfold cnt
          rw [if_pos (by by_cases h0 : (f : Int) < a; exact .inl h0; exact .inr ⟨by omega, rfl⟩), if_neg (by rintro (h | ⟨h, _⟩) <;> omega)]
          omega
  obtain ⟨g1, g3, r', k1, k2⟩ := key
  refine ⟨SI.ok h.ok, by rw [List.length_set]; exact hlen, by rw [List.length_set]; exact hsl, fun f hf h0 => ?_, fun f hf => ?_, r', fun f hf hs => ?_⟩
  · rw [List.getElem_set]
    split
    · rename_i e
      subst e
      rw [g1]
      exact h.q m hm h0
    · exact h.q f (by simpa using hf) h0
  · rw [List.getElem_set]
    split
    · rename_i e
      subst e
      rw [g3] at hmore
      simp at hmore
      omega
    · have := h.more f (by simpa using hf)
      omega
  · rw [List.getElem_set, List.getElem_set]
    by_cases e : m = f
    · subst e
      rw [if_pos rfl, if_pos rfl, getD_at hms, g1]
      have e1 : cnt (m : Int) false m = 1 := by unfold cnt; rw [if_pos (.inr ⟨rfl, rfl⟩)]
      rw [e1]
      exact k1
    · rw [if_neg e, if_neg e, ← k2 f (by simpa using hf) (fun e' => e e'.symm)]
      exact hr f (by simpa using hf) (by simpa using hs)
theorem fair_all {fs0 : List F8} : ∀ (k d : Nat) (fs : List F8) (a : Int) (f : Bool) (S : List Int), FairSt fs0 d fs a f S → d + k ≤ 99 → ∃ d', FairSt fs0 d' (allR k fs a f S).1 (allR k fs a f S).2.1 (allR k fs a f S).2.2.1 (allR k fs a f S).2.2.2
  | 0, d, fs, a, f, S, h, _ => ⟨d, h⟩
  | k + 1, d, fs, a, f, S, h, hd => by
    cases hfd : findT fs (comeOf fs.length a f fs.length) with
    | none =>
      rw [all_none hfd]
      exact ⟨d, h⟩
    | some p =>
      obtain ⟨m, g, s, SI⟩ := srv_is h.ok (by rw [hfd]; exact fun e => by cases e)
      rw [all_some SI]
      exact fair_all k (d + 1) _ _ _ _ (h.step (by omega) SI) (by omega)
/-- The bound of two flows. -/
theorem FairSt.bound {fs0 : List F8} {d : Nat} {fs : List F8} {a : Int} {fresh : Bool} {S : List Int} (h : FairSt fs0 d fs a fresh S) {i j : Nat} (hi : i < fs.length) (hj : j < fs.length) (si : i < S.length) (sj : j < S.length) :
    S[i] * fs[j].1 - S[j] * fs[i].1 ≤ fs[i].1 * fs[j].1 + 1500 * (fs[i].1 + fs[j].1) := by
  obtain ⟨r, hr⟩ := h.rho
  have e1 := hr i hi si
  have e2 := hr j hj sj
  have fi := h.ok.flow i hi
  have fj := h.ok.flow j hj
  have p0 := fi.q0
  have q0 := fj.q0
  have di := fi.d0
  have dj := fj.d0
  have dj1 := fj.d1
  have c1 := cnt_in a fresh i
  have lj := h.ok.less j hj
  have cj : cnt a fresh j = 0 ∨ cnt a fresh j = 1 := by unfold cnt; split <;> simp
  have ci : cnt a fresh i = 0 ∨ cnt a fresh i = 1 := by unfold cnt; split <;> simp
  have hcase : fs[j].2.1 < 1500 ∨ cnt a fresh j = 1 := by
    by_cases hh : (j : Int) ≠ a ∨ fresh = true
    · exact .inl (lj hh)
    · right
      unfold cnt
      have e : (j : Int) = a := by
        rcases Int.lt_trichotomy (j : Int) a with h | h | h
        · exact absurd (.inl (by omega)) hh
        · exact h
        · exact absurd (.inl (by omega)) hh
      have e' : fresh = false := by cases fresh with
        | false => rfl
        | true => exact absurd (.inr rfl) hh
      rw [if_pos (.inr ⟨e, e'⟩)]
  generalize hp : fs[i].1 = p at *
  generalize hq : fs[j].1 = q at *
  generalize fs[i].2.1 = x at *
  generalize hy : fs[j].2.1 = y at *
  generalize S[i] = s at *
  generalize S[j] = u at *
  generalize cnt a fresh i = c at *
  generalize cnt a fresh j = e at *
  have hs : s = (r + c) * p - x := by omega
  have hu : u = (r + e) * q - y := by omega
  have m1 : s * q = r * (p * q) + c * (p * q) - x * q := by rw [hs, Int.sub_mul, Int.mul_assoc, Int.add_mul]
  have m2 : u * p = r * (p * q) + e * (p * q) - y * p := by rw [hu, Int.sub_mul, Int.mul_assoc, Int.mul_comm q p, Int.add_mul]
  have m3 : 0 ≤ x * q := Int.mul_nonneg di (by omega)
  have hpq : 0 ≤ p * q := Int.mul_nonneg (by omega) (by omega)
  rw [m1, m2]
  rcases hcase with hc | hc
  · have m4 : y * p ≤ 1500 * p := Int.mul_le_mul_of_nonneg_right (by omega) (by omega)
    rcases ci with rfl | rfl <;> rcases cj with rfl | rfl <;> simp only [Int.zero_mul, Int.one_mul] <;> omega
  · subst hc
    have m4 : y * p ≤ (q + 1500) * p := Int.mul_le_mul_of_nonneg_right dj1 (by omega)
    rw [Int.add_mul, Int.mul_comm q p] at m4
    rcases ci with rfl | rfl <;> simp only [Int.zero_mul, Int.one_mul] <;> omega
/-- Flows of a hundred sizes each, with no deficits. -/
theorem FairSt.start {fs : List F8} (ok : TurnsOk fs 0 true) (hl : ∀ f (h : f < fs.length), fs[f].2.2.length = 100) (hd : ∀ f (h : f < fs.length), fs[f].2.1 = 0) : FairSt fs 0 fs 0 true (List.replicate fs.length 0) := by
  refine ⟨ok, rfl, by simp, fun f h h0 => rfl, fun f h => by rw [hl f h]; omega, 0, fun f h hs => ?_⟩
  have e : cnt 0 true f = 0 := by unfold cnt; rw [if_neg (by rintro (h | ⟨_, h⟩); omega; cases h)]
  rw [e, hd f h, List.getElem_replicate]
  simp
theorem fair_of {fs : List F8} (ok : TurnsOk fs 0 true) (hl : ∀ f (h : f < fs.length), fs[f].2.2.length = 100) (hd : ∀ f (h : f < fs.length), fs[f].2.1 = 0) (n : Nat) (hn : n ≤ 99) :
    (allR n fs 0 true (List.replicate fs.length 0)).2.2.2.length = fs.length ∧ ∀ i j (hi : i < fs.length) (hj : j < fs.length) (si : i < (allR n fs 0 true (List.replicate fs.length 0)).2.2.2.length) (sj : j < (allR n fs 0 true (List.replicate fs.length 0)).2.2.2.length),
      (allR n fs 0 true (List.replicate fs.length 0)).2.2.2[i] * fs[j].1 - (allR n fs 0 true (List.replicate fs.length 0)).2.2.2[j] * fs[i].1 ≤ fs[i].1 * fs[j].1 + 1500 * (fs[i].1 + fs[j].1) := by
  obtain ⟨d, h⟩ := fair_all n 0 fs 0 true _ (FairSt.start ok hl hd) (by omega)
  refine ⟨h.sl, fun i j hi hj si sj => ?_⟩
  have hl' := h.len
  have b := h.bound (i := i) (j := j) (by omega) (by omega) si sj
  rw [h.q i (by omega) hi, h.q j (by omega) hj] at b
  exact b
end Go.Proofs.Ytdgefdjgpneanad
