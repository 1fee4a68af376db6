/- What waits, as mathematics: by one more that is queued, by one that is served, by all. -/
import Derived.Test.YtdgefdjgpneanadAllMath
import Derived.Test.YtdgefdjgpneanadQueueBoth
namespace Go.Proofs.Ytdgefdjgpneanad
open Go.ChangeShapes Go.WideShapes Go.ChangeAt Go.RowKit
set_option maxRecDepth 100000
set_option linter.unusedVariables false
set_option linter.unusedSimpArgs false

theorem flow_yes {f : F8} (h : FlowOk f) : flowB f = true := by
  unfold flowB inB
  have := h.q0; have := h.q1; have := h.d0; have := h.d1; have := h.len
  rw [h.seg]
  by_cases e : f.2.2.length = 0
  · have := h.none e
    simp [*]
    omega
  · simp [*]
theorem ok_yes {fs : List F8} {a : Int} {f : Bool} (h : ∀ k (hk : k < fs.length), atB a f k fs[k] = true) : ∀ n, n ≤ fs.length → okTo fs a f n = true
  | 0, _ => rfl
  | n + 1, hn => by rw [ok_next (by omega), ok_yes h n (by omega), h n (by omega)]; rfl
theorem turns_yes {fs : List F8} {a : Int} {f : Bool} (h : TurnsOk fs a f) : turnsB fs a f = true := by
  have h1 := h.l0; have h2 := h.l1; have h3 := h.a0; have h4 := h.a1
  unfold turnsB
  rw [ok_yes (fun k hk => ?_) fs.length (Nat.le_refl _)]
  · unfold inB
    simp only [Bool.and_eq_true, decide_eq_true_eq, and_true]
    omega
  · unfold atB
    rw [flow_yes (h.flow k hk), Bool.true_and]
    by_cases e : (k : Int) ≠ a ∨ f = true
    · rw [decide_eq_true (h.less k hk e), Bool.or_true]
    · have e1 : (k : Int) = a := by
        rcases Int.lt_trichotomy (k : Int) a with h | h | h
        · exact absurd (.inl (by omega)) e
        · exact h
        · exact absurd (.inl (by omega)) e
      have e2 : f = false := by cases f with
        | false => rfl
        | true => exact absurd (.inr rfl) e
      rw [decide_eq_true e1, e2]
      rfl
/-! Sums of lists -/
theorem sumTo_cons (x : Int) (r : List Int) : ∀ k, sumTo (x :: r) (k + 1) = x + sumTo r k
  | 0 => by show 0 + x = x + 0; omega
  | k + 1 => by
    have ih := sumTo_cons x r k
    show sumTo (x :: r) (k + 1) + (match (x :: r)[k + 1]? with | some x => x | none => 0) = x + (sumTo r k + (match r[k]? with | some x => x | none => 0))
    rw [ih, List.getElem?_cons_succ]
    omega
theorem sumTo_app {xs ys : List Int} : ∀ k, k ≤ xs.length → sumTo (xs ++ ys) k = sumTo xs k
  | 0, _ => rfl
  | k + 1, h => by
    rw [sumTo_next (show k < (xs ++ ys).length by simp; omega), sumTo_next (by omega), sumTo_app k (by omega), List.getElem_append_left (by omega)]
theorem sumTo_snoc (xs : List Int) (x : Int) : sumTo (xs ++ [x]) (xs ++ [x]).length = sumTo xs xs.length + x := by
  rw [List.length_append]
  show sumTo (xs ++ [x]) (xs.length + 1) = _
  rw [sumTo_next (by simp), sumTo_app _ (Nat.le_refl _)]
  simp
/-- One flow is another one. -/
theorem waitTo_set {fs : List F8} {m : Nat} {g : F8} (hm : m < fs.length) : ∀ k, waitTo (fs.set m g) k = waitTo fs k + (if m < k then sumTo g.2.2 g.2.2.length - sumTo fs[m].2.2 fs[m].2.2.length else 0)
  | 0 => by simp [waitTo]
  | k + 1 => by
    have ih := waitTo_set hm (g := g) k
    show waitTo (fs.set m g) k + (match (fs.set m g)[k]? with | some f => sumTo f.2.2 f.2.2.length | none => 0) = waitTo fs k + (match fs[k]? with | some f => sumTo f.2.2 f.2.2.length | none => 0) + _
    rw [ih]
    by_cases e : m = k
    · subst e
      rw [List.getElem?_set_self hm, List.getElem?_eq_getElem hm, if_neg (by omega), if_pos (by omega)]
      simp only
      omega
    · rw [List.getElem?_set_ne e]
      by_cases h : m < k
      · rw [if_pos h, if_pos (by omega)]; omega
      · rw [if_neg h, if_neg (by omega)]; omega
theorem sumL_set {fs : List F8} {m : Nat} {g : F8} (hm : m < fs.length) : ∀ k, k ≤ fs.length → sumL (fs.set m g) k + (if m < k then fs[m].2.2.length else 0) = sumL fs k + (if m < k then g.2.2.length else 0)
  | 0, _ => by simp [sumL]
  | k + 1, hk => by
    have ih := sumL_set hm (g := g) k (by omega)
    rw [sumL_next (show k < (fs.set m g).length by simp; omega), sumL_next (show k < fs.length by omega), List.getElem_set]
    by_cases e : m = k
    · subst e
      rw [if_neg (by omega), if_neg (by omega)] at ih
      rw [if_pos rfl, if_pos (by omega), if_pos (by omega)]
      omega
    · rw [if_neg e]
      by_cases h : m < k
      · rw [if_pos h, if_pos h] at ih
        rw [if_pos (by omega), if_pos (by omega)]
        omega
      · rw [if_neg h, if_neg h] at ih
        rw [if_neg (by omega), if_neg (by omega)]
        omega
/-! One that is served -/
theorem try_pop {f g : F8} {fresh : Bool} {s : Int} (h : tryF f fresh = some (g, s)) : f.2.2 = s :: g.2.2 := by
  unfold tryF at h
  split at h
  · cases h
  · rename_i s' r e
    split at h
    · injection h with h
      injection h with h1 h2
      subst h2
      rw [← h1, e]
    · cases h
theorem SrvIs.pop {fs : List F8} {a : Int} {f : Bool} {m : Nat} {g : F8} {s : Int} (h : SrvIs fs a f m g s) : (fs[m]'h.lt).2.2 = s :: g.2.2 := by
  obtain ⟨j, hj, h1, h2, _⟩ := find_spec h.fnd
  unfold tryAt at h2
  rw [h1, Int.toNat_natCast, List.getElem?_eq_getElem h.lt] at h2
  exact try_pop h2
theorem SrvIs.wait {fs : List F8} {a : Int} {f : Bool} {m : Nat} {g : F8} {s : Int} (h : SrvIs fs a f m g s) : waitTo (fs.set m g) (fs.set m g).length = waitTo fs fs.length - s := by
  rw [List.length_set, waitTo_set h.lt, if_pos h.lt, h.pop, List.length_cons, sumTo_cons]
  omega
theorem SrvIs.less1 {fs : List F8} {a : Int} {f : Bool} {m : Nat} {g : F8} {s : Int} (h : SrvIs fs a f m g s) : sumL (fs.set m g) (fs.set m g).length + 1 = sumL fs fs.length := by
  have := sumL_set h.lt (g := g) fs.length (Nat.le_refl _)
  rw [if_pos h.lt, if_pos h.lt, h.pop, List.length_cons] at this
  rw [List.length_set]
  omega
theorem wait_zero {fs : List F8} (h : ∀ (k : Nat) (hk : k < fs.length), fs[k].2.2 = []) : ∀ k, waitTo fs k = 0
  | 0 => rfl
  | k + 1 => by
    by_cases hk : k < fs.length
    · rw [waitTo_next hk, wait_zero h k, h k hk]
      rfl
    · show waitTo fs k + (match fs[k]? with | some f => sumTo f.2.2 f.2.2.length | none => 0) = 0
      rw [wait_zero h k, List.getElem?_eq_none (by omega)]
      rfl
theorem none_wait {fs : List F8} {a : Int} {f : Bool} (h : TurnsOk fs a f) (hn : findT fs (comeOf fs.length a f fs.length) = none) : waitTo fs fs.length = 0 := by
  refine wait_zero (fun k hk => ?_) _
  cases e : fs[k].2.2 with
  | nil => rfl
  | cons x r => exact absurd hn (find_has h ⟨k, hk, by rw [e]; exact fun e' => by cases e'⟩)
/-! All that is served -/
theorem sumTo_set {S : List Int} {m : Nat} {x : Int} (hm : m < S.length) : ∀ k, sumTo (S.set m x) k = sumTo S k + (if m < k then x - S[m] else 0)
  | 0 => by simp [sumTo]
  | k + 1 => by
    have ih := sumTo_set hm (x := x) k
    show sumTo (S.set m x) k + (match (S.set m x)[k]? with | some x => x | none => 0) = sumTo S k + (match S[k]? with | some x => x | none => 0) + _
    rw [ih]
    by_cases e : m = k
    · subst e
      rw [List.getElem?_set_self hm, List.getElem?_eq_getElem hm, if_neg (by omega), if_pos (by omega)]
      simp only
      omega
    · rw [List.getElem?_set_ne e]
      by_cases h : m < k
      · rw [if_pos h, if_pos (by omega)]; omega
      · rw [if_neg h, if_neg (by omega)]; omega
/-- What was told of n serves, and what waits behind them. -/
structure AllSum (fs : List F8) (R : List F8 × Int × Bool × List Int) (T : Int) : Prop where
  ok : TurnsOk R.1 R.2.1 R.2.2.1
  len : R.2.2.2.length = fs.length
  pos : ∀ i (h : i < R.2.2.2.length), 0 ≤ R.2.2.2[i]
  sum : waitTo R.1 R.1.length + sumTo R.2.2.2 R.2.2.2.length = T
theorem all_sum : ∀ (k : Nat) (fs : List F8) (a : Int) (f : Bool) (S : List Int), TurnsOk fs a f → S.length = fs.length → (∀ i (h : i < S.length), 0 ≤ S[i]) → AllSum fs (allR k fs a f S) (waitTo fs fs.length + sumTo S S.length)
  | 0, fs, a, f, S, h, hS, hp => ⟨h, hS, hp, rfl⟩
  | k + 1, fs, a, f, S, h, hS, hp => by
    cases hfd : findT fs (comeOf fs.length a f fs.length) with
    | none =>
      rw [all_none hfd]
      exact ⟨h, hS, hp, rfl⟩
    | some p =>
      obtain ⟨m, g, s, SI⟩ := srv_is h (by rw [hfd]; exact fun e => by cases e)
      rw [all_some SI]
      have hm : m < S.length := by rw [hS]; exact SI.lt
      have hs := SI.size
      have ih := all_sum k (fs.set m g) (m : Int) false (S.set m (S.getD m 0 + s)) (SI.ok h) (by rw [List.length_set, List.length_set]; exact hS) (fun i hi => by
        rw [List.getElem_set]
        split
        · rw [getD_at hm]
          have := hp m hm
          omega
        · exact hp i (by simpa using hi))
      refine ⟨ih.ok, by rw [ih.len, List.length_set], ih.pos, ?_⟩
      rw [ih.sum, SI.wait, List.length_set, sumTo_set hm, if_pos hm, getD_at hm]
      omega
theorem sumTo_zero (n : Nat) : ∀ k, sumTo (List.replicate n (0 : Int)) k = 0
  | 0 => rfl
  | k + 1 => by
    show sumTo (List.replicate n (0 : Int)) k + (match (List.replicate n (0 : Int))[k]? with | some x => x | none => 0) = 0
    rw [sumTo_zero n k, List.getElem?_replicate]
    split
    · rename_i x e
      split at e
      · injection e with e; omega
      · cases e
    · rfl
theorem alls_sum {fs : List F8} {a : Int} {f : Bool} (n : Int) (h : TurnsOk fs a f) (hn : 0 ≤ n ∧ n ≤ 3000) : AllSum fs (allOf fs a f n) (waitTo fs fs.length) := by
  have e : allB fs a f n = true := by
    unfold allB inB
    rw [turns_yes h, decide_eq_true hn.1, decide_eq_true hn.2]
    rfl
  unfold allOf
  rw [if_pos e]
  have := all_sum n.toNat fs a f (List.replicate fs.length 0) h (by simp) (fun i hi => by simp)
  rw [sumTo_zero, Int.add_zero] at this
  exact this
/-- Sums of numbers that are none below 0 only rise. -/
theorem sumTo_up {S : List Int} (h : ∀ i (h : i < S.length), 0 ≤ S[i]) : ∀ d k, k + d ≤ S.length → sumTo S k ≤ sumTo S (k + d)
  | 0, k, _ => Int.le_refl _
  | d + 1, k, hk => by
    have ih := sumTo_up h d k (by omega)
    have := h (k + d) (by omega)
    rw [show k + (d + 1) = k + d + 1 by omega, sumTo_next (by omega)]
    omega
theorem sumTo_most {S : List Int} (h : ∀ i (h : i < S.length), 0 ≤ S[i]) {k : Nat} (hk : k ≤ S.length) : 0 ≤ sumTo S k ∧ sumTo S k ≤ sumTo S S.length := by
  have h1 := sumTo_up h k 0 (by omega)
  have h2 := sumTo_up h (S.length - k) k (by omega)
  rw [Nat.zero_add] at h1
  rw [show k + (S.length - k) = S.length by omega] at h2
  exact ⟨h1, h2⟩
/-! One more that is queued -/
/-- What a Queue that is taken leaves. -/
structure QueIs (fs : List F8) (a : Int) (f : Bool) (i n : Int) (m : Nat) (g : F8) : Prop where
  lt : m < fs.length
  num : i = (m : Int)
  ok : TurnsOk fs a f
  size : 1 ≤ n ∧ n ≤ 1500
  list : g.2.2 = (fs[m]'lt).2.2 ++ [n]
  same : queF fs i n = fs.set m g
  ok2 : TurnsOk (fs.set m g) a f
theorem que_is {fs : List F8} {a : Int} {f : Bool} {i n : Int} (h : queB fs a f i n = true) : ∃ m g, QueIs fs a f i n m g := by
  unfold queB at h
  simp only [Bool.and_eq_true] at h
  obtain ⟨⟨⟨h1, h2⟩, h3⟩, h4⟩ := h
  have ok := turns_ok h1
  have n2 := in_num h2
  have n3 := in_num h3
  obtain ⟨m, rfl⟩ := Int.eq_ofNat_of_zero_le n2.1
  have hm : m < fs.length := by omega
  rw [Int.toNat_natCast, List.getElem?_eq_getElem hm] at h4
  have h5 : fs[m].2.2.length ≠ 100 := by simpa using h4
  have hf := ok.flow m hm
  have hl := hf.len
  refine ⟨m, (fs[m].1, fs[m].2.1, fs[m].2.2 ++ [n]), hm, rfl, ok, n3, rfl, ?_, by rw [List.length_set]; exact ok.l0, by rw [List.length_set]; exact ok.l1, ok.a0, by rw [List.length_set]; exact ok.a1, fun k hk => ?_, fun k hk hne => ?_⟩
  · unfold queF
    rw [Int.toNat_natCast, List.getElem?_eq_getElem hm]
  · rw [List.getElem_set]
    split
    · refine ⟨hf.q0, hf.q1, hf.d0, hf.d1, by simp; omega, fun e => by simp at e, ?_⟩
      unfold allSg
      rw [List.all_append]
      have h6 := hf.seg
      unfold allSg at h6
      rw [h6]
      simp [sg, inB, n3]
    · exact ok.flow k (by simpa using hk)
  · rw [List.getElem_set]
    split
    · rename_i e
      subst e
      exact ok.less m hm hne
    · exact ok.less k (by simpa using hk) hne
theorem QueIs.wait {fs : List F8} {a : Int} {f : Bool} {i n : Int} {m : Nat} {g : F8} (h : QueIs fs a f i n m g) : waitTo (fs.set m g) (fs.set m g).length = waitTo fs fs.length + n := by
  rw [List.length_set, waitTo_set h.lt, if_pos h.lt, h.list, sumTo_snoc]
  omega
end Go.Proofs.Ytdgefdjgpneanad
