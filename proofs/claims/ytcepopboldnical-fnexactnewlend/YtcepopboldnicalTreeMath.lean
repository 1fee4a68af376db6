/- Trees of classes as mathematics: the code that is first, sums of children's rates, who is under whom. -/
import Derived.Test.YtcepopboldnicalSpecPath6
namespace Go.Proofs.Ytcepopboldnical
open Go.ChangeShapes Go.WideShapes Go.ChangeAt Go.RowKit
set_option maxRecDepth 100000
set_option linter.unusedVariables false

def burB (x : Int) : Bool := decide (1500 ≤ x) && decide (x ≤ 1000000000)
def rateOf (ts : List Q4) (k : Nat) : Int := match ts[k]? with | some t => t.2.1 | none => 0
def ceilOf (ts : List Q4) (k : Nat) : Int := match ts[k]? with | some t => t.2.2.1 | none => 0
def parB (k : Nat) (p : Int) : Bool := if k = 0 then decide (p = -1) else decide (0 ≤ p) && decide (p ≤ (k : Int) - 1)
def ceilUp (ts : List Q4) (k : Nat) (p : Int) : Int := if k = 0 then 1000000000000 else ceilOf ts p.toNat
def clsB (hi : Int) (t : Q4) : Bool := (((rateB t.2.1 && rateB t.2.2.1) && decide (t.2.1 ≤ t.2.2.1)) && decide (t.2.2.1 ≤ hi)) && burB t.2.2.2
def codeT (ts : List Q4) (k : Nat) (t : Q4) : Int := if parB k t.1 = true then (if clsB (ceilUp ts k t.1) t = true then 0 else 3) else 2
def codeAt (ts : List Q4) (k : Nat) : Int := match ts[k]? with | some t => codeT ts k t | none => 0
def firstC (ts : List Q4) : Nat → Int
  | 0 => 0
  | k + 1 => if firstC ts k = 0 then codeAt ts k else firstC ts k
def kidAt (ts : List Q4) (i : Int) (k : Nat) : Int := match ts[k]? with | some t => if t.1 = i then t.2.1 else 0 | none => 0
def kidTo (ts : List Q4) (i : Int) : Nat → Int
  | 0 => 0
  | k + 1 => kidTo ts i k + kidAt ts i k
def overTo (ts : List Q4) : Nat → Bool
  | 0 => false
  | k + 1 => overTo ts k || decide (rateOf ts k < kidTo ts (k : Int) ts.length)
def lenB (ts : List Q4) : Bool := decide (1 ≤ ts.length) && decide (ts.length ≤ 30)
def treeCode (ts : List Q4) : Int := if lenB ts = true then (if firstC ts ts.length = 0 then (if overTo ts ts.length = true then 4 else 0) else firstC ts ts.length) else 1
theorem codeAt_at {ts : List Q4} {k : Nat} (hk : k < ts.length) : codeAt ts k = codeT ts k ts[k] := by unfold codeAt; rw [List.getElem?_eq_getElem hk]
theorem rateOf_at {ts : List Q4} {k : Nat} (hk : k < ts.length) : rateOf ts k = ts[k].2.1 := by unfold rateOf; rw [List.getElem?_eq_getElem hk]
theorem ceilOf_at {ts : List Q4} {k : Nat} (hk : k < ts.length) : ceilOf ts k = ts[k].2.2.1 := by unfold ceilOf; rw [List.getElem?_eq_getElem hk]
theorem kidAt_yes {ts : List Q4} {i : Int} {k : Nat} (hk : k < ts.length) (h : ts[k].1 = i) : kidAt ts i k = ts[k].2.1 := by unfold kidAt; rw [List.getElem?_eq_getElem hk]; simp [h]
theorem kidAt_no {ts : List Q4} {i : Int} {k : Nat} (hk : k < ts.length) (h : ts[k].1 ≠ i) : kidAt ts i k = 0 := by unfold kidAt; rw [List.getElem?_eq_getElem hk]; simp [h]
theorem first_stays {ts : List Q4} {k : Nat} (h : firstC ts k ≠ 0) : ∀ d, firstC ts (k + d) = firstC ts k
  | 0 => rfl
  | d + 1 => by
    show (if firstC ts (k + d) = 0 then _ else firstC ts (k + d)) = _
    rw [first_stays h d, if_neg h]
theorem first_next {ts : List Q4} {k : Nat} (h : firstC ts k = 0) : firstC ts (k + 1) = codeAt ts k := if_pos h
theorem first_bad {ts : List Q4} {k : Nat} (hk : k < ts.length) (h : firstC ts k = 0) (hc : codeT ts k ts[k] ≠ 0) : firstC ts ts.length = codeT ts k ts[k] := by
  have e : firstC ts (k + 1) = codeT ts k ts[k] := by rw [first_next h, codeAt_at hk]
  have s := first_stays (ts := ts) (k := k + 1) (by rw [e]; exact hc) (ts.length - (k + 1))
  rw [show k + 1 + (ts.length - (k + 1)) = ts.length by omega] at s
  rw [s, e]
theorem code_bad {ts : List Q4} {k : Nat} (hl : lenB ts = true) (hk : k < ts.length) (h : firstC ts k = 0) (hc : codeT ts k ts[k] ≠ 0) : treeCode ts = codeT ts k ts[k] := by
  have e := first_bad hk h hc
  unfold treeCode
  rw [if_pos hl, if_neg (by rw [e]; exact hc), e]
theorem code_len {ts : List Q4} (hl : lenB ts = false) : treeCode ts = 1 := by unfold treeCode; rw [hl]; rfl
theorem code_par {ts : List Q4} {k : Nat} {t : Q4} (h : parB k t.1 = false) : codeT ts k t = 2 := by unfold codeT; rw [h]; rfl
theorem code_cls {ts : List Q4} {k : Nat} {t : Q4} (h : parB k t.1 = true) (h2 : clsB (ceilUp ts k t.1) t = false) : codeT ts k t = 3 := by unfold codeT; rw [h, h2]; rfl
theorem code_ok {ts : List Q4} {k : Nat} {t : Q4} (h : parB k t.1 = true) (h2 : clsB (ceilUp ts k t.1) t = true) : codeT ts k t = 0 := by unfold codeT; rw [h, h2]; rfl
theorem codeT_zero {ts : List Q4} {k : Nat} {t : Q4} (h : codeT ts k t = 0) : parB k t.1 = true ∧ clsB (ceilUp ts k t.1) t = true := by
  unfold codeT at h
  by_cases h1 : parB k t.1 = true
  · rw [if_pos h1] at h
    by_cases h2 : clsB (ceilUp ts k t.1) t = true
    · exact ⟨h1, h2⟩
    · rw [if_neg h2] at h; cases h
  · rw [if_neg h1] at h; cases h
theorem first_all {ts : List Q4} : ∀ {n : Nat}, firstC ts n = 0 → ∀ k, k < n → codeAt ts k = 0
  | 0, _, k, hk => by cases hk
  | n + 1, h, k, hk => by
    have h0 : firstC ts n = 0 := by
      by_cases e : firstC ts n = 0
      · exact e
      · have : firstC ts (n + 1) = firstC ts n := if_neg e
        rw [this] at h; exact h
    rw [first_next h0] at h
    by_cases e : k = n
    · subst e; exact h
    · exact first_all h0 k (by omega)
/-- What a list of classes is of which none is faulty by itself. -/
structure Sound (ts : List Q4) : Prop where
  par : ∀ k (hk : k < ts.length), parB k ts[k].1 = true
  cls : ∀ k (hk : k < ts.length), clsB (ceilUp ts k ts[k].1) ts[k] = true
theorem sound_of {ts : List Q4} (h : firstC ts ts.length = 0) : Sound ts :=
  ⟨fun k hk => (codeT_zero (by rw [← codeAt_at hk]; exact first_all h k hk)).1, fun k hk => (codeT_zero (by rw [← codeAt_at hk]; exact first_all h k hk)).2⟩
theorem par_num {k : Nat} {p : Int} (h : parB k p = true) : -1 ≤ p ∧ p < k := by
  unfold parB at h
  by_cases e : k = 0
  · rw [if_pos e] at h
    have := of_decide_eq_true h
    omega
  · rw [if_neg e, Bool.and_eq_true] at h
    have h1 := of_decide_eq_true h.1
    have h2 := of_decide_eq_true h.2
    omega
theorem rate_numT {x : Int} (h : rateB x = true) : 0 ≤ x ∧ x ≤ 1000000000000 := by simpa [rateB] using h
theorem cls_rate {hi : Int} {t : Q4} (h : clsB hi t = true) : 0 ≤ t.2.1 ∧ t.2.1 ≤ 1000000000000 := by
  unfold clsB at h
  rw [Bool.and_eq_true, Bool.and_eq_true, Bool.and_eq_true, Bool.and_eq_true] at h
  exact rate_numT h.1.1.1.1
theorem Sound.well {ts : List Q4} (h : Sound ts) : PWell ts := fun k hk => par_num (h.par k hk)
theorem Sound.rate {ts : List Q4} (h : Sound ts) (k : Nat) (hk : k < ts.length) : 0 ≤ ts[k].2.1 ∧ ts[k].2.1 ≤ 1000000000000 := cls_rate (h.cls k hk)
theorem Sound.kid {ts : List Q4} (h : Sound ts) (i : Int) (k : Nat) : 0 ≤ kidAt ts i k ∧ kidAt ts i k ≤ 1000000000000 := by
  by_cases hk : k < ts.length
  · by_cases e : ts[k].1 = i
    · rw [kidAt_yes hk e]; exact h.rate k hk
    · rw [kidAt_no hk e]; omega
  · unfold kidAt
    rw [List.getElem?_eq_none (by omega)]
    simp
theorem Sound.kids {ts : List Q4} (h : Sound ts) (i : Int) : ∀ k, 0 ≤ kidTo ts i k ∧ kidTo ts i k ≤ 1000000000000 * (k : Int)
  | 0 => by simp [kidTo]
  | k + 1 => by
    have h1 := h.kids i k
    have h2 := h.kid i k
    show 0 ≤ kidTo ts i k + kidAt ts i k ∧ kidTo ts i k + kidAt ts i k ≤ 1000000000000 * ((k + 1 : Nat) : Int)
    omega
/-- Nobody up to i has i for a parent. -/
theorem Sound.none {ts : List Q4} (h : Sound ts) (i : Nat) : ∀ k, k ≤ i + 1 → kidTo ts (i : Int) k = 0
  | 0, _ => rfl
  | k + 1, hk => by
    show kidTo ts (i : Int) k + kidAt ts (i : Int) k = 0
    rw [h.none i k (by omega)]
    by_cases hl : k < ts.length
    · have := (h.well k hl).2
      rw [kidAt_no hl (by omega)]
      rfl
    · unfold kidAt
      rw [List.getElem?_eq_none (by omega)]
      rfl
theorem over_stays {ts : List Q4} {k : Nat} (h : overTo ts k = true) : ∀ d, overTo ts (k + d) = true
  | 0 => h
  | d + 1 => by
    show (overTo ts (k + d) || _) = true
    rw [over_stays h d]
    rfl
theorem over_at {ts : List Q4} {k : Nat} (hk : k < ts.length) (h : rateOf ts k < kidTo ts (k : Int) ts.length) : overTo ts ts.length = true := by
  have e : overTo ts (k + 1) = true := by
    show (overTo ts k || decide _) = true
    rw [decide_eq_true h, Bool.or_true]
  have s := over_stays e (ts.length - (k + 1))
  rw [show k + 1 + (ts.length - (k + 1)) = ts.length by omega] at s
  exact s
theorem over_next {ts : List Q4} {k : Nat} (h0 : overTo ts k = false) (h : ¬ rateOf ts k < kidTo ts (k : Int) ts.length) : overTo ts (k + 1) = false := by
  show (overTo ts k || decide _) = false
  rw [h0, decide_eq_false h]
  rfl
theorem over_all {ts : List Q4} : ∀ {n : Nat}, overTo ts n = false → ∀ k, k < n → kidTo ts (k : Int) ts.length ≤ rateOf ts k
  | 0, _, k, hk => by cases hk
  | n + 1, h, k, hk => by
    have h' : (overTo ts n || decide (rateOf ts n < kidTo ts (n : Int) ts.length)) = false := h
    rw [Bool.or_eq_false_iff] at h'
    by_cases e : k = n
    · subst e
      have := of_decide_eq_false h'.2
      omega
    · exact over_all h'.1 k (by omega)
theorem code_sum {ts : List Q4} (hl : lenB ts = true) (h : firstC ts ts.length = 0) (ho : overTo ts ts.length = true) : treeCode ts = 4 := by unfold treeCode; rw [if_pos hl, if_pos h, if_pos ho]
theorem code_zero {ts : List Q4} (hl : lenB ts = true) (h : firstC ts ts.length = 0) (ho : overTo ts ts.length = false) : treeCode ts = 0 := by unfold treeCode; rw [if_pos hl, if_pos h, ho]; rfl
/-- A tree. -/
structure IsTree (ts : List Q4) : Prop where
  l0 : 1 ≤ ts.length
  l1 : ts.length ≤ 30
  sound : Sound ts
  sum : ∀ k, k < ts.length → kidTo ts (k : Int) ts.length ≤ rateOf ts k
theorem tree_of {ts : List Q4} (h : treeCode ts = 0) : IsTree ts := by
  unfold treeCode at h
  by_cases hl : lenB ts = true
  · rw [if_pos hl] at h
    by_cases hf : firstC ts ts.length = 0
    · rw [if_pos hf] at h
      by_cases ho : overTo ts ts.length = true
      · rw [if_pos ho] at h; cases h
      · unfold lenB at hl
        rw [Bool.and_eq_true] at hl
        exact ⟨of_decide_eq_true hl.1, of_decide_eq_true hl.2, sound_of hf, over_all (by simpa using ho)⟩
    · rw [if_neg hf] at h
      exact absurd h hf
  · rw [if_neg hl] at h; cases h
def hasB (ts : List Q4) (i : Int) : Bool := decide (treeCode ts = 0) && (decide (0 ≤ i) && decide (i ≤ (ts.length : Int) - 1))
theorem has_tree {ts : List Q4} {i : Int} (h : hasB ts i = true) : IsTree ts ∧ 0 ≤ i ∧ i < ts.length := by
  unfold hasB at h
  rw [Bool.and_eq_true, Bool.and_eq_true] at h
  have h1 := of_decide_eq_true h.2.1
  have h2 := of_decide_eq_true h.2.2
  exact ⟨tree_of (of_decide_eq_true h.1), h1, by omega⟩
def pathTo (ts : List Q4) (i : Int) : List Int := if hasB ts i = true then pathOf ts i else []
def leavesTo (ts : List Q4) (k : Nat) : List Int := ((List.range k).filter fun (j : Nat) => leafB ts (j : Int)).map fun (j : Nat) => (j : Int)
def leavesOf (ts : List Q4) : List Int := if treeCode ts = 0 then leavesTo ts ts.length else []
def underTo (ts : List Q4) (i : Int) (k : Nat) : List Int := ((List.range k).filter fun (j : Nat) => (pathOf ts (j : Int)).contains i).map fun (j : Nat) => (j : Int)
def underOf (ts : List Q4) (i : Int) : List Int := if hasB ts i = true then underTo ts i ts.length else []
def spareOf (ts : List Q4) (i : Int) : Int := if hasB ts i = true then rateOf ts i.toNat - kidTo ts i ts.length else -1
theorem leaves_yes {ts : List Q4} {k : Nat} (h : leafB ts (k : Int) = true) : leavesTo ts (k + 1) = leavesTo ts k ++ [(k : Int)] := by
  unfold leavesTo
  rw [List.range_succ, List.filter_append, List.map_append]
  simp [h]
theorem leaves_no {ts : List Q4} {k : Nat} (h : leafB ts (k : Int) = false) : leavesTo ts (k + 1) = leavesTo ts k := by
  unfold leavesTo
  rw [List.range_succ, List.filter_append, List.map_append]
  simp [h]
theorem under_yes {ts : List Q4} {i : Int} {k : Nat} (h : (pathOf ts (k : Int)).contains i = true) : underTo ts i (k + 1) = underTo ts i k ++ [(k : Int)] := by
  have h' : i ∈ pathOf ts (k : Int) := by simpa using h
  unfold underTo
  rw [List.range_succ, List.filter_append, List.map_append]
  simp [h']
theorem under_no {ts : List Q4} {i : Int} {k : Nat} (h : (pathOf ts (k : Int)).contains i = false) : underTo ts i (k + 1) = underTo ts i k := by
  have h' : ¬ i ∈ pathOf ts (k : Int) := by simpa using h
  unfold underTo
  rw [List.range_succ, List.filter_append, List.map_append]
  simp [h']
theorem leaves_length (ts : List Q4) (k : Nat) : (leavesTo ts k).length ≤ k := by
  unfold leavesTo
  rw [List.length_map]
  exact Nat.le_trans (List.length_filter_le _ _) (by simp)
theorem under_length (ts : List Q4) (i : Int) (k : Nat) : (underTo ts i k).length ≤ k := by
  unfold underTo
  rw [List.length_map]
  exact Nat.le_trans (List.length_filter_le _ _) (by simp)
theorem pathTo_length (ts : List Q4) (i : Int) : (pathTo ts i).length ≤ 30 := by
  unfold pathTo
  by_cases h : hasB ts i = true
  · rw [if_pos h]
    obtain ⟨ht, _, h1⟩ := has_tree h
    exact Nat.le_trans (path_length h1) ht.l1
  · rw [if_neg h]
    exact Nat.zero_le _
theorem underOf_length (ts : List Q4) (i : Int) : (underOf ts i).length ≤ 30 := by
  unfold underOf
  by_cases h : hasB ts i = true
  · rw [if_pos h]
    exact Nat.le_trans (under_length ts i _) (has_tree h).1.l1
  · rw [if_neg h]
    exact Nat.zero_le _
theorem leavesOf_length (ts : List Q4) : (leavesOf ts).length ≤ 30 := by
  unfold leavesOf
  by_cases h : treeCode ts = 0
  · rw [if_pos h]
    exact Nat.le_trans (leaves_length ts _) (tree_of h).l1
  · rw [if_neg h]
    exact Nat.zero_le _
end Go.Proofs.Ytcepopboldnical
