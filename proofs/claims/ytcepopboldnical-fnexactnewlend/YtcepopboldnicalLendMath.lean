/- Lending as mathematics: what a Lend is, what fills, who lends, what is spent. A class is (Parent, Rate, Ceil, Burst), a bucket (Rate, Burst, Level, At). -/
import Derived.Test.YtcepopboldnicalTreeMath
import Derived.Test.YtcepopboldnicalSpecBuck4
namespace Go.Proofs.Ytcepopboldnical
open Go.ChangeShapes Go.WideShapes Go.ChangeAt Go.RowKit
set_option maxRecDepth 100000
set_option linter.unusedVariables false

def bokQ (b : Q4) : Bool := bokB b.1 b.2.1 b.2.2.1 b.2.2.2
def ownFull (at' : Int) (t : Q4) : Q4 := (t.2.1, t.2.2.2, 1000000000 * t.2.2.2, at')
def topFull (at' : Int) (t : Q4) : Q4 := (t.2.2.1, t.2.2.2, 1000000000 * t.2.2.2, at')
def newB (T : List Q4) (at' : Int) : Bool := decide (treeCode T = 0) && timeB at'
def newT (T : List Q4) (at' : Int) : List Q4 := if newB T at' = true then T else []
def newO (T : List Q4) (at' : Int) : List Q4 := if newB T at' = true then T.map (ownFull at') else []
def newP (T : List Q4) (at' : Int) : List Q4 := if newB T at' = true then T.map (topFull at') else []
/-- Class t's two buckets are right at a time. -/
def pairB (at' : Int) (a b t : Q4) : Bool := (((((((bokQ a && bokQ b) && decide (a.2.2.2 = at')) && decide (b.2.2.2 = at')) && decide (a.1 = t.2.1)) && decide (b.1 = t.2.2.1)) && decide (a.2.1 = t.2.2.2)) && decide (b.2.1 = t.2.2.2))
def atOf (O : List Q4) : Int := match O[0]? with | some b => b.2.2.2 | none => 0
def pairAt (T O P : List Q4) (k : Nat) : Bool := match T[k]?, O[k]?, P[k]? with | some t, some a, some b => pairB (atOf O) a b t | _, _, _ => false
def pairTo (T O P : List Q4) : Nat → Bool
  | 0 => true
  | k + 1 => pairTo T O P k && pairAt T O P k
def lendB (T O P : List Q4) : Bool := ((decide (treeCode T = 0) && decide (O.length = T.length)) && decide (P.length = T.length)) && pairTo T O P T.length
theorem pair_stays {T O P : List Q4} {k : Nat} (h : pairTo T O P k = false) : ∀ d, pairTo T O P (k + d) = false
  | 0 => h
  | d + 1 => by
    show (pairTo T O P (k + d) && _) = false
    rw [pair_stays h d]
    rfl
theorem pair_bad {T O P : List Q4} {k n : Nat} (h : pairAt T O P k = false) (hk : k < n) : pairTo T O P n = false := by
  have e : pairTo T O P (k + 1) = false := by
    show (pairTo T O P k && pairAt T O P k) = false
    rw [h, Bool.and_false]
  have s := pair_stays e (n - (k + 1))
  rw [show k + 1 + (n - (k + 1)) = n by omega] at s
  exact s
theorem pair_all {T O P : List Q4} : ∀ {n : Nat}, pairTo T O P n = true → ∀ k, k < n → pairAt T O P k = true
  | 0, _, k, hk => by cases hk
  | n + 1, h, k, hk => by
    have h' : (pairTo T O P n && pairAt T O P n) = true := h
    rw [Bool.and_eq_true] at h'
    by_cases e : k = n
    · subst e; exact h'.2
    · exact pair_all h'.1 k (by omega)
theorem pairAt_at {T O P : List Q4} {k : Nat} (h1 : k < T.length) (h2 : k < O.length) (h3 : k < P.length) : pairAt T O P k = pairB (atOf O) O[k] P[k] T[k] := by
  unfold pairAt
  rw [List.getElem?_eq_getElem h1, List.getElem?_eq_getElem h2, List.getElem?_eq_getElem h3]
/-- A Lend that is right. -/
structure IsLend (T O P : List Q4) : Prop where
  tree : IsTree T
  code : treeCode T = 0
  lo : O.length = T.length
  lp : P.length = T.length
  pair : ∀ k (h1 : k < T.length) (h2 : k < O.length) (h3 : k < P.length), pairB (atOf O) O[k] P[k] T[k] = true
theorem lend_of {T O P : List Q4} (h : lendB T O P = true) : IsLend T O P := by
  unfold lendB at h
  rw [Bool.and_eq_true, Bool.and_eq_true, Bool.and_eq_true] at h
  have hc := of_decide_eq_true h.1.1.1
  exact ⟨tree_of hc, hc, of_decide_eq_true h.1.1.2, of_decide_eq_true h.1.2, fun k h1 h2 h3 => by rw [← pairAt_at h1 h2 h3]; exact pair_all h.2 k h1⟩
structure PairOk (at' : Int) (a b t : Q4) : Prop where
  oka : bokQ a = true
  okb : bokQ b = true
  ta : a.2.2.2 = at'
  tb : b.2.2.2 = at'
  ra : a.1 = t.2.1
  rb : b.1 = t.2.2.1
  ua : a.2.1 = t.2.2.2
  ub : b.2.1 = t.2.2.2
theorem pair_ok {at' : Int} {a b t : Q4} (h : pairB at' a b t = true) : PairOk at' a b t := by
  unfold pairB at h
  simp only [Bool.and_eq_true, decide_eq_true_eq] at h
  exact ⟨h.1.1.1.1.1.1.1, h.1.1.1.1.1.1.2, h.1.1.1.1.1.2, h.1.1.1.1.2, h.1.1.1.2, h.1.1.2, h.1.2, h.2⟩
theorem pair_is {at' : Int} {a b t : Q4} (h : PairOk at' a b t) : pairB at' a b t = true := by
  unfold pairB
  simp only [Bool.and_eq_true, decide_eq_true_eq]
  exact ⟨⟨⟨⟨⟨⟨⟨h.oka, h.okb⟩, h.ta⟩, h.tb⟩, h.ra⟩, h.rb⟩, h.ua⟩, h.ub⟩
/-! Filling -/
def fillQ (now : Int) (b : Q4) : Q4 := (b.1, b.2.1, fillL b.1 b.2.1 b.2.2.1 b.2.2.2 now, fillT b.2.2.2 now)
def fills (now : Int) (O : List Q4) : List Q4 := O.map (fillQ now)
theorem fills_length (now : Int) (O : List Q4) : (fills now O).length = O.length := List.length_map ..
theorem fills_at {now : Int} {O : List Q4} {k : Nat} (h : k < O.length) (h' : k < (fills now O).length) : (fills now O)[k] = fillQ now O[k] := by simp [fills]
theorem fill_good {now : Int} {b : Q4} (h : bokQ b = true) (hn : timeB now = true) : bokQ (fillQ now b) = true := by
  have hb := bok_num h
  have hnn := tim_num hn
  have hf := fill_bounds (r := b.1) (u := b.2.1) (l := b.2.2.1) (t := b.2.2.2) (now := now) hb.2.1 hb.2.2.1 hb.1.1
  unfold bokQ bokB at h ⊢
  rw [Bool.and_eq_true, Bool.and_eq_true, Bool.and_eq_true] at h ⊢
  refine ⟨⟨h.1.1, ?_⟩, ?_⟩
  · simp only [fillQ]
    unfold lvlB
    rw [Bool.and_eq_true]
    exact ⟨decide_eq_true hf.1, decide_eq_true hf.2⟩
  · simp only [fillQ]
    unfold fillT
    split
    · exact h.2
    · exact hn
/-! Who lends -/
def levelOf (O : List Q4) (k : Int) : Int := match O[k.toNat]? with | some b => b.2.2.1 | none => 0
theorem levelOf_at {O : List Q4} {k : Nat} (h : k < O.length) : levelOf O (k : Int) = O[k].2.2.1 := by unfold levelOf; rw [Int.toNat_natCast, List.getElem?_eq_getElem h]
/-- The place on the path of who lends, the first j having been looked at; none: one of them has not so much in its Top. -/
def askTo (O P : List Q4) (n : Int) (path : List Int) : Nat → Option Int
  | 0 => some (-1)
  | j + 1 => match askTo O P n path j with
    | none => none
    | some who => match path[j]? with
      | none => some who
      | some c => if levelOf P c < 1000000000 * n then none else some (if who < 0 ∧ 1000000000 * n ≤ levelOf O c then (j : Int) else who)
def askOf (O P : List Q4) (n : Int) (path : List Int) : Int := match askTo O P n path path.length with | some who => who | none => -1
theorem ask_none {O P : List Q4} {n : Int} {path : List Int} {j : Nat} (h : askTo O P n path j = none) : ∀ d, askTo O P n path (j + d) = none
  | 0 => h
  | d + 1 => by
    show (match askTo O P n path (j + d) with | none => none | some who => _) = none
    rw [ask_none h d]
theorem ask_low {O P : List Q4} {n who : Int} {path : List Int} {j : Nat} (hj : j < path.length) (h : askTo O P n path j = some who) (hl : levelOf P path[j] < 1000000000 * n) : askOf O P n path = -1 := by
  have e : askTo O P n path (j + 1) = none := by
    show (match askTo O P n path j with | none => none | some who => _) = none
    rw [h, List.getElem?_eq_getElem hj]
    simp [hl]
  have s := ask_none e (path.length - (j + 1))
  rw [show j + 1 + (path.length - (j + 1)) = path.length by omega] at s
  unfold askOf
  rw [s]
theorem ask_next {O P : List Q4} {n who : Int} {path : List Int} {j : Nat} (hj : j < path.length) (h : askTo O P n path j = some who) (hl : ¬ levelOf P path[j] < 1000000000 * n) :
    askTo O P n path (j + 1) = some (if who < 0 ∧ 1000000000 * n ≤ levelOf O path[j] then (j : Int) else who) := by
  show (match askTo O P n path j with | none => none | some who => _) = _
  rw [h, List.getElem?_eq_getElem hj]
  simp only [if_neg hl]
theorem ask_range {O P : List Q4} {n : Int} {path : List Int} : ∀ {j : Nat} {who : Int}, askTo O P n path j = some who → who = -1 ∨ (0 ≤ who ∧ who < j)
  | 0, who, h => .inl (Option.some.inj h).symm
  | j + 1, who, h => by
    have h' : (match askTo O P n path j with | none => none | some who => match path[j]? with | none => some who | some c => if levelOf P c < 1000000000 * n then none else some (if who < 0 ∧ 1000000000 * n ≤ levelOf O c then (j : Int) else who)) = some who := h
    cases h1 : askTo O P n path j with
    | none => rw [h1] at h'; cases h'
    | some w0 =>
      rw [h1] at h'
      have ih := ask_range h1
      cases h2 : path[j]? with
      | none =>
        rw [h2] at h'
        have e : w0 = who := Option.some.inj h'
        omega
      | some c =>
        rw [h2] at h'
        simp only at h'
        split at h'
        · cases h'
        · have e := Option.some.inj h'
          split at e
          · omega
          · omega
theorem ask_bounds (O P : List Q4) (n : Int) (path : List Int) : askOf O P n path = -1 ∨ (0 ≤ askOf O P n path ∧ askOf O P n path < path.length) := by
  unfold askOf
  cases h : askTo O P n path path.length with
  | none => exact .inl rfl
  | some who => exact ask_range h
end Go.Proofs.Ytcepopboldnical
