/- Who is asked lies on the path; who has enough asks nobody; what a leaf's Top has behind a Spend. -/
import Derived.Test.YtacahpmcmfmgkadSpendMath2
namespace Go.Proofs.Ytacahpmcmfmgkad
open Go.ChangeShapes Go.WideShapes Go.ChangeAt Go.RowKit
set_option maxRecDepth 100000
set_option linter.unusedVariables false

theorem ask_keeps {O P : List Q4} {n : Int} {L : List Int} {j : Nat} {k : Int} (h : askTo O P n L j = some k) (h0 : 0 ≤ k) : ∀ d who, askTo O P n L (j + d) = some who → who = k
  | 0, who, e => (Option.some.inj (h.symm.trans e)).symm
  | d + 1, who, e => by
    have e' : (match askTo O P n L (j + d) with | none => none | some who => match L[j + d]? with | none => some who | some c => if levelOf P c < 1000000000 * n then none else some (if who < 0 ∧ 1000000000 * n ≤ levelOf O c then ((j + d : Nat) : Int) else who)) = some who := e
    cases h1 : askTo O P n L (j + d) with
    | none => rw [h1] at e'; cases e'
    | some w0 =>
      have ih := ask_keeps h h0 d w0 h1
      rw [h1] at e'
      cases h2 : L[j + d]? with
      | none =>
        rw [h2] at e'
        have := Option.some.inj e'
        omega
      | some c =>
        rw [h2] at e'
        simp only at e'
        split at e'
        · cases e'
        · have e3 := Option.some.inj e'
          rw [if_neg (by omega)] at e3
          omega
theorem ask_own {O P : List Q4} {n who : Int} {L : List Int} (hl : 0 < L.length) (h : askTo O P n L L.length = some who) (ho : 1000000000 * n ≤ levelOf O L[0]) : who = 0 := by
  have hp := ask_all h 0 hl hl
  have h1 := ask_next (O := O) (P := P) (n := n) (who := -1) hl rfl hp
  rw [if_pos ⟨by omega, ho⟩] at h1
  have e : 0 + 1 + (L.length - 1) = L.length := by omega
  exact ask_keeps h1 (by omega) (L.length - 1) who (by rw [e]; exact h)
theorem topTo_first {n : Int} {P : List Q4} {L : List Int} {q : Q4} (h0 : ∀ x ∈ L, 0 ≤ x) (hnd : L.Nodup) (hl : 0 < L.length) (hq : P[(L[0]).toNat]? = some q) : ∀ j, (topTo n P L (j + 1))[(L[0]).toNat]? = some (takeTop n q)
  | 0 => by
    rw [topTo_next hl]
    unfold modAt
    show (match P[(L[0]).toNat]? with | some q => P.set (L[0]).toNat (takeTop n q) | none => P)[(L[0]).toNat]? = _
    rw [hq]
    simp only
    have hlt : (L[0]).toNat < P.length := by
      rcases Nat.lt_or_ge (L[0]).toNat P.length with h | h
      · exact h
      · rw [List.getElem?_eq_none h] at hq; cases hq
    rw [List.getElem?_set_self hlt]
  | j + 1 => by
    have ih := topTo_first (n := n) h0 hnd hl hq j
    by_cases hj : j + 1 < L.length
    · rw [topTo_next hj, modAt_other, ih]
      have hx := h0 _ (List.getElem_mem hj)
      have hy := h0 _ (List.getElem_mem hl)
      have hne := (List.pairwise_iff_getElem.1 hnd) 0 (j + 1) hl hj (by omega)
      omega
    · show (match L[j + 1]? with | some c => modAt (takeTop n) (topTo n P L (j + 1)) c | none => topTo n P L (j + 1))[(L[0]).toNat]? = _
      rw [List.getElem?_eq_none (l := L) (i := j + 1) (by omega)]
      exact ih
/-- What the law asks where somebody lends. -/
structure Asked (T O P : List Q4) (leaf now n a : Int) : Prop where
  told : Told T O P leaf now n
  spent : spendF T O P leaf now n = true
  on : (pathOf T leaf).contains a = true
  own : 1000000000 * n ≤ levelOf (fills now O) leaf → a = leaf
  top : ∃ q, (fills now P)[leaf.toNat]? = some q ∧ (spendP T O P leaf now n)[leaf.toNat]? = some (takeTop n q)
  is : spendT T O P leaf now n = T
theorem asked_of {T O P : List Q4} {leaf now n : Int} (ha : 0 ≤ askAns T O P leaf now n) : Asked T O P leaf now n (askAns T O P leaf now n) := by
  cases ht : toldB T O P leaf now n
  · unfold askAns at ha
    rw [ht] at ha
    simp at ha
  · have hd := told_of ht
    have hw := hd.lend.tree.sound.well
    rcases who_range T O P leaf now n with e | ⟨w0, w1⟩
    · rw [ask_no ht e] at ha
      omega
    · obtain ⟨k, hk⟩ : ∃ k : Nat, whoOf T O P leaf now n = k := ⟨(whoOf T O P leaf now n).toNat, by omega⟩
      have hlt : k < (pathOf T leaf).length := by omega
      have hy := ask_yes ht hk hlt
      have hst := path_step hw hd.l0 hd.l1
      have hl : 0 < (pathOf T leaf).length := by omega
      have e0 : (pathOf T leaf)[0] = leaf := by simp only [hst, List.getElem_cons_zero]
      have h0 : ∀ x ∈ pathOf T leaf, 0 ≤ x := fun x hx => (path_mem hw T.length leaf hd.l1 (by have := hd.l1; omega) x hx).1
      have hnd : (pathOf T leaf).Nodup := path_nodup hw T.length leaf hd.l1 (by have := hd.l1; omega)
      have hlP : leaf.toNat < (fills now P).length := by rw [fills_length, hd.lend.lp]; have := hd.l0; have := hd.l1; omega
      refine ⟨hd, ?_, ?_, ?_, ?_, ?_⟩
      · unfold spendF
        rw [ht, hk]
        simp
      · rw [hy]
        simp
      · intro ho
        have hx : whoOf T O P leaf now n = 0 := by
          unfold whoOf askOf at w0 ⊢
          cases h1 : askTo (fills now O) (fills now P) n (pathOf T leaf) (pathOf T leaf).length with
          | none => rw [h1] at w0; simp at w0
          | some who => exact ask_own hl h1 (by rw [e0]; exact ho)
        have hk0 : k = 0 := by omega
        subst hk0
        rw [hy, e0]
      · refine ⟨_, List.getElem?_eq_getElem hlP, ?_⟩
        unfold spendP
        rw [if_pos ht, if_neg (by omega)]
        have h := topTo_first (n := n) (P := fills now P) (L := pathOf T leaf) (q := (fills now P)[leaf.toNat]) h0 hnd hl (by rw [e0]; exact List.getElem?_eq_getElem hlP) ((pathOf T leaf).length - 1)
        rw [show (pathOf T leaf).length - 1 + 1 = (pathOf T leaf).length by omega, e0] at h
        exact h
      · unfold spendT
        rw [if_pos ht]
/-- .. and where nobody does. -/
theorem asked_no {T O P : List Q4} {leaf now n : Int} (ha : askAns T O P leaf now n < 0) : spendF T O P leaf now n = false ∧ ((askAns T O P leaf now n = -2 ∧ spendT T O P leaf now n = []) ∨ (askAns T O P leaf now n = -1 ∧ spendT T O P leaf now n = T ∧ 0 < T.length)) := by
  cases ht : toldB T O P leaf now n
  · refine ⟨by unfold spendF; rw [ht]; rfl, .inl ⟨?_, by unfold spendT; rw [ht]; rfl⟩⟩
    unfold askAns
    rw [ht]
    rfl
  · have hd := told_of ht
    rcases who_range T O P leaf now n with e | ⟨w0, w1⟩
    · refine ⟨by unfold spendF; rw [ht, e]; rfl, .inr ⟨ask_no ht e, by unfold spendT; rw [ht]; rfl, ?_⟩⟩
      have := hd.l0
      have := hd.l1
      omega
    · obtain ⟨k, hk⟩ : ∃ k : Nat, whoOf T O P leaf now n = k := ⟨(whoOf T O P leaf now n).toNat, by omega⟩
      have hlt : k < (pathOf T leaf).length := by omega
      rw [ask_yes ht hk hlt] at ha
      have := (path_mem hd.lend.tree.sound.well T.length leaf hd.l1 (by have := hd.l1; omega) _ (List.getElem_mem hlt)).1
      omega
end Go.Proofs.Ytacahpmcmfmgkad
