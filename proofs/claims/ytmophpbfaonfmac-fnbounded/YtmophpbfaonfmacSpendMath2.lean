/- What is paid along a path is what is taken, place by place. -/
import Derived.Test.YtmophpbfaonfmacImplPay
import Derived.Test.YtmophpbfaonfmacImplAsk
namespace Go.Proofs.Ytmophpbfaonfmac
open Go.ChangeShapes Go.WideShapes Go.ChangeAt Go.RowKit
set_option maxRecDepth 100000
set_option linter.unusedVariables false

theorem ask_all {O P : List Q4} {n : Int} {L : List Int} : ∀ {j : Nat} {who : Int}, askTo O P n L j = some who → ∀ i (h : i < L.length), i < j → ¬ levelOf P L[i] < 1000000000 * n
  | 0, _, _, i, _, hi => by omega
  | j + 1, who, h, i, hl, hi => by
    have h' : (match askTo O P n L j with | none => none | some who => match L[j]? with | none => some who | some c => if levelOf P c < 1000000000 * n then none else some (if who < 0 ∧ 1000000000 * n ≤ levelOf O c then (j : Int) else who)) = some who := h
    cases ha : askTo O P n L j with
    | none => rw [ha] at h'; cases h'
    | some w0 =>
      by_cases e : i = j
      · subst e
        rw [ha] at h'
        simp only [List.getElem?_eq_getElem hl] at h'
        intro hc
        rw [if_pos hc] at h'
        cases h'
      · exact ask_all ha i hl (by omega)
theorem modAt_other {f : Q4 → Q4} {X : List Q4} {c d : Int} (h : d.toNat ≠ c.toNat) : (modAt f X c)[d.toNat]? = X[d.toNat]? := by
  unfold modAt
  split
  · rw [List.getElem?_set_ne (fun e => h e.symm)]
  · rfl
theorem topTo_other {n : Int} {P : List Q4} {L : List Int} {d : Int} (hd : 0 ≤ d) (h0 : ∀ x ∈ L, 0 ≤ x) : ∀ j, (∀ i (h : i < L.length), i < j → L[i] ≠ d) → (topTo n P L j)[d.toNat]? = P[d.toNat]?
  | 0, _ => rfl
  | j + 1, hn => by
    have ih := topTo_other (n := n) (P := P) hd h0 j (fun i h hi => hn i h (by omega))
    by_cases hj : j < L.length
    · rw [topTo_next hj, modAt_other, ih]
      have h1 := hn j hj (by omega)
      have h2 := h0 _ (List.getElem_mem hj)
      intro e
      omega
    · show (match L[j]? with | some c => modAt (takeTop n) (topTo n P L j) c | none => topTo n P L j)[d.toNat]? = _
      rw [List.getElem?_eq_none (l := L) (i := j) (by omega)]
      exact ih
theorem pay_top {n : Int} {P : List Q4} {L : List Int} (h0 : ∀ x ∈ L, 0 ≤ x) (hnd : L.Nodup) (hlv : ∀ i (h : i < L.length), ¬ levelOf P L[i] < 1000000000 * n) : ∀ j, j ≤ L.length → payL n P (L.take j) = topTo n P L j
  | 0, _ => rfl
  | j + 1, hj => by
    have hlt : j < L.length := by omega
    have ih := pay_top h0 hnd hlv j (by omega)
    rw [List.take_succ_eq_append_getElem hlt, payL_snoc, ih, topTo_next hlt]
    have hx := h0 _ (List.getElem_mem hlt)
    have ho := topTo_other (n := n) (P := P) hx h0 j (fun i h hi e => by
      exact (List.pairwise_iff_getElem.1 hnd) i j h hlt hi e)
    unfold modAt
    rw [ho]
    cases hq : P[(L[j]).toNat]? with
    | none => rfl
    | some q =>
      have hv := hlv j hlt
      unfold levelOf at hv
      rw [hq] at hv
      simp only at hv
      have e : takeOwn n q = takeTop n q := by
        unfold takeOwn takeTop
        rw [Int.max_eq_right (by omega)]
      simp only [e]
theorem pay_own {n : Int} {O : List Q4} {L : List Int} (k : Nat) : ∀ j, j ≤ L.length → ownTo n k O L j = payL n O ((L.take j).drop k)
  | 0, _ => by simp [ownTo, payL]
  | j + 1, hj => by
    have hlt : j < L.length := by omega
    have ih := pay_own (n := n) (O := O) (L := L) k j (by omega)
    have hlen : (L.take j).length = j := by rw [List.length_take]; omega
    rw [List.take_succ_eq_append_getElem hlt]
    by_cases hk : (k : Int) ≤ (j : Int)
    · have hk' : k ≤ (L.take j).length := by rw [hlen]; omega
      rw [ownTo_yes hlt hk, ih, List.drop_append_of_le_length hk', payL_snoc]
    · rw [ownTo_no hlt hk, ih]
      have h1 : (L.take j).drop k = [] := List.drop_eq_nil_of_le (by rw [hlen]; omega)
      have h2 : (L.take j ++ [L[j]]).drop k = [] := List.drop_eq_nil_of_le (by rw [List.length_append, hlen]; simp; omega)
      rw [h1, h2]
theorem path_drop {T : List Q4} (hw : PWell T) : ∀ (m : Nat) (i : Int), i < T.length → i + 1 ≤ m → ∀ k (h : k < (pathOf T i).length), pathOf T ((pathOf T i)[k]) = (pathOf T i).drop k
  | m, i, h1, h2, k, hk => by
    by_cases h0 : 0 ≤ i
    · have hst := path_step hw h0 h1
      cases k with
      | zero =>
        have e : (pathOf T i)[0] = i := by simp only [hst, List.getElem_cons_zero]
        rw [e, List.drop_zero]
      | succ k =>
        have hp := parent_in hw h0 h1
        have hk' : k < (pathOf T (parentOf T i)).length := by rw [hst] at hk; simpa using hk
        cases m with
        | zero => omega
        | succ m =>
          have ih := path_drop hw m (parentOf T i) (by omega) (by omega) k hk'
          have e : (pathOf T i)[k + 1] = (pathOf T (parentOf T i))[k] := by simp only [hst, List.getElem_cons_succ]
          rw [e, ih, hst, List.drop_succ_cons]
    · rw [path_end (by omega)] at hk
      cases hk
end Go.Proofs.Ytmophpbfaonfmac
