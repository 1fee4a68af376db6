/- Another tree of as many classes, as mathematics: what is moved is right, and no bucket has more than its new burst. -/
import Derived.Test.YtmophpbfaonfmacImplRetree
import Derived.Test.YtmophpbfaonfmacGrpN
namespace Go.Proofs.Ytmophpbfaonfmac
open Go.ChangeShapes Go.WideShapes Go.ChangeAt Go.RowKit
set_option maxRecDepth 100000
set_option linter.unusedVariables false
set_option linter.unusedSimpArgs false

theorem reset_bok {r u l t r' u' now : Int} (h : bokB r u l t = true) (hr : rateB r' = true) (hu : winB u' = true) (hn : timeB now = true) (ht : t ≤ now) :
    ∃ l', resetOf r u l t r' u' now = (r', u', l', now) ∧ bokB r' u' l' now = true ∧ l' ≤ 1000000000 * u' := by
  obtain ⟨nr, nu, nl, nt⟩ := bok_num h
  have nu' := win_num hu
  have e : resetOk r u l t r' u' now = true := by unfold resetOk; rw [h, hr, hu, hn]; rfl
  have eT : fillT t now = now := by unfold fillT; split <;> omega
  have f0 : 0 ≤ fillL r u l t now := by
    unfold fillL
    split
    · exact nl.1
    · have hp : 0 ≤ r * (now - t) := Int.mul_nonneg nr.1 (by omega)
      generalize r * (now - t) = X at *
      omega
  refine ⟨min (fillL r u l t now) (1000000000 * u'), ?_, ?_, by omega⟩
  · unfold resetOf
    rw [if_pos e, eT]
  · unfold bokB lvlB
    rw [hr, hu, hn, decide_eq_true (by omega), decide_eq_true (by omega)]
    rfl
theorem pair_every {T O P : List Q4} (h : ∀ k (h1 : k < T.length) (h2 : k < O.length) (h3 : k < P.length), pairB (atOf O) O[k] P[k] T[k] = true) (lo : O.length = T.length) (lp : P.length = T.length) : ∀ n, n ≤ T.length → pairTo T O P n = true
  | 0, _ => rfl
  | n + 1, hn => by
    show (pairTo T O P n && pairAt T O P n) = true
    rw [pair_every h lo lp n (by omega), pairAt_at (show n < T.length by omega) (by omega) (by omega), h n (by omega) (by omega) (by omega)]
    rfl
theorem cls_three {hi : Int} {t : Q4} (h : clsB hi t = true) : rateB t.2.1 = true ∧ rateB t.2.2.1 = true ∧ winB t.2.2.2 = true := by
  unfold clsB at h
  simp only [Bool.and_eq_true] at h
  refine ⟨h.1.1.1.1, h.1.1.1.2, ?_⟩
  have hb := h.2
  unfold burB at hb
  simp only [Bool.and_eq_true, decide_eq_true_eq] at hb
  unfold winB
  rw [decide_eq_true (by omega), decide_eq_true (by omega)]
  rfl
theorem movO_at {S O : List Q4} {now : Int} {k : Nat} (h : k < (movO S O now).length) (h1 : k < O.length) (h2 : k < S.length) : (movO S O now)[k] = resetQ now S[k].2.1 S[k].2.2.2 O[k] := List.getElem_zipWith ..
theorem movP_at {S P : List Q4} {now : Int} {k : Nat} (h : k < (movP S P now).length) (h1 : k < P.length) (h2 : k < S.length) : (movP S P now)[k] = resetQ now S[k].2.2.1 S[k].2.2.2 P[k] := List.getElem_zipWith ..
/-- What is moved is right. -/
structure Moved (S YO YP : List Q4) : Prop where
  lo : YO.length = S.length
  lp : YP.length = S.length
  own : ∀ k (h1 : k < S.length) (h2 : k < YO.length), YO[k].2.2.1 ≤ 1000000000 * S[k].2.2.2
  top : ∀ k (h1 : k < S.length) (h3 : k < YP.length), YP[k].1 = S[k].2.2.1
  ok : lendB S YO YP = true
theorem moved {T O P S : List Q4} {now : Int} (h : movB T O P S now = true) : Moved S (movO S O now) (movP S P now) := by
  unfold movB at h
  simp only [Bool.and_eq_true, decide_eq_true_eq] at h
  obtain ⟨⟨⟨hL, hC⟩, hlen⟩, hA, hN⟩ := h
  have IL := lend_of hL
  have IT := tree_of hC
  have ha := at_time IL
  have hn : timeB now = true := by unfold timeB; rw [decide_eq_true (by omega), decide_eq_true hN]; rfl
  have lO : O.length = S.length := by rw [IL.lo]; exact hlen.symm
  have lP : P.length = S.length := by rw [IL.lp]; exact hlen.symm
  have l1 := movO_length (now := now) lO
  have l2 := movP_length (now := now) lP
  have key : ∀ k (h1 : k < S.length) (h2 : k < (movO S O now).length) (h3 : k < (movP S P now).length), (∃ l, (movO S O now)[k] = (S[k].2.1, S[k].2.2.2, l, now) ∧ bokB S[k].2.1 S[k].2.2.2 l now = true ∧ l ≤ 1000000000 * S[k].2.2.2) ∧ ∃ l, (movP S P now)[k] = (S[k].2.2.1, S[k].2.2.2, l, now) ∧ bokB S[k].2.2.1 S[k].2.2.2 l now = true ∧ l ≤ 1000000000 * S[k].2.2.2 := by
    intro k h1 h2 h3
    have pk := pair_ok (IL.pair k (by omega) (by omega) (by omega))
    obtain ⟨c1, c2, c3⟩ := cls_three (IT.sound.cls k h1)
    constructor
    · obtain ⟨l, e, b, le⟩ := reset_bok pk.oka c1 c3 hn (by rw [pk.ta]; exact hA)
      refine ⟨l, ?_, b, le⟩
      rw [movO_at h2 (by omega) h1]
      exact e
    · obtain ⟨l, e, b, le⟩ := reset_bok pk.okb c2 c3 hn (by rw [pk.tb]; exact hA)
      refine ⟨l, ?_, b, le⟩
      rw [movP_at h3 (by omega) h1]
      exact e
  have h0 := IT.l0
  have hat : atOf (movO S O now) = now := by
    unfold atOf
    rw [List.getElem?_eq_getElem (show 0 < (movO S O now).length by omega)]
    obtain ⟨⟨l, e, _⟩, _⟩ := key 0 (by omega) (by omega) (by omega)
    rw [e]
  refine ⟨l1, l2, fun k h1 h2 => ?_, fun k h1 h3 => ?_, ?_⟩
  · obtain ⟨⟨l, e, _, le⟩, _⟩ := key k h1 h2 (by omega)
    rw [e]
    exact le
  · obtain ⟨_, l, e, _, _⟩ := key k h1 (by omega) h3
    rw [e]
  · unfold lendB
    rw [decide_eq_true hC, decide_eq_true l1, decide_eq_true l2, pair_every (fun k h1 h2 h3 => ?_) l1 l2 S.length (Nat.le_refl _)]
    · rfl
    · obtain ⟨⟨l, e, b, _⟩, l', e', b', _⟩ := key k h1 h2 h3
      rw [hat, e, e']
      exact pair_is ⟨b, b', rfl, rfl, rfl, rfl, rfl, rfl⟩
end Go.Proofs.Ytmophpbfaonfmac
