/- Another tree under a Lend, as mathematics: each bucket reset; with its own tree nothing but the filling is left. -/
import Derived.Test.YtcepopboldnicalSpecAsk2
namespace Go.Proofs.Ytcepopboldnical
open Go.ChangeShapes Go.WideShapes Go.ChangeAt Go.RowKit
set_option maxRecDepth 100000
set_option linter.unusedVariables false

def resetQ (now r u : Int) (b : Q4) : Q4 := resetOf b.1 b.2.1 b.2.2.1 b.2.2.2 r u now
def movO (S O : List Q4) (now : Int) : List Q4 := List.zipWith (fun b t => resetQ now t.2.1 t.2.2.2 b) O S
def movP (S P : List Q4) (now : Int) : List Q4 := List.zipWith (fun b t => resetQ now t.2.2.1 t.2.2.2 b) P S
def movB (T O P S : List Q4) (now : Int) : Bool := ((lendB T O P && decide (treeCode S = 0)) && decide (S.length = T.length)) && (decide (atOf O ≤ now) && decide (now ≤ 1000000000000000))
theorem mov_no1 {T O P S : List Q4} {now : Int} (h : lendB T O P = false) : movB T O P S now = false := by unfold movB; rw [h]; rfl
theorem mov_no2 {T O P S : List Q4} {now : Int} (h : ¬ treeCode S = 0) : movB T O P S now = false := by unfold movB; rw [decide_eq_false h, Bool.and_false]; rfl
theorem mov_no3 {T O P S : List Q4} {now : Int} (h : ¬ S.length = T.length) : movB T O P S now = false := by unfold movB; rw [decide_eq_false h, Bool.and_false]; rfl
theorem mov_no4 {T O P S : List Q4} {now : Int} (h : (decide (atOf O ≤ now) && decide (now ≤ 1000000000000000)) = false) : movB T O P S now = false := by unfold movB; rw [h, Bool.and_false]
theorem mov_yes {T O P S : List Q4} {now : Int} (h1 : lendB T O P = true) (h2 : treeCode S = 0) (h3 : S.length = T.length) (h4 : (decide (atOf O ≤ now) && decide (now ≤ 1000000000000000)) = true) : movB T O P S now = true := by
  unfold movB
  rw [h1, decide_eq_true h2, decide_eq_true h3, h4]
  rfl
theorem movO_length {S O : List Q4} {now : Int} (h : O.length = S.length) : (movO S O now).length = S.length := by unfold movO; rw [List.length_zipWith]; omega
theorem movP_length {S P : List Q4} {now : Int} (h : P.length = S.length) : (movP S P now).length = S.length := by unfold movP; rw [List.length_zipWith]; omega
theorem movO_next {S O : List Q4} {now : Int} {k : Nat} (h1 : k < S.length) (h2 : k < O.length) : (movO S O now).take (k + 1) = (movO S O now).take k ++ [resetQ now S[k].2.1 S[k].2.2.2 O[k]] := by
  have h : k < (movO S O now).length := by unfold movO; rw [List.length_zipWith]; omega
  rw [List.take_succ_eq_append_getElem h]
  simp [movO]
theorem movP_next {S P : List Q4} {now : Int} {k : Nat} (h1 : k < S.length) (h2 : k < P.length) : (movP S P now).take (k + 1) = (movP S P now).take k ++ [resetQ now S[k].2.2.1 S[k].2.2.2 P[k]] := by
  have h : k < (movP S P now).length := by unfold movP; rw [List.length_zipWith]; omega
  rw [List.take_succ_eq_append_getElem h]
  simp [movP]
/-- The time at which a right Lend's buckets stand is a time. -/
theorem at_time {T O P : List Q4} (h : IsLend T O P) : 0 ≤ atOf O ∧ atOf O ≤ 1000000000000000 := by
  have l0 := h.tree.l0
  have hO : 0 < O.length := by rw [h.lo]; omega
  have hP : 0 < P.length := by rw [h.lp]; omega
  have hp := pair_ok (h.pair 0 (by omega) hO hP)
  have hb := bok_num hp.oka
  have e : O[0].2.2.2 = atOf O := hp.ta
  rw [← e]
  exact hb.2.2.2
theorem now_time {T O P : List Q4} {now : Int} (h : IsLend T O P) : (timeB now && decide (atOf O ≤ now)) = (decide (atOf O ≤ now) && decide (now ≤ 1000000000000000)) := by
  have ha := at_time h
  unfold timeB
  by_cases h1 : atOf O ≤ now
  · rw [decide_eq_true h1, decide_eq_true (show 0 ≤ now by omega)]
    simp
  · rw [decide_eq_false h1]
    simp
/-- Reset by the rate and the burst that it has already, a bucket is filled. -/
theorem reset_fill {now : Int} {b : Q4} (hb : bokQ b = true) (hn : timeB now = true) : resetQ now b.1 b.2.1 b = fillQ now b := by
  have hk : resetOk b.1 b.2.1 b.2.2.1 b.2.2.2 b.1 b.2.1 now = true := by
    have h2 := hb
    unfold bokQ bokB at h2
    simp only [Bool.and_eq_true] at h2
    unfold resetOk
    have hb' : bokB b.1 b.2.1 b.2.2.1 b.2.2.2 = true := hb
    rw [hb', h2.1.1.1, h2.1.1.2, hn]
    rfl
  have hbn := bok_num hb
  have hf := fill_bounds (r := b.1) (u := b.2.1) (l := b.2.2.1) (t := b.2.2.2) (now := now) hbn.2.1 hbn.2.2.1 hbn.1.1
  unfold resetQ resetOf fillQ
  rw [if_pos hk, Int.min_eq_left hf.2]
theorem mov_fillsO {T O P : List Q4} {now : Int} (h : IsLend T O P) (hn : timeB now = true) : movO T O now = fills now O := by
  refine List.ext_getElem (by rw [movO_length h.lo, fills_length, h.lo]) (fun k h1 h2 => ?_)
  have hk : k < O.length := by rw [fills_length] at h2; exact h2
  have hp := pair_ok (h.pair k (by rw [← h.lo]; exact hk) hk (by rw [h.lp, ← h.lo]; exact hk))
  rw [fills_at hk h2]
  have hT : k < T.length := by rw [← h.lo]; exact hk
  have e : (movO T O now)[k] = resetQ now T[k].2.1 T[k].2.2.2 O[k] := by simp [movO]
  rw [e, ← hp.ra, ← hp.ua]
  exact reset_fill hp.oka hn
theorem mov_fillsP {T O P : List Q4} {now : Int} (h : IsLend T O P) (hn : timeB now = true) : movP T P now = fills now P := by
  refine List.ext_getElem (by rw [movP_length h.lp, fills_length, h.lp]) (fun k h1 h2 => ?_)
  have hk : k < P.length := by rw [fills_length] at h2; exact h2
  have hp := pair_ok (h.pair k (by rw [← h.lp]; exact hk) (by rw [h.lo, ← h.lp]; exact hk) hk)
  rw [fills_at hk h2]
  have hT : k < T.length := by rw [← h.lp]; exact hk
  have e : (movP T P now)[k] = resetQ now T[k].2.2.1 T[k].2.2.2 P[k] := by simp [movP]
  rw [e, ← hp.rb, ← hp.ub]
  exact reset_fill hp.okb hn
end Go.Proofs.Ytcepopboldnical
