/- What a window does along a curve, by numbers. -/
import Derived.Test.YtmophpbfaonfmaeCubBoth
import Derived.Test.YtmophpbfaonfmaeCcLaw
namespace Go.Proofs.Ytmophpbfaonfmae
open Go.ChangeShapes Go.WideShapes Go.ChangeAt Go.RowKit
set_option maxRecDepth 100000
set_option linter.unusedVariables false
set_option linter.unusedSimpArgs false

theorem ten_in {wn : Int} (h : 3000 ≤ wn ∧ wn ≤ 1000000000) : 3000 ≤ tenW wn ∧ tenW wn ≤ wn ∧ 7 * wn / 10 ≤ tenW wn := by
  unfold tenW
  omega
theorem last_in {wn la : Int} (h : 3000 ≤ wn ∧ wn ≤ 1000000000) : 0 ≤ lastW wn la ∧ lastW wn la ≤ 1000000000 := by
  unfold lastW
  split <;> omega
theorem cc_make {k wn th fl ac la og st fr : Int} (h1 : 1 ≤ k ∧ k ≤ 3) (h2 : 3000 ≤ wn ∧ wn ≤ 1000000000) (h3 : 3000 ≤ th ∧ th ≤ 1000000000) (h4 : 0 ≤ fl ∧ fl ≤ 1000000000) (h5 : 0 ≤ ac ∧ ac ≤ 1000000000) (h6 : 0 ≤ la ∧ la ≤ 1000000000) (h7 : 0 ≤ og ∧ og ≤ 1000000000) (h8 : 0 ≤ st ∧ st ≤ 1000000000000000) (h9 : 0 ≤ fr ∧ fr ≤ 1000000000) : ccB k wn th fl ac la og st fr = true := by
  unfold ccB kindB openB w10B timeB
  simp only [Bool.and_eq_true, decide_eq_true_eq]
  omega
theorem fr_in {wn fr n : Int} (hw : 3000 ≤ wn) (hf : 0 ≤ fr) (hn : 1 ≤ n) : 0 ≤ frW wn fr n ∧ frW wn fr n ≤ 1000000000 := by
  have := Int.ediv_nonneg (show 0 ≤ n * 9 * 1500 by omega) (show 0 ≤ 17 * wn by omega)
  unfold frW
  omega
theorem tg_in (wn la og ms : Int) : tgW wn la og ms ≤ 3 * wn / 2 := by
  unfold tgW
  omega
theorem wnW_in {wn fx tx : Int} (hw : 3000 ≤ wn ∧ wn ≤ 1000000000) (hf : fx ≤ 1000000000) (ht : tx ≤ 3 * wn / 2) : (3000 ≤ wnW wn fx tx ∧ wnW wn fx tx ≤ 1000000000) ∧ wn ≤ wnW wn fx tx ∧ (2 * wnW wn fx tx ≤ 3 * wn + 1 ∨ wnW wn fx tx = fx) := by
  unfold wnW
  omega
theorem cub_good {k wn th fl ac la og st fr n now ak awn ath afl aac ala aog ast afr : Int} {sl asl : Bool} (h1 : ccB k wn th fl ac la og st fr = true) (h2 : n10B n = true) (h3 : timeB now = true) (h : cubC k wn th fl ac la og st fr sl n now = ⟨ak, awn, ath, afl, aac, ala, aog, ast, afr, asl⟩) : ak = k ∧ ccB ak awn ath afl aac ala aog ast afr = true ∧ wn ≤ awn ∧ afl ≤ fl ∧ ((sl = true ∧ wn < th) ∨ ((sl = false ∨ ¬ wn < th) ∧ 0 < ast ∧ (2 * awn ≤ 3 * wn + 1 ∨ awn = afr))) := by
  obtain ⟨hk, hw, ht, hf, ha, hl, ho, hs, hr⟩ := cc_num h1
  have hn := n10_num h2
  have t0 : 0 ≤ now ∧ now ≤ 1000000000000000 := by
    unfold timeB at h3
    simp only [Bool.and_eq_true, decide_eq_true_eq] at h3
    exact h3
  rw [show cubC k wn th fl ac la og st fr sl n now = cubIn k wn th fl ac la og st fr sl n now from if_pos ⟨⟨h1, h2⟩, by assumption⟩] at h
  unfold cubIn at h
  split at h
  · rename_i hrise
    split at h
    · simp only [C10.mk.injEq] at h
      obtain ⟨rfl, rfl, rfl, rfl, rfl, rfl, rfl, rfl, rfl, rfl⟩ := h
      exact ⟨rfl, cc_make hk (by omega) ht (by omega) ha hl ho hs hr, by omega, by omega, .inl hrise⟩
    · simp only [C10.mk.injEq] at h
      obtain ⟨rfl, rfl, rfl, rfl, rfl, rfl, rfl, rfl, rfl, rfl⟩ := h
      exact ⟨rfl, cc_make hk (by omega) ht (by omega) ha hl ho hs hr, by omega, by omega, .inl hrise⟩
  · rename_i hrise
    have hno : sl = false ∨ ¬ wn < th := by
      cases sl
      · exact .inl rfl
      · exact .inr (fun h => hrise ⟨rfl, h⟩)
    split at h
    · have F1 := fr_in (fr := wn) hw.1 (by omega) hn.1
      have W1 := wnW_in (fx := frW wn wn n) (tx := tgW wn (max la wn) wn (msOf (max 1 now) now)) hw F1.2 (tg_in _ _ _ _)
      simp only [C10.mk.injEq] at h
      obtain ⟨rfl, rfl, rfl, rfl, rfl, rfl, rfl, rfl, rfl, rfl⟩ := h
      exact ⟨rfl, cc_make hk W1.1 ht (by omega) ha (by omega) (by omega) (by omega) F1, W1.2.1, by omega, .inr ⟨hno, by omega, W1.2.2⟩⟩
    · have F1 := fr_in (fr := fr) hw.1 hr.1 hn.1
      have W1 := wnW_in (fx := frW wn fr n) (tx := tgW wn la og (msOf st now)) hw F1.2 (tg_in _ _ _ _)
      simp only [C10.mk.injEq] at h
      obtain ⟨rfl, rfl, rfl, rfl, rfl, rfl, rfl, rfl, rfl, rfl⟩ := h
      exact ⟨rfl, cc_make hk W1.1 ht (by omega) ha hl ho hs F1, W1.2.1, by omega, .inr ⟨hno, by omega, W1.2.2⟩⟩
end Go.Proofs.Ytmophpbfaonfmae
