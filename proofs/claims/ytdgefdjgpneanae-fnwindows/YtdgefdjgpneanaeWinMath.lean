/- What a window does, by numbers. -/
import Derived.Test.YtdgefdjgpneanaeAckBoth
import Derived.Test.YtdgefdjgpneanaeCcLaw
namespace Go.Proofs.Ytdgefdjgpneanae
open Go.ChangeShapes Go.WideShapes Go.ChangeAt Go.RowKit
set_option maxRecDepth 100000
set_option linter.unusedVariables false
set_option linter.unusedSimpArgs false

theorem half_in {wn : Int} (h : 3000 ≤ wn ∧ wn ≤ 1000000000) : 3000 ≤ halfW wn ∧ halfW wn ≤ wn ∧ wn ≤ 2 * halfW wn + 1 := by
  unfold halfW
  omega
theorem cc_with {k wn th fl ac la og st fr wn' th' fl' ac' : Int} (h : ccB k wn th fl ac la og st fr = true) (h1 : 3000 ≤ wn' ∧ wn' ≤ 1000000000) (h2 : 3000 ≤ th' ∧ th' ≤ 1000000000) (h3 : 0 ≤ fl' ∧ fl' ≤ 1000000000) (h4 : 0 ≤ ac' ∧ ac' ≤ 1000000000) : ccB k wn' th' fl' ac' la og st fr = true := by
  unfold ccB at h ⊢
  simp only [Bool.and_eq_true] at h ⊢
  refine ⟨⟨⟨⟨⟨⟨⟨⟨h.1.1.1.1.1.1.1.1, ?_⟩, ?_⟩, ?_⟩, ?_⟩, h.1.1.1.2⟩, h.1.1.2⟩, h.1.2⟩, h.2⟩
  · unfold openB; rw [decide_eq_true h1.1, decide_eq_true h1.2]; rfl
  · unfold openB; rw [decide_eq_true h2.1, decide_eq_true h2.2]; rfl
  · unfold w10B; rw [decide_eq_true h3.1, decide_eq_true h3.2]; rfl
  · unfold w10B; rw [decide_eq_true h4.1, decide_eq_true h4.2]; rfl
theorem ack_good {k wn th fl ac la og st fr n ak awn ath afl aac ala aog ast afr : Int} {sl asl : Bool} (h1 : ccB k wn th fl ac la og st fr = true) (h2 : n10B n = true) (h : ackC k wn th fl ac la og st fr sl n = ⟨ak, awn, ath, afl, aac, ala, aog, ast, afr, asl⟩) : ak = k ∧ ccB ak awn ath afl aac ala aog ast afr = true ∧ wn ≤ awn ∧ afl ≤ fl ∧ (wn < th ∨ aac < awn) := by
  obtain ⟨_, hw, ht, hf, ha, _⟩ := cc_num h1
  have hn := n10_num h2
  rw [show ackC k wn th fl ac la og st fr sl n = ackIn k wn th fl ac la og st fr sl n from if_pos ⟨h1, h2⟩] at h
  unfold ackIn at h
  split at h
  · split at h
    · simp only [C10.mk.injEq] at h
      obtain ⟨rfl, rfl, rfl, rfl, rfl, rfl, rfl, rfl, rfl, rfl⟩ := h
      exact ⟨rfl, cc_with h1 (by omega) (by omega) (by omega) (by omega), by omega, by omega, .inl (by omega)⟩
    · simp only [C10.mk.injEq] at h
      obtain ⟨rfl, rfl, rfl, rfl, rfl, rfl, rfl, rfl, rfl, rfl⟩ := h
      exact ⟨rfl, cc_with h1 (by omega) (by omega) (by omega) (by omega), by omega, by omega, .inl (by omega)⟩
  · have hb := stepA_bd (a := ac + n) (x := wn) hw.1 hw.2 (by omega)
    simp only [C10.mk.injEq] at h
    obtain ⟨rfl, rfl, rfl, rfl, rfl, rfl, rfl, rfl, rfl, rfl⟩ := h
    exact ⟨rfl, cc_with h1 (by omega) (by omega) (by omega) (by omega), by omega, by omega, .inr (by omega)⟩
end Go.Proofs.Ytdgefdjgpneanae
