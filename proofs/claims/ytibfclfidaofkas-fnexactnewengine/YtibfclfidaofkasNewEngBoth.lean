/- NewEngine's two answers at once; Engines beside what is marked. -/
import Derived.Test.YtibfclfidaofkasImplNewEng
import Derived.Test.YtibfclfidaofkasEngMark
namespace Go.Proofs.Ytibfclfidaofkas
open Go.ChangeShapes Go.WideShapes Go.ChangeAt Go.RowKit
set_option maxRecDepth 100000
set_option linter.unusedVariables false
set_option linter.unusedSimpArgs false

theorem sumL_new : ∀ (n k : Nat), k ≤ n → sumL (List.replicate n newPl) k = 0
  | n, 0, _ => rfl
  | n, k + 1, h => by
    rw [sumL_next (by rw [List.length_replicate]; exact h), sumL_new n k (by omega), List.getElem_replicate]
    rfl
theorem kE_pos (T O P : List Q4) (L : List F8) (K : List Kn) : 0 ≤ kE 1 T O P L K := by
  unfold kE
  have h1 : 0 ≤ kL 1 T O P := by unfold kL; omega
  have h2 : 0 ≤ kAt (kL 1 T O P) L L.length := by unfold kAt; omega
  exact kAtK_pos h2 K.length
theorem newengs (T : List Q4) (n : Int) : ∃ (YT YO YP : List Q4) (YL : List F8) (YK : List Kn) (f : Bool),
    (YT.length ≤ 4611686018427387904 ∧ YO.length ≤ 4611686018427387904 ∧ YP.length ≤ 4611686018427387904 ∧ YL.length ≤ 4611686018427387904 ∧ (∀ f ∈ YL, f.2.2.length ≤ 4611686018427387904) ∧ YK.length ≤ 4611686018427387904 ∧ (∀ c ∈ YK, c.xs.length ≤ 4611686018427387904) ∧ YT.length + YO.length + YP.length ≤ 1048576 ∧ YL.length + sumL YL YL.length ≤ 1048576 ∧ YK.length + sumK YK YK.length ≤ 1048576) ∧
    (∀ (w : World) (aT : Option Addr) (cT : Nat), Quad w.heap.size w aT T → Calls Try.prog 11 #[.slice aT T.length cT, .int .i64 n] w (EgPost w 0 0 YT YO YP YL YK (.bool f))) ∧
    (∀ (w : World) (aT : Option Addr) (cT : Nat), Quad w.heap.size w aT T → Calls Try.prog 13 #[.slice aT T.length cT, .int .i64 n] w (EgPost w 0 0 YT YO YP YL YK (.bool f))) := by
  refine ⟨nwT T n, nwO T n, nwP T n, nwL T n, [], nwB T n, ?_, fun w aT cT h => specNewEng_any cT n h, fun w aT cT h => implNewEng_any cT n h⟩
  have hk : sumK ([] : List Kn) ([] : List Kn).length = 0 := rfl
  cases hn : nwB T n
  · have e1 : nwT T n = [] := by unfold nwT; rw [hn]; rfl
    have e2 : nwO T n = [] := by unfold nwO; rw [hn]; rfl
    have e3 : nwP T n = [] := by unfold nwP; rw [hn]; rfl
    have e4 : nwL T n = [] := by unfold nwL; rw [hn]; rfl
    rw [e1, e2, e3, e4]
    exact ⟨by simp, by simp, by simp, by simp, (fun f hf => by cases hf), by simp, (fun f hf => by cases hf), by simp, by simp [sumL], by simp [sumK]⟩
  · have hn' := hn
    unfold nwB at hn'
    rw [Bool.and_eq_true] at hn'
    have hb := hn'.1
    have h2 := hn'.2
    have e1 : nwT T n = newT T 0 := by unfold nwT; rw [hn]; rfl
    have e2 : nwO T n = newO T 0 := by unfold nwO; rw [hn]; rfl
    have e3 : nwP T n = newP T 0 := by unfold nwP; rw [hn]; rfl
    have e4 : nwL T n = List.replicate n.toNat newPl := by unfold nwL; rw [hn]; rfl
    have hl : (newT T 0).length ≤ 30 ∧ (newO T 0).length ≤ 30 ∧ (newP T 0).length ≤ 30 := by
      unfold newT newO newP
      rw [hb]
      unfold newB_LendMath at hb
      rw [Bool.and_eq_true] at hb
      have h30 := (tree_of (of_decide_eq_true hb.1)).l1
      simp only [if_true, List.length_map]
      exact ⟨h30, h30, h30⟩
    unfold inQ at h2
    simp only [Bool.and_eq_true, decide_eq_true_eq] at h2
    have hL : (nwL T n).length = n.toNat := by rw [e4, List.length_replicate]
    have hs : sumL (nwL T n) (nwL T n).length = 0 := by rw [hL, e4]; exact sumL_new _ _ (Nat.le_refl _)
    rw [e1, e2, e3]
    refine ⟨by omega, by omega, by omega, by omega, fun f hf => ?_, by simp, (fun f hf => by cases hf), by omega, by omega, by simp [sumK]⟩
    rw [e4] at hf
    rw [List.eq_of_mem_replicate hf]
    simp [newPl]
theorem lay_onlyP {u u' : World} {b : Nat} {p : Nat → Prop} {vs : List Value} (h : Lay u b vs) (ho : OnlyP p u u') (hne : ¬ p b) : Lay u' b vs := h.block ho.size (ho.block b h.lt hne)
theorem lay_onlyI {u u' : World} {b lo hi : Nat} {vs : List Value} (h : Lay u b vs) (ho : OnlyI lo hi u u') (hne : b < lo ∨ hi ≤ b) : Lay u' b vs := h.block ho.size (ho.block b h.lt hne)
theorem eng_onlyP {w w' : World} {lo hi : Nat} {p : Nat → Prop} {sT sO sP vL vK : Value} {T O P : List Q4} {L : List F8} {K : List Kn} (h : Eng w lo hi sT sO sP vL vK T O P L K) (o : OnlyP p w w') (hne : ∀ g, lo ≤ g ∧ g < hi → ¬ p g) : Eng w' lo hi sT sO sP vL vK T O P L K := by
  obtain ⟨a, b, c, d, e, f, ⟨h1, h2, h3⟩, ⟨h4, h5, h6⟩, x⟩ := h
  have hs := o.size
  have no : ∀ g, inL sT sO sP g → ¬ p g := fun g hg => hne g (by have := x.lb g hg; have := (x.l.lo hg).1; omega)
  exact ⟨a, b, c, d, e, f, ⟨h1, h2, h3⟩, ⟨h4, h5, h6⟩, x.l.onlyP o (fun b e => no b (.inl e)) (fun b e => no b (.inr (.inl e))) (fun b e => no b (.inr (.inr e))), x.lb, x.p.same hs (fun g a1 a2 a3 => o.block g a3 (hne g (by omega))), x.k.same hs (fun g a1 a2 a3 => o.block g a3 (hne g (by omega))), x.d1, x.d2, x.d3, Nat.le_trans x.t1 hs, Nat.le_trans x.t2 hs, Nat.le_trans x.t3 hs⟩
end Go.Proofs.Ytibfclfidaofkas
