/- Queue's two answers at once. -/
import Derived.Test.YtohenfogiegkmanSpecQueue
import Derived.Test.YtohenfogiegkmanImplQueue
namespace Go.Proofs.Ytohenfogiegkman
open Go.ChangeShapes Go.WideShapes Go.ChangeAt Go.RowKit
set_option maxRecDepth 100000
set_option linter.unusedVariables false

/-- So few numbers that all can be marked. -/
structure Few (fs : List F8) : Prop where
  all : fs.length + sumL fs fs.length ≤ 1048576
  len : fs.length ≤ 4611686018427387904
  each : ∀ f ∈ fs, f.2.2.length ≤ 4611686018427387904
theorem sumL_most {fs : List F8} {B : Nat} (h : ∀ f ∈ fs, f.2.2.length ≤ B) : ∀ k, k ≤ fs.length → sumL fs k ≤ B * k
  | 0, _ => Nat.le_refl _
  | k + 1, hk => by
    have ih := sumL_most h k (by omega)
    have hf := h _ (List.getElem_mem (show k < fs.length by omega))
    rw [sumL_next (by omega), Nat.mul_succ]
    omega
theorem few_of {fs : List F8} (hl : fs.length ≤ 30) (h : ∀ f ∈ fs, f.2.2.length ≤ 101) : Few fs := by
  have := sumL_most h fs.length (Nat.le_refl _)
  exact ⟨by omega, by omega, fun f hf => by have := h f hf; omega⟩
theorem few_nil : Few [] := few_of (by simp) (fun f hf => by cases hf)
theorem queF_few {fs : List F8} {at' : Int} {fresh : Bool} (i n : Int) (h : turnsB fs at' fresh = true) : Few (queF fs i n) := by
  have hok := turns_ok h
  have hl := hok.l1
  have hf : ∀ f ∈ fs, f.2.2.length ≤ 100 := fun f hf => by
    obtain ⟨k, hk, rfl⟩ := List.mem_iff_getElem.1 hf
    exact (hok.flow k hk).len
  unfold queF
  split
  · rename_i f he
    have hm := List.mem_of_getElem? he
    refine few_of (by rw [List.length_set]; exact hl) (fun x hx => ?_)
    rcases List.mem_or_eq_of_mem_set hx with hx | rfl
    · have := hf x hx; omega
    · have := hf f hm
      simp only [List.length_append, List.length_cons, List.length_nil]
      omega
  · exact few_of hl (fun f hf' => by have := hf f hf'; omega)
end Go.Proofs.Ytohenfogiegkman
