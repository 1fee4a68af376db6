/- Queue's two answers at once. -/
import Derived.Test.YtdgefdjgpneanadSpecQueue
import Derived.Test.YtdgefdjgpneanadImplQueue
namespace Go.Proofs.Ytdgefdjgpneanad
open Go.ChangeShapes Go.WideShapes Go.ChangeAt Go.RowKit
set_option maxRecDepth 100000
set_option linter.unusedVariables false

/-- So few numbers that all can be marked. -/
structure Few (fs : List F8) : Prop where
  all : fs.length + sumL fs fs.length ≤ 1048576
  len : fs.length ≤ 4611686018427387904
  each : ∀ f ∈ fs, f.2.2.length ≤ 4611686018427387904
theorem sumL_most {fs : List F8} {B : Nat} (h : ∀ f ∈ fs, f.2.2.length ≤ B) : ∀ k, k ≤ fs.length → sumL fs k ≤ B * k
  | 0, _ => Nat.le_refl _
  | k + 1, hk => by
    have ih := sumL_most h k (by omega)
    have hf := h _ (List.getElem_mem (show k < fs.length by omega))
    rw [sumL_next (by omega), Nat.mul_succ]
    omega
theorem few_of {fs : List F8} (hl : fs.length ≤ 30) (h : ∀ f ∈ fs, f.2.2.length ≤ 101) : Few fs := by
  have := sumL_most h fs.length (Nat.le_refl _)
  exact ⟨by omega, by omega, fun f hf => by have := h f hf; omega⟩
theorem few_nil : Few [] := few_of (by simp) (fun f hf => by cases hf)
theorem queF_few {fs : List F8} {at' : Int} {fresh : Bool} (i n : Int) (h : turnsB fs at' fresh = true) : Few (queF fs i n) := by
  have hok := turns_ok h
  have hl := hok.l1
  have hf : ∀ f ∈ fs, f.2.2.length ≤ 100 := fun f hf => by
    obtain ⟨k, hk, rfl⟩ := List.mem_iff_getElem.1 hf
    exact (hok.flow k hk).len
  unfold queF
  split
  · rename_i f he
    have hm := List.mem_of_getElem? he
    refine few_of (by rw [List.length_set]; exact hl) (fun x hx => ?_)
    rcases List.mem_or_eq_of_mem_set hx with hx | rfl
    · have := hf x hx; omega
    · have := hf f hm
      simp only [List.length_append, List.length_cons, List.length_nil]
      omega
  · exact few_of hl (fun f hf' => by have := hf f hf'; omega)
theorem queues (fs : List F8) (at' : Int) (fresh : Bool) (i n : Int) : ∃ (Y : List F8) (ya : Int) (yf f : Bool), Few Y ∧
    (∀ (w : World) (a : Option Addr) (c : Nat), Fls w.heap.size w a fs → fs.length ≤ 4611686018427387904 → (∀ f ∈ fs, f.2.2.length ≤ 4611686018427387904) → Calls Try.prog 36 #[turnV a fs.length c at' fresh, .int .i64 i, .int .i64 n] w (TurnPost w Y ya yf f)) ∧
    (∀ (w : World) (a : Option Addr) (c : Nat), Fls w.heap.size w a fs → fs.length ≤ 4611686018427387904 → (∀ f ∈ fs, f.2.2.length ≤ 4611686018427387904) → Calls Try.prog 35 #[turnV a fs.length c at' fresh, .int .i64 i, .int .i64 n] w (TurnPost w Y ya yf f)) := by
  refine ⟨_, _, _, _, ?_, fun w a c h1 h2 h3 => specQueue_any c at' fresh i n h1 h2 h3, fun w a c h1 h2 h3 => iQueue_any c at' fresh i n h1 h2 h3⟩
  by_cases hq : queB fs at' fresh i n = true
  · rw [if_pos hq]
    have ht : turnsB fs at' fresh = true := by
      unfold queB at hq
      simp only [Bool.and_eq_true] at hq
      exact hq.1.1.1
    exact queF_few i n ht
  · rw [if_neg hq]
    exact few_nil
end Go.Proofs.Ytdgefdjgpneanad
