/- The mathematics of the law on trees: where a path ends, who is under whom. -/
import Derived.Test.YtacahpmcmfmgkadGrpH
namespace Go.Proofs.Ytacahpmcmfmgkad
open Go.ChangeShapes Go.WideShapes Go.ChangeAt Go.RowKit
set_option maxRecDepth 100000
set_option linter.unusedVariables false

theorem Sound.root {ts : List Q4} (h : Sound ts) {k : Nat} (hk : k < ts.length) (h0 : k ≠ 0) : 0 ≤ ts[k].1 := by
  have := h.par k hk
  rw [par_more h0, Bool.and_eq_true] at this
  exact of_decide_eq_true this.1
theorem path_last {ts : List Q4} (hs : Sound ts) : ∀ (n : Nat) (i : Int), 0 ≤ i → i < ts.length → i + 1 ≤ n → (pathOf ts i).getLast? = some 0
  | 0, i, h0, _, h2 => by omega
  | n + 1, i, h0, h1, h2 => by
    have hp := parent_in hs.well h0 h1
    rw [path_step hs.well h0 h1]
    by_cases hk : i = 0
    · subst hk
      rw [path_end (i := parentOf ts 0) (by omega)]
      rfl
    · obtain ⟨k, rfl⟩ : ∃ k : Nat, i = k := ⟨i.toNat, by omega⟩
      have hr := hs.root (k := k) (by omega) (by omega)
      rw [← parent_at (ts := ts) (k := k) (by omega)] at hr
      have ih := path_last hs n (parentOf ts (k : Int)) hr (by omega) (by omega)
      rw [List.getLast?_cons, ih]
      rfl
theorem last_at {P : List Int} (h : P.getLast? = some 0) (hl : P.length - 1 < P.length) : P[P.length - 1] = 0 := by
  rw [List.getLast?_eq_getElem?, List.getElem?_eq_getElem hl] at h
  exact Option.some.inj h
theorem con_step {P : List Int} {i : Int} {j : Nat} (hj : j < P.length) : (P.take (j + 1)).contains i = ((P.take j).contains i || (P[j] == i)) := by
  have e' : i ∈ P.take (j + 1) ↔ (i ∈ P.take j ∨ P[j] = i) := by
    rw [List.take_succ_eq_append_getElem hj, List.mem_append, List.mem_singleton]
    exact ⟨fun k => k.elim .inl (fun e => .inr e.symm), fun k => k.elim .inl (fun e => .inr e.symm)⟩
  rw [Bool.eq_iff_iff, Bool.or_eq_true, beq_iff_eq]
  simpa using e'
theorem under_has {ts : List Q4} {i : Int} {n k : Nat} (hk : k < n) : (underTo ts i n).contains (k : Int) = (pathOf ts (k : Int)).contains i := by
  rw [Bool.eq_iff_iff]
  unfold underTo
  simp only [List.contains_iff_mem, List.mem_map, List.mem_filter, List.mem_range]
  constructor
  · rintro ⟨m, ⟨hm, h⟩, e⟩
    have e2 : m = k := by omega
    subst e2
    exact h
  · intro h
    exact ⟨k, ⟨hk, h⟩, rfl⟩
theorem path_is {ts : List Q4} {i : Int} {k : Nat} (h : hasB ts i = true) (hk : k < ts.length) : pathTo ts (k : Int) = pathOf ts (k : Int) := by
  unfold hasB at h
  rw [Bool.and_eq_true] at h
  have hh : hasB ts (k : Int) = true := by
    unfold hasB
    rw [h.1]
    simp
    omega
  unfold pathTo
  rw [if_pos hh]
end Go.Proofs.Ytacahpmcmfmgkad
