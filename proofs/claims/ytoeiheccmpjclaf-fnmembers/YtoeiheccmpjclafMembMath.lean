/- What is joined and quit stays right. -/
import Derived.Test.YtoeiheccmpjclafLikePlc
import Derived.Test.YtoeiheccmpjclafJoinBoth
namespace Go.Proofs.Ytoeiheccmpjclaf
open Go.ChangeShapes Go.WideShapes Go.ChangeAt Go.RowKit
set_option maxRecDepth 100000
set_option linter.unusedVariables false
set_option linter.unusedSimpArgs false

/-! What is joined and quit stays right. -/
theorem mem_pair {xs : List Int} : MemTo xs xs.length ↔ (∀ x ∈ xs, 0 ≤ x ∧ x ≤ 1000000) ∧ xs.Pairwise (· < ·) := by
  constructor
  · intro h
    refine ⟨fun x hx => ?_, List.pairwise_iff_getElem.2 (fun i j hi hj hij => mem_less h hij hj)⟩
    obtain ⟨i, hi, e⟩ := List.mem_iff_getElem.1 hx
    rw [← e]
    exact (h i hi hi).1
  · rintro ⟨h1, h2⟩ i hi _
    exact ⟨h1 _ (List.getElem_mem hi), fun j hj e => List.pairwise_iff_getElem.1 h2 j i hj hi (by omega)⟩
theorem ins_parts {xs : List Int} {id : Int} (h : MemTo xs xs.length) (hh : hasI id xs = false) : (∀ x ∈ xs.takeWhile (fun y => decide (y < id)), x < id) ∧ (∀ x ∈ xs.dropWhile (fun y => decide (y < id)), id < x) := by
  have hp := (mem_pair.1 h).2
  have hn : id ∉ xs := of_decide_eq_false hh
  refine ⟨fun x hx => by have h := List.all_eq_true.1 (List.all_takeWhile (p := fun y => decide (y < id)) (l := xs)) x hx; simpa using h, ?_⟩
  have key : ∀ (L : List Int), L.Pairwise (· < ·) → id ∉ L → ∀ x ∈ L.dropWhile (fun y => decide (y < id)), id < x := by
    intro L
    induction L with
    | nil => intro _ _ x hx; cases hx
    | cons y L ih =>
      intro hp hn x hx
      obtain ⟨h1, h2⟩ := List.pairwise_cons.1 hp
      by_cases hy : y < id
      · rw [List.dropWhile_cons_of_pos (by simpa using hy)] at hx
        exact ih h2 (fun k => hn (List.mem_cons_of_mem _ k)) x hx
      · rw [List.dropWhile_cons_of_neg (by simpa using hy)] at hx
        have hne : y ≠ id := fun e => hn (by rw [e]; exact List.mem_cons_self)
        rcases List.mem_cons.1 hx with rfl | hx
        · omega
        · have := h1 x hx
          omega
  exact key xs hp hn
theorem ins_mem {xs : List Int} {id : Int} (h : MemTo xs xs.length) (hh : hasI id xs = false) (hi : inQ 0 id 1000000 = true) : MemTo (insI xs id) (insI xs id).length := by
  obtain ⟨h1, h2⟩ := ins_parts h hh
  obtain ⟨m1, m2⟩ := mem_pair.1 h
  have hx : xs = xs.takeWhile (fun y => decide (y < id)) ++ xs.dropWhile (fun y => decide (y < id)) := List.takeWhile_append_dropWhile.symm
  rw [hx] at m2
  obtain ⟨p1, p2, p3⟩ := List.pairwise_append.1 m2
  refine mem_pair.2 ⟨fun x hx => ?_, ?_⟩
  · unfold insI at hx
    rcases List.mem_append.1 hx with k | k
    · exact m1 x ((List.takeWhile_sublist _).mem k)
    · rcases List.mem_cons.1 k with rfl | k
      · exact inQ_num hi
      · exact m1 x ((List.dropWhile_sublist _).mem k)
  · unfold insI
    refine List.pairwise_append.2 ⟨p1, List.pairwise_cons.2 ⟨h2, p2⟩, fun a ha b hb => ?_⟩
    rcases List.mem_cons.1 hb with rfl | hb
    · exact h1 a ha
    · exact p3 a ha b hb
theorem del_ins {xs : List Int} {id : Int} (h : MemTo xs xs.length) (hh : hasI id xs = false) : delI (insI xs id) id = xs := by
  obtain ⟨h1, h2⟩ := ins_parts h hh
  unfold delI insI
  rw [List.filter_append, List.filter_cons_of_neg (by simp), List.filter_eq_self.2 (fun x hx => by have := h1 x hx; simp; omega), List.filter_eq_self.2 (fun x hx => by have := h2 x hx; simp; omega), List.takeWhile_append_dropWhile]
theorem ins_has (xs : List Int) (id : Int) : hasI id (insI xs id) = true := decide_eq_true (by unfold insI; simp)
theorem del_mem {xs : List Int} {id : Int} (h : MemTo xs xs.length) : MemTo (delI xs id) (delI xs id).length := by
  obtain ⟨m1, m2⟩ := mem_pair.1 h
  exact mem_pair.2 ⟨fun x hx => m1 x (List.mem_filter.1 hx).1, m2.sublist List.filter_sublist⟩
theorem del_one {xs : List Int} {id : Int} (h : MemTo xs xs.length) (hh : hasI id xs = true) : (delI xs id).length + 1 = xs.length := by
  obtain ⟨k, hk, e⟩ := List.mem_iff_getElem.1 (of_decide_eq_true hh)
  rw [delI_at h hk e, List.length_append, List.length_take, List.length_drop]
  omega
theorem join_ok {wd fl id : Int} {xs : List Int} (hp : plB wd fl xs = true) (hn : inQ 0 id 1000000 = true) (h5 : xs.length < 50) (hh : hasI id xs = false) : plB wd fl (insI xs id) = true := by
  obtain ⟨a, b, c, d⟩ := pl_yes hp
  exact pl_true ⟨a, b, by rw [insI_len]; omega, ins_mem d hh hn⟩
theorem quit_ok {wd fl id n : Int} {xs : List Int} (hp : plB wd fl xs = true) (hn : w10B n = true) (hh : hasI id xs = true) : plB wd (max 0 (fl - n)) (delI xs id) = true := by
  obtain ⟨a, b, c, d⟩ := pl_yes hp
  have hb := w10_num b
  have hn := w10_num hn
  have := del_one d hh
  exact pl_true ⟨a, w10_of (by omega), by omega, del_mem d⟩
theorem share_less {wd fl id : Int} {xs : List Int} (hp : plB wd fl xs = true) (hn : inQ 0 id 1000000 = true) (h5 : xs.length < 50) (hh : hasI id xs = false) : shareAns wd fl (insI xs id) ≤ shareAns wd fl xs := by
  have hw := (pl_num hp).1
  unfold shareAns
  rw [if_pos (join_ok hp hn h5 hh), if_pos hp, insI_len, if_neg (by omega)]
  by_cases h0 : xs.length = 0
  · rw [if_pos h0, h0]
    have e : wd / ((0 + 1 : Nat) : Int) = wd := by simp
    rw [e]
    omega
  · rw [if_neg h0]
    have hle : wd / ((xs.length + 1 : Nat) : Int) ≤ wd / (xs.length : Int) := by
      have h1 : (0 : Int) < (xs.length : Int) := by omega
      have h2 : (0 : Int) < ((xs.length + 1 : Nat) : Int) := by omega
      have k := Int.ediv_nonneg (a := wd) (b := ((xs.length + 1 : Nat) : Int)) (by omega) (by omega)
      refine (Int.le_ediv_iff_mul_le h1).2 ?_
      have m := Int.ediv_mul_le wd (show ((xs.length + 1 : Nat) : Int) ≠ 0 by omega)
      have e : ((xs.length + 1 : Nat) : Int) = (xs.length : Int) + 1 := by omega
      rw [e] at m k ⊢
      rw [Int.mul_add, Int.mul_one] at m
      omega
    omega
end Go.Proofs.Ytoeiheccmpjclaf
