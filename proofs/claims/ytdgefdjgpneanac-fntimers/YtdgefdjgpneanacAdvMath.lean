/- What advancing comes to: a wheel stays right, two steps are as one. -/
import Derived.Test.YtdgefdjgpneanacSpecAdvance
namespace Go.Proofs.Ytdgefdjgpneanac
open Go.ChangeShapes Go.WideShapes Go.ChangeAt Go.RowKit
set_option maxRecDepth 100000
set_option linter.unusedVariables false

theorem bef_num {x y : Int × Int} : befB x y = true ↔ x.2 < y.2 ∨ (x.2 = y.2 ∧ x.1 < y.1) := by unfold befB; simp
theorem bef_trans {x y z : Int × Int} (h : befB x y = true) (k : befB y z = true) : befB x z = true := by
  rw [bef_num] at h k ⊢
  omega
/-- When a wheel is right, said of all pairs. -/
def WAll (now : Int) (xs : List (Int × Int)) : Prop := timeB now = true ∧ xs.length ≤ 200 ∧ (∀ x ∈ xs, timB now x = true) ∧ xs.Pairwise (fun x y => befB x y = true) ∧ xs.Pairwise (fun x y => x.1 ≠ y.1)
theorem WOk.all {now : Int} {xs : List (Int × Int)} (h : WOk now xs) : WAll now xs := by
  obtain ⟨h1, h2, h3⟩ := h
  refine ⟨h1, h2, ?_, ?_, ?_⟩
  · intro x hx
    obtain ⟨i, hi, rfl⟩ := List.getElem_of_mem hx
    exact (h3 i hi hi).1
  · rw [List.pairwise_iff_getElem]
    have key : ∀ d i (hi : i < xs.length) (hj : i + d + 1 < xs.length), befB xs[i] xs[i + d + 1] = true := by
      intro d
      induction d with
      | zero => intro i hi hj; exact (h3 (i + 1) hj hj).2.1 i hi rfl
      | succ d ih => intro i hi hj; exact bef_trans (ih i hi (by omega)) ((h3 (i + (d + 1) + 1) hj hj).2.1 (i + d + 1) (by omega) (by omega))
    intro i j hi hj hij
    obtain ⟨d, rfl⟩ : ∃ d, j = i + d + 1 := ⟨j - i - 1, by omega⟩
    exact key d i hi hj
  · rw [List.pairwise_iff_getElem]
    intro i j hi hj hij
    exact (h3 j hj hj).2.2 i hi hij
theorem WAll.ok {now : Int} {xs : List (Int × Int)} (h : WAll now xs) : WOk now xs := by
  obtain ⟨h1, h2, h3, h4, h5⟩ := h
  rw [List.pairwise_iff_getElem] at h4 h5
  exact ⟨h1, h2, fun i hi _ => ⟨h3 _ (List.getElem_mem hi), fun j hj e => h4 j i hj hi (by omega), fun j hj e => h5 j i hj hi e⟩⟩
theorem adv_ok {now mid : Int} {xs : List (Int × Int)} (h : WOk now xs) (hm : timeB mid = true) : WOk mid (restOf mid xs) := by
  obtain ⟨h1, h2, h3, h4, h5⟩ := h.all
  refine WAll.ok ⟨hm, Nat.le_trans (List.length_filter_le _ _) h2, ?_, h4.filter _, h5.filter _⟩
  intro x hx
  obtain ⟨hx1, hx2⟩ := List.mem_filter.1 hx
  have k := h3 x hx1
  unfold timB at k ⊢
  rw [Bool.and_eq_true, Bool.and_eq_true] at k
  have e : decide (mid < x.2) = true := by
    have : ¬ x.2 ≤ mid := by simpa using hx2
    exact decide_eq_true (by omega)
  rw [k.1.1, k.1.2, e]
  rfl
theorem rest_rest {mid now : Int} (h : mid ≤ now) (xs : List (Int × Int)) : restOf now (restOf mid xs) = restOf now xs := by
  unfold restOf
  rw [List.filter_filter]
  refine List.filter_congr fun x _ => ?_
  by_cases k : x.2 ≤ now
  · simp [k]
  · have : ¬ x.2 ≤ mid := by omega
    simp [k, this]
theorem due_due {mid now : Int} (h : mid ≤ now) : ∀ {xs : List (Int × Int)}, xs.Pairwise (fun x y => x.2 ≤ y.2) → dueOf mid xs ++ dueOf now (restOf mid xs) = dueOf now xs
  | [], _ => rfl
  | x :: xs, hp => by
    obtain ⟨h1, h2⟩ := List.pairwise_cons.1 hp
    have ih := due_due h h2
    by_cases hx : x.2 ≤ mid
    · have e1 : dueOf mid (x :: xs) = x.1 :: dueOf mid xs := by unfold dueOf; simp [hx]
      have e2 : restOf mid (x :: xs) = restOf mid xs := by unfold restOf; simp [hx]
      have e3 : dueOf now (x :: xs) = x.1 :: dueOf now xs := by unfold dueOf; simp [show x.2 ≤ now by omega]
      rw [e1, e2, e3, List.cons_append, ih]
    · have far : ∀ y ∈ x :: xs, ¬ y.2 ≤ mid := by
        intro y hy
        rcases List.mem_cons.1 hy with rfl | hy
        · exact hx
        · have := h1 y hy
          omega
      have e1 : dueOf mid (x :: xs) = [] := by
        unfold dueOf
        rw [List.filter_eq_nil_iff.2 (fun y hy => by simpa using far y hy)]
        rfl
      have e2 : restOf mid (x :: xs) = x :: xs := by
        unfold restOf
        rw [List.filter_eq_self.2 (fun y hy => by simpa using far y hy)]
      rw [e1, e2, List.nil_append]
theorem WOk.order {now : Int} {xs : List (Int × Int)} (h : WOk now xs) : xs.Pairwise (fun x y => x.2 ≤ y.2) := h.all.2.2.2.1.imp (fun k => by rw [bef_num] at k; omega)
theorem due_rest (t : Int) (xs : List (Int × Int)) : (dueOf t xs).length + (restOf t xs).length = xs.length := by
  unfold dueOf restOf
  rw [List.length_map]
  induction xs with
  | nil => rfl
  | cons x xs ih =>
    by_cases hx : x.2 ≤ t
    · simp only [List.filter_cons, hx, decide_true, if_true, Bool.not_true, List.length_cons]
      simp only [Bool.false_eq_true, if_false]
      omega
    · simp only [List.filter_cons, hx, decide_false, Bool.not_false, if_true, List.length_cons]
      simp only [Bool.false_eq_true, if_false]
      omega
end Go.Proofs.Ytdgefdjgpneanac
