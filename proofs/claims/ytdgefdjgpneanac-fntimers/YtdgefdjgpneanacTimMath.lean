/- A timer that is armed, as mathematics: it fires once, not before its time, and not if it was cancelled. -/
import Derived.Test.YtdgefdjgpneanacAdvMath
import Derived.Test.YtdgefdjgpneanacImplArm
namespace Go.Proofs.Ytdgefdjgpneanac
open Go.ChangeShapes Go.WideShapes Go.ChangeAt Go.RowKit
set_option maxRecDepth 100000
set_option linter.unusedVariables false

theorem WOk.filter {now : Int} {xs : List (Int × Int)} (h : WOk now xs) (p : Int × Int → Bool) : WOk now (xs.filter p) := by
  obtain ⟨h1, h2, h3, h4, h5⟩ := h.all
  exact WAll.ok ⟨h1, Nat.le_trans (List.length_filter_le _ _) h2, fun x hx => h3 x (List.mem_filter.1 hx).1, h4.filter _, h5.filter _⟩
theorem wout_no {id : Int} {xs : List (Int × Int)} {x : Int × Int} (h : x ∈ withoutOf id xs) : x.1 ≠ id ∧ x ∈ xs := by
  obtain ⟨h1, h2⟩ := List.mem_filter.1 h
  exact ⟨by simpa using h2, h1⟩
/-- A wheel behind an Arm that was taken. -/
structure Armed (now id at' : Int) (A : List (Int × Int)) : Prop where
  ok : WOk now A
  lt : now < at'
  time : 0 ≤ at' ∧ at' ≤ 1000000000000000
  mem : (id, at') ∈ A
  only : ∀ x ∈ A, x.1 = id → x = (id, at')
  once : (dueOf at' A).count id = 1
theorem armed {now id at' : Int} {xs : List (Int × Int)} (hW : WOk now xs) (hA : armOk now id at' = true) (hF : (withoutOf id xs).length ≠ 200) : Armed now id at' (insOf (withoutOf id xs) (id, at')) := by
  obtain ⟨h1, h2, h3, h4, h5⟩ := hW.all
  have hA' := hA
  unfold armOk at hA'
  rw [Bool.and_eq_true, Bool.and_eq_true] at hA'
  obtain ⟨⟨hI, hT⟩, hN⟩ := hA'
  have hno : ∀ y ∈ withoutOf id xs, y.1 ≠ id := fun y hy => (wout_no hy).1
  have hperm := ins_perm (withoutOf id xs) (id, at')
  have hle := without_le id xs
  refine ⟨WAll.ok ⟨h1, by rw [ins_length]; omega, fun z hz => ?_, ins_order (h4.filter _) hno, ?_⟩, of_decide_eq_true hN, by simpa [timeB] using hT, ?_, fun x hx e => ?_, ?_⟩
  · rcases ins_mem hz with rfl | hz
    · unfold timB
      rw [hI, hT, hN]
      rfl
    · exact h3 z (wout_no hz).2
  · have hp : (withoutOf id xs ++ [(id, at')]).Pairwise (fun x y => x.1 ≠ y.1) := by
      rw [List.pairwise_append]
      refine ⟨h5.filter _, List.pairwise_singleton _ _, fun a ha b hb => ?_⟩
      rw [List.mem_singleton] at hb
      subst hb
      exact hno a ha
    exact (hperm.pairwise_iff (fun {x y} (h : x.1 ≠ y.1) => h.symm)).2 hp
  · exact hperm.mem_iff.2 (List.mem_append.2 (.inr (List.mem_singleton.2 rfl)))
  · rcases ins_mem hx with rfl | hx
    · rfl
    · exact absurd e (hno x hx)
  · have e : (dueOf at' (insOf (withoutOf id xs) (id, at'))).count id = (dueOf at' (withoutOf id xs ++ [(id, at')])).count id := by
      unfold dueOf
      exact ((hperm.filter _).map _).count_eq id
    rw [e]
    unfold dueOf
    rw [List.filter_append, List.map_append, List.count_append]
    have z : ((withoutOf id xs).filter (fun x => decide (x.2 ≤ at')) |>.map Prod.fst).count id = 0 := by
      rw [List.count_eq_zero]
      intro hm
      obtain ⟨x, hx, ex⟩ := List.mem_map.1 hm
      exact hno x (List.mem_filter.1 hx).1 ex
    rw [z]
    simp
section
variable {now id at' : Int} {A : List (Int × Int)}
theorem Armed.soon (h : Armed now id at' A) : id ∉ dueOf (at' - 1) A := by
  intro hm
  obtain ⟨x, hx, ex⟩ := List.mem_map.1 hm
  obtain ⟨h1, h2⟩ := List.mem_filter.1 hx
  have e := h.only x h1 ex
  subst e
  have : at' ≤ at' - 1 := by simpa using h2
  omega
theorem Armed.again (h : Armed now id at' A) (t : Int) : id ∉ dueOf t (restOf at' A) := by
  intro hm
  obtain ⟨x, hx, ex⟩ := List.mem_map.1 hm
  obtain ⟨h1, h2⟩ := List.mem_filter.1 hx
  obtain ⟨h3, h4⟩ := List.mem_filter.1 h1
  have e := h.only x h3 ex
  subst e
  simp at h4
theorem Armed.off (h : Armed now id at' A) (t : Int) : id ∉ dueOf t (withoutOf id A) := by
  intro hm
  obtain ⟨x, hx, ex⟩ := List.mem_map.1 hm
  exact (wout_no (List.mem_filter.1 hx).1).1 ex
theorem Armed.gone (h : Armed now id at' A) : (withoutOf id A).length < A.length := by
  unfold withoutOf
  rw [List.length_filter_lt_length_iff_exists]
  exact ⟨_, h.mem, by simp⟩
end
theorem count_next {ds : List Int} {id : Int} {k : Nat} (h : k < ds.length) : (ds.take (k + 1)).count id = (ds.take k).count id + (if ds[k] = id then 1 else 0) := by
  rw [List.take_succ_eq_append_getElem h, List.count_append]
  by_cases e : ds[k] = id
  · rw [if_pos e, e]; simp
  · rw [if_neg e]
    congr 1
    rw [List.count_eq_zero]
    intro hm
    exact e (List.mem_singleton.1 hm).symm
theorem not_at {ds : List Int} {id : Int} (h : id ∉ ds) (k : Nat) (hk : k < ds.length) : ds[k] ≠ id := fun e => h (e ▸ List.getElem_mem hk)
end Go.Proofs.Ytdgefdjgpneanac
