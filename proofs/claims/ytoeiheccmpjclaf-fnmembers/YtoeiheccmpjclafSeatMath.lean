/- Rows of seats and the members that they hold. -/
import Derived.Test.YtoeiheccmpjclafSeat
namespace Go.Proofs.Ytoeiheccmpjclaf
open Go.ChangeShapes Go.WideShapes Go.ChangeAt Go.RowKit
set_option maxRecDepth 100000
set_option linter.unusedVariables false
set_option linter.unusedSimpArgs false

/-- Members in their seats. -/
def seatsR (xs : List Int) : List (Int × Bool) := xs.map (fun x => (x, true)) ++ List.replicate (50 - xs.length) (0, false)
theorem seatsR_len {xs : List Int} (h : xs.length ≤ 50) : (seatsR xs).length = 50 := by
  unfold seatsR
  rw [List.length_append, List.length_map, List.length_replicate]
  omega
theorem seatsR_nil : seatsR [] = List.replicate 50 (0, false) := rfl
theorem seatsR_in {xs : List Int} {i : Nat} (h : i < xs.length) (h' : i < (seatsR xs).length) : (seatsR xs)[i] = (xs[i], true) := by
  have e : (seatsR xs)[i]? = some (xs[i], true) := by
    unfold seatsR
    rw [List.getElem?_append_left (by rw [List.length_map]; exact h), List.getElem?_map, List.getElem?_eq_getElem h]
    rfl
  rw [List.getElem?_eq_getElem h'] at e
  exact Option.some.inj e
theorem seatsR_out {xs : List Int} {i : Nat} (h : xs.length ≤ i) (h' : i < (seatsR xs).length) : (seatsR xs)[i] = (0, false) := by
  have hl : i < 50 ∨ 50 ≤ i := by omega
  have e : (seatsR xs)[i]? = some (0, false) := by
    have h2 := h'
    unfold seatsR at h2 ⊢
    rw [List.length_append, List.length_map, List.length_replicate] at h2
    rw [List.getElem?_append_right (by rw [List.length_map]; exact h), List.length_map, List.getElem?_replicate, if_pos (by omega)]
  rw [List.getElem?_eq_getElem h'] at e
  exact Option.some.inj e
def memb (ps : List (Int × Bool)) : List Int := (ps.filter (·.2)).map (·.1)
theorem memb_seats (xs : List Int) : memb (seatsR xs) = xs := by
  unfold memb seatsR
  rw [List.filter_append, List.map_append]
  have h1 : (xs.map fun x => (x, true)).filter (·.2) = xs.map fun x => (x, true) := List.filter_eq_self.2 (fun p hp => by obtain ⟨x, _, rfl⟩ := List.mem_map.1 hp; rfl)
  have h2 : (List.replicate (50 - xs.length) ((0 : Int), false)).filter (·.2) = [] := List.filter_eq_nil_iff.2 (fun p hp => by rw [List.eq_of_mem_replicate hp]; decide)
  rw [h1, h2, List.map_map, List.map_nil, List.append_nil]
  exact List.map_id' xs
theorem seatsR_inj {xs ys : List Int} (h : seatsR xs = seatsR ys) : xs = ys := by rw [← memb_seats xs, h, memb_seats]
theorem seatsR_push {ys : List Int} {y : Int} (h : ys.length < 50) : (seatsR ys).set ys.length (y, true) = seatsR (ys ++ [y]) := by
  unfold seatsR
  obtain ⟨m, hm⟩ : ∃ m, 50 - ys.length = m + 1 := ⟨50 - ys.length - 1, by omega⟩
  rw [hm, List.length_append, List.length_singleton, show 50 - (ys.length + 1) = m by omega, List.map_append, List.replicate_succ, List.set_append_right _ _ (by rw [List.length_map]; exact Nat.le_refl _), List.length_map, Nat.sub_self, List.set_cons_zero, List.append_assoc]
  rfl
theorem seatsR_ins {xs : List Int} {k : Nat} {id : Int} (hk : k ≤ xs.length) (h : xs.length < 50) : (splice (seatsR xs) (k + 1) (((seatsR xs).drop k).take (49 - k))).set k (id, true) = seatsR (xs.take k ++ [id] ++ xs.drop k) := by
  have hl := seatsR_len (xs := xs) (by omega)
  have htl : (((seatsR xs).drop k).take (49 - k)).length = 49 - k := by rw [List.length_take, List.length_drop, hl]; omega
  have hdn : (seatsR xs).drop (k + 1 + (49 - k)) = [] := List.drop_eq_nil_of_le (by rw [hl]; omega)
  unfold splice
  rw [htl, hdn, List.append_nil, List.set_append_left _ _ (by rw [List.length_take, hl]; omega), List.take_succ_eq_append_getElem (by rw [hl]; omega), List.set_append_right _ _ (by rw [List.length_take]; omega)]
  have e0 : k - ((seatsR xs).take k).length = 0 := by rw [List.length_take, hl]; omega
  rw [e0, List.set_cons_zero]
  have ht : (seatsR xs).take k = (xs.take k).map fun x => (x, true) := by
    unfold seatsR
    rw [List.take_append_of_le_length (by rw [List.length_map]; exact hk), List.map_take]
  have hd : (seatsR xs).drop k = (xs.drop k).map (fun x => (x, true)) ++ List.replicate (50 - xs.length) (0, false) := by
    unfold seatsR
    rw [List.drop_append_of_le_length (by rw [List.length_map]; exact hk), List.map_drop]
  obtain ⟨m, hm⟩ : ∃ m, 50 - xs.length = m + 1 := ⟨50 - xs.length - 1, by omega⟩
  have hdt : ((seatsR xs).drop k).take (49 - k) = (xs.drop k).map (fun x => (x, true)) ++ List.replicate m (0, false) := by
    rw [hd, hm, List.replicate_succ', ← List.append_assoc, List.take_append_of_le_length (by rw [List.length_append, List.length_map, List.length_drop, List.length_replicate]; omega), List.take_of_length_le (by rw [List.length_append, List.length_map, List.length_drop, List.length_replicate]; omega)]
  rw [ht, hdt]
  unfold seatsR
  rw [show 50 - (xs.take k ++ [id] ++ xs.drop k).length = m by rw [List.length_append, List.length_append, List.length_take, List.length_drop, List.length_singleton]; omega]
  simp only [List.map_append, List.map_cons, List.map_nil, List.append_assoc, List.cons_append, List.nil_append]
theorem seatsR_del {xs : List Int} {k : Nat} (hk : k < xs.length) (h : xs.length ≤ 50) : (splice (seatsR xs) k (((seatsR xs).drop (k + 1)).take (49 - k))).set 49 (0, false) = seatsR (xs.take k ++ xs.drop (k + 1)) := by
  have hl := seatsR_len (xs := xs) h
  have htk : ((seatsR xs).drop (k + 1)).take (49 - k) = (seatsR xs).drop (k + 1) := List.take_of_length_le (by rw [List.length_drop, hl]; omega)
  have hdl : ((seatsR xs).drop (k + 1)).length = 49 - k := by rw [List.length_drop, hl]; omega
  rw [htk]
  unfold splice
  rw [hdl, show k + (49 - k) = 49 by omega]
  have e49 : (seatsR xs).drop 49 = [(seatsR xs)[49]'(by rw [hl]; omega)] := by
    rw [List.drop_eq_getElem_cons (by rw [hl]; omega), List.drop_eq_nil_of_le (by rw [hl]; omega)]
  rw [e49, ← List.append_assoc, List.set_append_right _ _ (by rw [List.length_append, List.length_take, hdl, hl]; omega)]
  rw [show 49 - ((seatsR xs).take k ++ (seatsR xs).drop (k + 1)).length = 0 by rw [List.length_append, List.length_take, hdl, hl]; omega, List.set_cons_zero]
  have ht : (seatsR xs).take k = (xs.take k).map fun x => (x, true) := by
    unfold seatsR
    rw [List.take_append_of_le_length (by rw [List.length_map]; omega), List.map_take]
  have hd : (seatsR xs).drop (k + 1) = (xs.drop (k + 1)).map (fun x => (x, true)) ++ List.replicate (50 - xs.length) (0, false) := by
    unfold seatsR
    rw [List.drop_append_of_le_length (by rw [List.length_map]; omega), List.map_drop]
  rw [ht, hd]
  unfold seatsR
  rw [show 50 - (xs.take k ++ xs.drop (k + 1)).length = (50 - xs.length) + 1 by rw [List.length_append, List.length_take, List.length_drop]; omega, List.replicate_succ']
  simp only [List.map_append, List.append_assoc]
theorem mem_lt {xs : List Int} (h : MemTo xs xs.length) : ∀ (d i : Nat) (hi : i + d + 1 < xs.length), xs[i] < xs[i + d + 1]
  | 0, i, hi => (h (i + 1) hi hi).2 i (by omega) rfl
  | d + 1, i, hi => by
    have h1 := mem_lt h d i (by omega)
    have h2 := (h (i + d + 1 + 1) (by omega) (by omega)).2 (i + d + 1) (by omega) rfl
    exact Int.lt_trans h1 h2
theorem mem_less {xs : List Int} (h : MemTo xs xs.length) {i j : Nat} (hij : i < j) (hj : j < xs.length) : xs[i] < xs[j] := by
  have := mem_lt h (j - i - 1) i (by omega)
  rw [show xs[i + (j - i - 1) + 1]'(by omega) = xs[j] by congr 1; omega] at this
  exact this
/-- Whom a search for a seat meets first. -/
def pB (id : Int) (p : Int × Bool) : Bool := !p.2 || decide (id ≤ p.1)
theorem find_seat {xs : List Int} {id : Int} {k : Nat} (hl : xs.length ≤ 50) (hk : k < (seatsR xs).length) (h1 : pB id (seatsR xs)[k] = true) (h2 : ∀ m (hm : m < (seatsR xs).length), m < k → pB id (seatsR xs)[m] = false) : k ≤ xs.length ∧ (∀ j (hj : j < xs.length), j < k → xs[j] < id) ∧ (∀ (h : k < xs.length), id ≤ xs[k]) := by
  have hlen := seatsR_len hl
  have hkl : k ≤ xs.length := by
    rcases Nat.lt_or_ge xs.length k with h | h
    · have := h2 xs.length (by omega) h
      rw [seatsR_out (Nat.le_refl _)] at this
      cases this
    · exact h
  refine ⟨hkl, fun j hj hjk => ?_, fun h => ?_⟩
  · have := h2 j (by omega) hjk
    rw [seatsR_in hj] at this
    simp [pB] at this
    exact this
  · rw [seatsR_in h] at h1
    simp [pB] at h1
    exact h1
theorem find_has {xs : List Int} {id : Int} {k : Nat} (hM : MemTo xs xs.length) (h1 : ∀ j (hj : j < xs.length), j < k → xs[j] < id) (h2 : ∀ (h : k < xs.length), id ≤ xs[k]) : (hasI id xs = true ↔ ∃ h : k < xs.length, xs[k] = id) := by
  constructor
  · intro h
    obtain ⟨j, hj, e⟩ := List.mem_iff_getElem.1 (of_decide_eq_true h)
    have hkj : k ≤ j := by
      rcases Nat.lt_or_ge j k with h' | h'
      · have := h1 j hj h'
        omega
      · exact h'
    refine ⟨by omega, ?_⟩
    have ha := h2 (by omega)
    rcases Nat.lt_or_ge k j with h' | h'
    · have := mem_less hM h' hj
      omega
    · obtain rfl : k = j := by omega
      exact e
  · rintro ⟨h, e⟩
    exact decide_eq_true (by rw [← e]; exact List.getElem_mem h)
theorem delI_at {xs : List Int} {id : Int} {k : Nat} (hM : MemTo xs xs.length) (hk : k < xs.length) (he : xs[k] = id) : delI xs id = xs.take k ++ xs.drop (k + 1) := by
  have hx : xs = xs.take k ++ (id :: xs.drop (k + 1)) := by
    rw [← he, ← List.drop_eq_getElem_cons hk, List.take_append_drop]
  have h1 : (xs.take k).filter (fun y => !decide (y = id)) = xs.take k := List.filter_eq_self.2 (fun y hy => by
    obtain ⟨j, hj, e⟩ := List.mem_iff_getElem.1 hy
    rw [List.length_take] at hj
    rw [List.getElem_take] at e
    have := mem_less hM (show j < k by omega) hk
    simp
    omega)
  have h2 : (xs.drop (k + 1)).filter (fun y => !decide (y = id)) = xs.drop (k + 1) := List.filter_eq_self.2 (fun y hy => by
    obtain ⟨j, hj, e⟩ := List.mem_iff_getElem.1 hy
    rw [List.length_drop] at hj
    rw [List.getElem_drop] at e
    have := mem_less hM (show k < k + 1 + j by omega) (by omega)
    simp
    omega)
  unfold delI
  conv => lhs; rw [hx]
  rw [List.filter_append, List.filter_cons, h1, h2]
  simp
end Go.Proofs.Ytoeiheccmpjclaf
