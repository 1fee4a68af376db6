/- What spec.Push answers where it says true. -/
import Derived.Test.YtiibafphgjlffapSpecPush2
import Derived.Deep.DeepCutAuto
namespace Go.Proofs.Ytiibafphgjlffap
open Go.ChangeShapes Go.WideShapes Go.ChangeAt Go.RowKit
set_option maxRecDepth 100000
set_option linter.unusedVariables false
set_option linter.unusedSimpArgs false

theorem size3' {w w' : World} {A B C : Obj} (h : Below (((w.alloc A).alloc B).alloc C).heap.size (((w.alloc A).alloc B).alloc C) w') : w.heap.size + 2 < w'.heap.size := by
  have := h.size
  simp at this
  omega
theorem undrew {w w' : World} (h : Below w.drew.heap.size w.drew w') : Below w.heap.size w w' := below_step (w := w) (by go_grown) h
/-- What is left of the items, and the sample behind it. -/
def comeOf (most : Bool) (xs : List (Int × Int)) (s : Int × Int) : List (Int × Int) := let L := xs.filter (keepB most s); if lastAt L = s.1 then L else L ++ [s]
/-- The old ones go, but for the last. -/
def youngOf (t : Int) : List (Int × Int) → List (Int × Int)
  | [] => []
  | [x] => [x]
  | x :: y :: ys => if x.1 < t then youngOf t (y :: ys) else x :: y :: ys
def pushOf (most : Bool) (xs : List (Int × Int)) (s : Int × Int) (win : Int) : List (Int × Int) := let D := youngOf (s.1 - win) (comeOf most xs s); if 100 < D.length then D.tail else D
/-- A new filter of these items. -/
def YesPost (w : World) (ys : List (Int × Int)) (e : Ending) (w' : World) : Prop := ∃ g cap, e = .returned (.tuple #[.agg #[.slice (some ⟨g, 0, none⟩) ys.length cap], .bool true]) ∧ w.heap.size ≤ g ∧ g < w'.heap.size ∧ Fill w' g ys.length ys ys.length ∧ ys.length ≤ cap ∧ Below w.heap.size w w'
theorem come_of {most : Bool} {xs L : List (Int × Int)} {s : Int × Int} (h : kept most s xs xs.length = L) : comeOf most xs s = if lastAt L = s.1 then L else L ++ [s] := by
  subst h
  unfold comeOf kept
  rw [List.take_length]
theorem lastAt_get {L : List (Int × Int)} {j : Nat} (h : L.length = j + 1) (hj : j < L.length) : lastAt L = L[j].1 := by
  unfold lastAt
  rw [List.getLast?_eq_getElem?, h, Nat.add_sub_cancel, List.getElem?_eq_getElem hj]
theorem last_nil {L : List (Int × Int)} {p q : Int} (hn : ¬ 0 < L.length) (hs : smpB (p, q) = true) : decide (lastAt L = p) = false := by
  obtain rfl : L = [] := List.eq_nil_of_length_eq_zero (by omega)
  have : 0 ≤ p := by
    have h1 : (timeB p && rateB q) = true := hs
    rw [Bool.and_eq_true] at h1
    exact (time_num h1.1).1
  exact decide_eq_false (by unfold lastAt; simp only [List.getLast?_nil]; omega)
theorem last_cons {L : List (Int × Int)} {p r : Int} {j : Nat} (hl : L.length = j + 1) (hj : j < L.length) (he : L[j].1 = r) : decide (lastAt L = p) = (r == p) := by
  rw [lastAt_get hl hj, he]
  rfl
/-- Where the sample has come. -/
def ComePost (w4 : World) (M : List (Int × Int)) (v : Value) (wd : World) : Prop := ∃ g cap', v = .slice (some ⟨g, 0, none⟩) M.length cap' ∧ w4.heap.size ≤ g ∧ g < wd.heap.size ∧ Fill wd g M.length M M.length ∧ M.length ≤ cap' ∧ Below w4.heap.size w4 wd
theorem come_own {w4 w5 : World} {L : List (Int × Int)} {p q : Int} {v : Value} (h : w5.ownsRow w4.heap.size 88 2 v (L.length + 1) (flat L ++ [.int .i64 p, .int .i64 q])) (hn : v ≠ .slice none 0 0) (hb : Below w4.heap.size w4 w5) : ComePost w4 (L ++ [(p, q)]) v w5 := by
  obtain ⟨g, cap, rfl, h1, h2, h3, h4⟩ := own_fill (xs := L ++ [(p, q)]) (by rw [flat_append, List.length_append]; exact h) hn
  exact ⟨g, cap, rfl, h1, h2, h3, h4, hb⟩
theorem come_le {most : Bool} {xs : List (Int × Int)} {s : Int × Int} : (comeOf most xs s).length ≤ xs.length + 1 := by
  unfold comeOf
  have := List.length_filter_le (keepB most s) xs
  dsimp only
  split
  · omega
  · rw [List.length_append]; simp; omega
theorem come_pos {most : Bool} {xs : List (Int × Int)} {p q : Int} (hs : smpB (p, q) = true) : 0 < (comeOf most xs (p, q)).length := by
  unfold comeOf
  dsimp only
  split
  · rename_i h
    refine Nat.pos_of_ne_zero fun e => ?_
    have := last_nil (L := xs.filter (keepB most (p, q))) (by omega) hs
    rw [decide_eq_true h] at this
    cases this
  · rw [List.length_append]; simp
def oldB (t : Int) : List (Int × Int) → Bool
  | x :: _ :: _ => decide (x.1 < t)
  | _ => false
theorem young_old {t : Int} {l : List (Int × Int)} (h : oldB t l = true) : youngOf t l = youngOf t l.tail := by
  match l, h with
  | x :: y :: ys, h =>
    have hx : x.1 < t := of_decide_eq_true h
    show (if x.1 < t then youngOf t (y :: ys) else x :: y :: ys) = _
    rw [if_pos hx]
    rfl
theorem young_stay {t : Int} {l : List (Int × Int)} (h : oldB t l = false) : youngOf t l = l := by
  match l, h with
  | [], _ => rfl
  | [x], _ => rfl
  | x :: y :: ys, h =>
    have hx : ¬ x.1 < t := of_decide_eq_false h
    show (if x.1 < t then youngOf t (y :: ys) else x :: y :: ys) = _
    rw [if_neg hx]
theorem old_one {t : Int} {l : List (Int × Int)} {d : Nat} (h : d + 1 = l.length) : oldB t (l.drop d) = false := by
  have : (l.drop d).length = 1 := by rw [List.length_drop]; omega
  match l.drop d, this with
  | [x], _ => rfl
theorem old_more {t r : Int} {l : List (Int × Int)} {d m : Nat} (h : d + (m + 1 + 1) = l.length) (hd : d < l.length) (hr : l[d].1 = r) : oldB t (l.drop d) = decide (r < t) := by
  have e : l.drop d = l[d] :: l.drop (d + 1) := List.drop_eq_getElem_cons hd
  have : (l.drop (d + 1)).length = m + 1 := by rw [List.length_drop]; omega
  rw [e]
  match l.drop (d + 1), this with
  | y :: ys, _ => show decide (l[d].1 < t) = _; rw [hr]
theorem fill_news {w : World} {g n : Nat} {M : List (Int × Int)} (f : Fill w g n M M.length) (d : Nat) : ∀ j v, (flat (M.drop d))[j]? = some v → w.cell? ((⟨g, d * 2, none⟩ : Addr).add j) = some v := by
  intro j v hv
  have hj : j < (flat (M.drop d)).length := (List.getElem?_eq_some_iff.1 hv).1
  rw [flat_length, List.length_drop] at hj
  have e : (⟨g, d * 2, none⟩ : Addr).add j = ⟨g, d * 2 + j, none⟩ := by unfold Addr.add; split <;> simp_all
  rw [e]
  have hi : j / 2 < (M.drop d).length := by rw [List.length_drop]; omega
  obtain ⟨h0, h1⟩ := flat_get (M.drop d) (j / 2) hi
  have hM : d + j / 2 < M.length := by omega
  obtain ⟨c0, c1⟩ := f.got (d + j / 2) hM hM
  rw [List.getElem_drop] at h0 h1
  rcases Nat.mod_two_eq_zero_or_one j with h | h
  · rw [show j / 2 * 2 = j by omega, hv] at h0
    rw [h0, show d * 2 + j = (d + j / 2) * 2 by omega]
    exact c0
  · rw [show j / 2 * 2 + 1 = j by omega, hv] at h1
    rw [h1, show d * 2 + j = (d + j / 2) * 2 + 1 by omega]
    exact c1
theorem push_big {most : Bool} {xs M : List (Int × Int)} {p q win : Int} {d n : Nat} (hM : comeOf most xs (p, q) = M) (hy : youngOf (p - win) (M.drop d) = youngOf (p - win) M) (ho : oldB (p - win) (M.drop d) = false) (hd : d + (n + 1) = M.length) (hn : 100 < n + 1) : pushOf most xs (p, q) win = M.drop (d + 1) := by
  unfold pushOf
  dsimp only
  rw [hM, ← hy, young_stay ho, if_pos (by rw [List.length_drop]; omega), List.tail_drop]
theorem push_small {most : Bool} {xs M : List (Int × Int)} {p q win : Int} {d n : Nat} (hM : comeOf most xs (p, q) = M) (hy : youngOf (p - win) (M.drop d) = youngOf (p - win) M) (ho : oldB (p - win) (M.drop d) = false) (hd : d + (n + 1) = M.length) (hn : ¬ 100 < n + 1) : pushOf most xs (p, q) win = M.drop d := by
  unfold pushOf
  dsimp only
  rw [hM, ← hy, young_stay ho, if_neg (by rw [List.length_drop]; omega)]
theorem young_next {t : Int} {M : List (Int × Int)} {d : Nat} (ho : oldB t (M.drop d) = true) (hy : youngOf t (M.drop d) = youngOf t M) : youngOf t (M.drop (d + 1)) = youngOf t M := by
  rw [← hy, young_old ho, List.tail_drop]
/-- Behind the cut at MaxItems. -/
def CutPost (w' : World) (M N : List (Int × Int)) (g : Nat) (v : Value) (wd : World) : Prop := ∃ d c, v = .slice (some ⟨g, d * 2, none⟩) N.length c ∧ N = M.drop d ∧ wd = w'
theorem own_empty (w : World) (t : TypeId) : (w.alloc (.cells #[] t)).ownsRow w.heap.size t 2 (.slice (some ⟨w.heap.size, 0, none⟩) 0 0) 0 [] :=
  ⟨rfl, .inr ⟨w.heap.size, 0, #[], rfl, Nat.le_refl _, heap_alloc_new _ _, Nat.le_refl _, by unfold maxLen; omega, rfl, rfl⟩⟩
end Go.Proofs.Ytiibafphgjlffap
