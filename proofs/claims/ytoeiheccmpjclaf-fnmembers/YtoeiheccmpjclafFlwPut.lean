/- A flow is stored: behind those that lie there, or over one of them. -/
import Derived.Test.YtoeiheccmpjclafFlw
namespace Go.Proofs.Ytoeiheccmpjclaf
open Go.ChangeShapes Go.WideShapes Go.ChangeAt Go.RowKit
set_option maxRecDepth 100000
set_option linter.unusedVariables false

/-- Three cells are stored over. -/
def put3 (w : World) (g o : Nat) (a b c : Value) : World := ((w.setCell ⟨g, o, none⟩ a).setCell ⟨g, o + 1, none⟩ b).setCell ⟨g, o + 2, none⟩ c
theorem put3_other {w : World} {g o j : Nat} {a b c : Value} (h : j < o ∨ o + 2 < j) : (put3 w g o a b c).cell? ⟨g, j, none⟩ = w.cell? ⟨g, j, none⟩ :=
  (set_other (by omega)).trans ((set_other (by omega)).trans (set_other (by omega)))
theorem put3_same {w : World} {g o : Nat} (a b c : Value) {z0 z1 z2 : Value} (h0 : w.cell? ⟨g, o, none⟩ = some z0) (h1 : w.cell? ⟨g, o + 1, none⟩ = some z1) (h2 : w.cell? ⟨g, o + 2, none⟩ = some z2) :
    (put3 w g o a b c).cell? ⟨g, o, none⟩ = some a ∧ (put3 w g o a b c).cell? ⟨g, o + 1, none⟩ = some b ∧ (put3 w g o a b c).cell? ⟨g, o + 2, none⟩ = some c :=
  ⟨(set_other (by omega)).trans ((set_other (by omega)).trans (set_same _ h0)),
   (set_other (by omega)).trans (set_same _ ((set_other (by omega)).trans h1)),
   set_same _ ((set_other (by omega)).trans ((set_other (by omega)).trans h2))⟩
theorem put3_frozen {w : World} {g o : Nat} (a b c : Value) (p : Addr) : (put3 w g o a b c).frozen? p = w.frozen? p := by unfold put3; simp
theorem put3_size {w : World} {g o : Nat} {a b c : Value} : (put3 w g o a b c).heap.size = w.heap.size := by unfold put3; simp
theorem put3_block {w : World} {g o : Nat} {a b c : Value} {k : Nat} (h : k ≠ g) : (put3 w g o a b c).heap[k]? = w.heap[k]? := by
  unfold put3
  rw [Below.heap_setCell _ _ _ _ (by exact h), Below.heap_setCell _ _ _ _ (by exact h), Below.heap_setCell _ _ _ _ (by exact h)]
theorem put3_only {lo hi : Nat} {w w0 : World} {g o : Nat} {a b c : Value} (h : OnlyI lo hi w0 w) (h1 : lo ≤ g) (h2 : g < hi) : OnlyI lo hi w0 (put3 w g o a b c) := ((h.setCell h1 h2 _).setCell h1 h2 _).setCell h1 h2 _
theorem put3_below {B : Nat} {w w0 : World} {g o : Nat} {a b c : Value} (h : Below B w0 w) (hg : B ≤ g) : Below B w0 (put3 w g o a b c) := ((h.setCell (by exact hg) _).setCell (by exact hg) _).setCell (by exact hg) _
/-- One more flow behind the others; its list is new. -/
theorem FO.push {w : World} {lo hi g n k : Nat} {vs : List Value} {fs : List F8} (f : FO w lo hi g n vs fs) (ek : k = fs.length) (hk : k < n) (q d : Int) {v : Value} {xs : List Int} (hv : IO w lo w.heap.size v xs) (hn : ∀ b, elB v = some b → hi ≤ b) :
    FO (put3 w g (k * 3) (.int .i64 q) (.int .i64 d) v) lo w.heap.size g n (vs ++ [v]) (fs ++ [(q, d, xs)]) := by
  subst ek
  obtain ⟨⟨z0, h0⟩, _⟩ := f.any (fs.length * 3) (by omega)
  obtain ⟨⟨z1, h1⟩, _⟩ := f.any (fs.length * 3 + 1) (by omega)
  obtain ⟨⟨z2, h2⟩, _⟩ := f.any (fs.length * 3 + 2) (by omega)
  obtain ⟨s0, s1, s2⟩ := put3_same (.int .i64 q) (.int .i64 d) v h0 h1 h2
  have g1 := f.g1
  have tp := f.top
  have el : ∀ i (h' : i < vs.length) b, elB vs[i] = some b → b < hi := fun i h' b e => ((f.own i (by rw [← f.len]; exact h') h').el e).2.1
  have at1 : ∀ i (h : i < (vs ++ [v]).length), (∃ h' : i < vs.length, (vs ++ [v])[i] = vs[i]) ∨ (i = fs.length ∧ (vs ++ [v])[i] = v) := fun i h => by
    by_cases e : i < vs.length
    · exact .inl ⟨e, List.getElem_append_left e⟩
    · have e2 : i = vs.length := by simp at h; omega
      refine .inr ⟨e2.trans f.len, ?_⟩
      subst e2
      simp
  refine ⟨f.g0, by omega, by rw [put3_size]; exact Nat.le_refl _, by simp [f.len], by simp; omega, fun j hj => ⟨?_, (put3_frozen _ _ _ _).trans (f.any j hj).2⟩, fun i hi' h' => ?_, fun i hi' h' => ?_, fun i h' => ?_, fun i j hi' hj' hne b e => ?_⟩
  · by_cases e0 : j = fs.length * 3
    · subst e0; exact ⟨_, s0⟩
    · by_cases e1 : j = fs.length * 3 + 1
      · subst e1; exact ⟨_, s1⟩
      · by_cases e2 : j = fs.length * 3 + 2
        · subst e2; exact ⟨_, s2⟩
        · obtain ⟨z, hz⟩ := (f.any j hj).1
          exact ⟨z, (put3_other (by omega)).trans hz⟩
  · rcases at1 i h' with ⟨k, e⟩ | ⟨k, e⟩
    · have k' : i < fs.length := by rw [← f.len]; exact k
      rw [e, List.getElem_append_left k']
      obtain ⟨c0, c1, c2⟩ := f.got i k' k
      exact ⟨(put3_other (by omega)).trans c0, (put3_other (by omega)).trans c1, (put3_other (by omega)).trans c2⟩
    · rw [e]
      subst k
      simp only [List.getElem_append_right (Nat.le_refl _), Nat.sub_self, List.getElem_cons_zero]
      exact ⟨s0, s1, s2⟩
  · rcases at1 i h' with ⟨k, e⟩ | ⟨k, e⟩
    · have k' : i < fs.length := by rw [← f.len]; exact k
      rw [e, List.getElem_append_left k']
      exact ((f.own i k' k).wider (Nat.le_refl _) tp).same (by rw [put3_size]; exact Nat.le_refl _) (fun b eb => put3_block (fun e' => f.far i k (by rw [eb, e'])))
    · rw [e]
      subst k
      simp only [List.getElem_append_right (Nat.le_refl _), Nat.sub_self, List.getElem_cons_zero]
      exact hv.same (by rw [put3_size]; exact Nat.le_refl _) (fun b eb => put3_block (by have := hn b eb; omega))
  · rcases at1 i h' with ⟨k, e⟩ | ⟨k, e⟩
    · rw [e]; exact f.far i k
    · rw [e]; intro e'; have := hn g e'; omega
  · rcases at1 i hi' with ⟨k, e1⟩ | ⟨k, e1⟩
    · rw [e1] at e
      rcases at1 j hj' with ⟨k2, e2⟩ | ⟨k2, e2⟩
      · rw [e2]; exact f.apart i j k k2 hne b e
      · rw [e2]; intro e'; have := hn b e'; have := el i k b e; omega
    · rw [e1] at e
      rcases at1 j hj' with ⟨k2, e2⟩ | ⟨k2, e2⟩
      · rw [e2]; intro e'; have := hn b e; have := el j k2 b e'; omega
      · omega
/-- A flow is another behind it: its three cells, and what its list has; whatever else it has stays. -/
theorem FO.turn {w w' : World} {lo hi g n i : Nat} {vs : List Value} {fs : List F8} (f : FO w lo hi g n vs fs) (hi' : i < fs.length) (hv : i < vs.length) {q d : Int} {v : Value} {xs : List Int} (hs : w.heap.size ≤ w'.heap.size)
    (hb : ∀ b, lo ≤ b → b < hi → b ≠ g → elB vs[i] ≠ some b → w'.heap[b]? = w.heap[b]?) (hc : ∀ j, j < i * 3 ∨ i * 3 + 2 < j → w'.cell? ⟨g, j, none⟩ = w.cell? ⟨g, j, none⟩) (hf : ∀ j, w'.frozen? ⟨g, j, none⟩ = w.frozen? ⟨g, j, none⟩)
    (c0 : w'.cell? ⟨g, i * 3, none⟩ = some (.int .i64 q)) (c1 : w'.cell? ⟨g, i * 3 + 1, none⟩ = some (.int .i64 d)) (c2 : w'.cell? ⟨g, i * 3 + 2, none⟩ = some v) (ho : IO w' lo hi v xs) (he : ∀ b, elB v = some b → elB vs[i] = some b) :
    FO w' lo hi g n (vs.set i v) (fs.set i (q, d, xs)) := by
  have le := f.le
  refine ⟨f.g0, f.g1, Nat.le_trans f.top hs, by simp [f.len], by simp [f.le], fun j hj => ⟨?_, (hf j).trans (f.any j hj).2⟩, fun k hk hk' => ?_, fun k hk hk' => ?_, fun k hk => ?_, fun k j hk hj hne b e => ?_⟩
  · by_cases e0 : j = i * 3
    · subst e0; exact ⟨_, c0⟩
    · by_cases e1 : j = i * 3 + 1
      · subst e1; exact ⟨_, c1⟩
      · by_cases e2 : j = i * 3 + 2
        · subst e2; exact ⟨_, c2⟩
        · obtain ⟨z, hz⟩ := (f.any j hj).1
          exact ⟨z, (hc j (by omega)).trans hz⟩
  · rw [List.getElem_set, List.getElem_set]
    by_cases e : i = k
    · subst e
      rw [if_pos rfl, if_pos rfl]
      exact ⟨c0, c1, c2⟩
    · rw [if_neg e, if_neg e]
      obtain ⟨k0, k1, k2⟩ := f.got k (by simpa using hk) (by simpa using hk')
      exact ⟨(hc _ (by omega)).trans k0, (hc _ (by omega)).trans k1, (hc _ (by omega)).trans k2⟩
  · rw [List.getElem_set, List.getElem_set]
    by_cases e : i = k
    · subst e
      rw [if_pos rfl, if_pos rfl]
      exact ho
    · rw [if_neg e, if_neg e]
      have kv : k < vs.length := by simpa using hk'
      have o := f.own k (by simpa using hk) kv
      exact o.same hs (fun b eb => hb b (o.el eb).1 (o.el eb).2.1 (fun e' => f.far k kv (by rw [eb, e'])) (fun e' => f.apart i k hv kv e b e' eb))
  · rw [List.getElem_set]
    by_cases e : i = k
    · rw [if_pos e]
      intro e'
      exact f.far i hv (he g e')
    · rw [if_neg e]
      exact f.far k (by simpa using hk)
  · rw [List.getElem_set] at e ⊢
    by_cases e1 : i = k
    · subst e1
      rw [if_pos rfl] at e
      rw [if_neg hne]
      exact f.apart i j hv (by simpa using hj) hne b (he b e)
    · rw [if_neg e1] at e
      by_cases e2 : i = j
      · rw [if_pos e2]
        intro e'
        exact f.apart k i (by simpa using hk) hv (by omega) b e (he b e')
      · rw [if_neg e2]
        exact f.apart k j (by simpa using hk) (by simpa using hj) hne b e
end Go.Proofs.Ytoeiheccmpjclaf
