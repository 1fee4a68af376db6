/- Flows of one's own, each list a row of its own. -/
import Derived.Test.YtdgefdjgpneanadFlwRow
namespace Go.Proofs.Ytdgefdjgpneanad
open Go.ChangeShapes Go.WideShapes Go.ChangeAt Go.RowKit
set_option maxRecDepth 100000
set_option linter.unusedVariables false
set_option linter.unusedSimpArgs false

theorem FO.more {w w' : World} {lo hi g n k : Nat} {vs : List Value} {fs : List F8} (f : FO w lo hi g n vs fs) (ek : k = fs.length) (hk : k < n) {q d : Int} {v : Value} {xs : List Int} (hs : hi ≤ w'.heap.size)
    (hb : ∀ b, lo ≤ b → b < hi → b ≠ g → w'.heap[b]? = w.heap[b]?) (hc : ∀ j, j < k * 3 → w'.cell? ⟨g, j, none⟩ = w.cell? ⟨g, j, none⟩) (ha : ∀ j, j < n * 3 → ∃ z, w'.cell? ⟨g, j, none⟩ = some z) (hf : ∀ j, w'.frozen? ⟨g, j, none⟩ = w.frozen? ⟨g, j, none⟩)
    (c0 : w'.cell? ⟨g, k * 3, none⟩ = some (.int .i64 q)) (c1 : w'.cell? ⟨g, k * 3 + 1, none⟩ = some (.int .i64 d)) (c2 : w'.cell? ⟨g, k * 3 + 2, none⟩ = some v) (hz : w.heap.size ≤ w'.heap.size) (ho : IO w' lo w'.heap.size v xs) (hn : ∀ b, elB v = some b → hi ≤ b) :
    FO w' lo w'.heap.size g n (vs ++ [v]) (fs ++ [(q, d, xs)]) := by
  subst ek
  have g1 := f.g1
  have el : ∀ i (h' : i < vs.length) b, elB vs[i] = some b → b < hi := fun i h' b e => ((f.own i (by rw [← f.len]; exact h') h').el e).2.1
  have at1 : ∀ i (h : i < (vs ++ [v]).length), (∃ h' : i < vs.length, (vs ++ [v])[i] = vs[i]) ∨ (i = fs.length ∧ (vs ++ [v])[i] = v) := fun i h => by
    by_cases e : i < vs.length
    · exact .inl ⟨e, List.getElem_append_left e⟩
    · have e2 : i = vs.length := by simp at h; omega
      refine .inr ⟨e2.trans f.len, ?_⟩
      subst e2
      simp
  refine ⟨f.g0, by omega, Nat.le_refl _, by simp [f.len], by simp; omega, fun j hj => ⟨ha j hj, (hf j).trans (f.any j hj).2⟩, fun i hi' h' => ?_, fun i hi' h' => ?_, fun i h' => ?_, fun i j hi' hj' hne b e => ?_⟩
  · rcases at1 i h' with ⟨k, e⟩ | ⟨k, e⟩
    · have k' : i < fs.length := by rw [← f.len]; exact k
      rw [e, List.getElem_append_left k']
      obtain ⟨e0, e1, e2⟩ := f.got i k' k
      exact ⟨(hc _ (by omega)).trans e0, (hc _ (by omega)).trans e1, (hc _ (by omega)).trans e2⟩
    · rw [e]
      subst k
      simp only [List.getElem_append_right (Nat.le_refl _), Nat.sub_self, List.getElem_cons_zero]
      exact ⟨c0, c1, c2⟩
  · rcases at1 i h' with ⟨k, e⟩ | ⟨k, e⟩
    · have k' : i < fs.length := by rw [← f.len]; exact k
      rw [e, List.getElem_append_left k']
      have o := f.own i k' k
      exact (o.wider (Nat.le_refl _) hs).same hz (fun b eb => hb b (o.el eb).1 (o.el eb).2.1 (fun e' => f.far i k (by rw [eb, e'])))
    · rw [e]
      subst k
      simp only [List.getElem_append_right (Nat.le_refl _), Nat.sub_self, List.getElem_cons_zero]
      exact ho
  · rcases at1 i h' with ⟨k, e⟩ | ⟨k, e⟩
    · rw [e]; exact f.far i k
    · rw [e]; intro e'; have := hn g e'; omega
  · rcases at1 i hi' with ⟨k, e1⟩ | ⟨k, e1⟩
    · rw [e1] at e
      rcases at1 j hj' with ⟨k2, e2⟩ | ⟨k2, e2⟩
      · rw [e2]; exact f.apart i j k k2 hne b e
      · rw [e2]; intro e'; have := hn b e'; have := el i k b e; omega
    · rw [e1] at e
      rcases at1 j hj' with ⟨k2, e2⟩ | ⟨k2, e2⟩
      · rw [e2]; intro e'; have := hn b e; have := el j k2 b e'; omega
      · omega
/-- .. and each list is a row of its own. -/
structure FR (w : World) (lo hi g n : Nat) (vs : List Value) (fs : List F8) : Prop where
  fo : FO w lo hi g n vs fs
  row : ∀ i (h : i < fs.length) (h' : i < vs.length), w.ownsRow lo 2 1 vs[i] fs[i].2.2.length (flatI fs[i].2.2)
  sep : ∀ i (h' : i < vs.length) b, vs[i].ownBlock = some b → b ≠ g ∧ b < hi ∧ ∀ j (hj : j < vs.length), j ≠ i → vs[j].ownBlock ≠ some b
theorem el_own {w : World} {lo n : Nat} {e : TypeId} {v : Value} {xs : List Value} (h : w.ownsRow lo e 1 v n xs) {b : Nat} (hb : elB v = some b) : v.ownBlock = some b := by
  rcases h.2 with ⟨rfl, _⟩ | ⟨g, cap, cur, rfl, _⟩
  · cases hb
  · cases n with
    | zero => cases hb
    | succ n => exact hb
theorem row_lower {w : World} {lo lo' n s : Nat} {e : TypeId} {v : Value} {xs : List Value} (h : w.ownsRow lo e s v n xs) (hl : lo' ≤ lo) : w.ownsRow lo' e s v n xs := by
  refine ⟨h.1, ?_⟩
  rcases h.2 with h | ⟨g, cap, cur, e1, h1, h2⟩
  · exact .inl h
  · exact .inr ⟨g, cap, cur, e1, Nat.le_trans hl h1, h2⟩
theorem FR.begin {w : World} {lo g n cap : Nat} {L : List Value} (h : w.ownsRow lo 61 3 (.slice (some ⟨g, 0, none⟩) n cap) n L) : FR w lo w.heap.size g n [] [] := by
  have hg := h.lt g rfl
  refine ⟨⟨hg.1, hg.2, Nat.le_refl _, rfl, Nat.zero_le _, fun j hj => ⟨?_, h.frozenAt j⟩, (fun i h => by cases h), (fun i h => by cases h), (fun i h => by cases h), (fun i j h => by cases h)⟩, (fun i h => by cases h), (fun i h => by cases h)⟩
  have hl : j < L.length := by rw [h.1]; exact hj
  exact ⟨L[j], (h.cellAt j hj).trans (List.getElem?_eq_getElem hl)⟩
/-- The list of the next flow is another, a new row. -/
theorem FR.tail {w w' : World} {lo g n k : Nat} {vs : List Value} {fs : List F8} (f : FR w lo w.heap.size g n vs fs) (ek : k = fs.length) (hk : k < n) {q d : Int} {v : Value} {xs : List Int} (hb : Below w.heap.size w w') (hr : w'.ownsRow w.heap.size 2 1 v xs.length (flatI xs))
    (c0 : w.cell? ⟨g, k * 3, none⟩ = some (.int .i64 q)) (c1 : w.cell? ⟨g, k * 3 + 1, none⟩ = some (.int .i64 d)) :
    FR (w'.setCell ⟨g, k * 3 + 2, none⟩ v) lo w'.heap.size g n (vs ++ [v]) (fs ++ [(q, d, xs)]) := by
  have fo := f.fo
  have g0 := fo.g0
  have g1 := fo.g1
  have hz := hb.size
  have hcell : ∀ j, w'.cell? ⟨g, j, none⟩ = w.cell? ⟨g, j, none⟩ := fun j => hb.cell (p := ⟨g, j, none⟩) g1
  have hnew : ∀ b, v.ownBlock = some b → w.heap.size ≤ b ∧ b < w'.heap.size := fun b e => hr.lt b e
  have hset : ∀ b, b ≠ g → (w'.setCell ⟨g, k * 3 + 2, none⟩ v).heap[b]? = w'.heap[b]? := fun b hn => Below.heap_setCell _ _ _ _ (by exact hn)
  have sz : (w'.setCell ⟨g, k * 3 + 2, none⟩ v).heap.size = w'.heap.size := by simp
  obtain ⟨⟨z2, hz2⟩, _⟩ := fo.any (k * 3 + 2) (by omega)
  have hr2 : (w'.setCell ⟨g, k * 3 + 2, none⟩ v).ownsRow w.heap.size 2 1 v xs.length (flatI xs) := row_set hr g1
  have hfo : FO (w'.setCell ⟨g, k * 3 + 2, none⟩ v) lo (w'.setCell ⟨g, k * 3 + 2, none⟩ v).heap.size g n (vs ++ [v]) (fs ++ [(q, d, xs)]) := by
    refine fo.more ek hk (by rw [sz]; exact hz) (fun b h1 h2 h3 => (hset b h3).trans (hb.block b h2)) (fun j hj => (set_other (by omega)).trans (hcell j)) (fun j hj => ?_) (fun j => ?_) ((set_other (by omega)).trans ((hcell _).trans c0)) ((set_other (by omega)).trans ((hcell _).trans c1)) (set_same _ ((hcell _).trans hz2)) (by rw [sz]; exact hz) ((own_ints (row_lower hr2 (by omega))).io) (fun b e => (hnew b (el_own hr e)).1)
    · by_cases e : j = k * 3 + 2
      · subst e; exact ⟨_, set_same _ ((hcell _).trans hz2)⟩
      · obtain ⟨z, hzz⟩ := (fo.any j hj).1
        exact ⟨z, (set_other (fun e' => e e'.symm)).trans ((hcell j).trans hzz)⟩
    · rw [World.frozen?_setCell]
      exact hb.frozen (p := ⟨g, j, none⟩) g1
  rw [sz] at hfo
  have at1 : ∀ i (h : i < (vs ++ [v]).length), (∃ h' : i < vs.length, (vs ++ [v])[i] = vs[i]) ∨ (i = fs.length ∧ (vs ++ [v])[i] = v) := fun i h => by
    by_cases e : i < vs.length
    · exact .inl ⟨e, List.getElem_append_left e⟩
    · have e2 : i = vs.length := by simp at h; omega
      refine .inr ⟨e2.trans fo.len, ?_⟩
      subst e2
      simp
  refine ⟨hfo, fun i h1 h2 => ?_, fun i h2 b e => ?_⟩
  · rcases at1 i h2 with ⟨k1, e⟩ | ⟨k1, e⟩
    · have k' : i < fs.length := by rw [← fo.len]; exact k1
      rw [e, List.getElem_append_left k']
      exact (row_next (f.row i k' k1) hb).kept (row := some g) (grown_set _ _ _ _) (by
        cases ho : vs[i].ownBlock with
        | none => exact .inl rfl
        | some b => exact .inr (fun e' => (f.sep i k1 b ho).1 (Option.some.inj e')))
    · rw [e]
      subst k1
      simp only [List.getElem_append_right (Nat.le_refl _), Nat.sub_self, List.getElem_cons_zero]
      exact row_lower hr2 (by omega)
  · rcases at1 i h2 with ⟨k1, e1⟩ | ⟨k1, e1⟩
    · rw [e1] at e
      obtain ⟨s1, s2, s3⟩ := f.sep i k1 b e
      refine ⟨s1, by omega, fun j hj hne => ?_⟩
      rcases at1 j hj with ⟨k2, e2⟩ | ⟨k2, e2⟩
      · rw [e2]; exact s3 j k2 hne
      · rw [e2]; intro e'; have := (hnew b e').1; omega
    · rw [e1] at e
      have h3 := hnew b e
      refine ⟨by omega, h3.2, fun j hj hne => ?_⟩
      rcases at1 j hj with ⟨k2, e2⟩ | ⟨k2, e2⟩
      · rw [e2]; intro e'; have := (f.sep j k2 b e').2.1; omega
      · omega
theorem FR.next {w w' : World} {lo hi g n : Nat} {vs : List Value} {fs : List F8} (h : FR w lo hi g n vs fs) (hb : Below w.heap.size w w') : FR w' lo hi g n vs fs :=
  ⟨h.fo.next hb, fun i h1 h2 => row_next (h.row i h1 h2) hb, h.sep⟩
theorem FR.wider {w : World} {lo hi lo' hi' g n : Nat} {vs : List Value} {fs : List F8} (h : FR w lo hi g n vs fs) (h1 : lo' ≤ lo) (h2 : hi ≤ hi') (h3 : hi' ≤ w.heap.size) : FR w lo' hi' g n vs fs :=
  ⟨h.fo.wider h1 h2 h3, fun i k1 k2 => row_lower (h.row i k1 k2) h1, fun i k b e => by
    obtain ⟨s1, s2, s3⟩ := h.sep i k b e
    exact ⟨s1, by omega, s3⟩⟩
theorem FR.onlyI {w w' : World} {lo hi lo' hi' g n : Nat} {vs : List Value} {fs : List F8} (h : FR w lo hi g n vs fs) (hb : OnlyI lo' hi' w w') (hd : hi ≤ lo' ∨ hi' ≤ lo) : FR w' lo hi g n vs fs := by
  refine ⟨h.fo.same hb.size (fun b h1 h2 => hb.block b (Nat.lt_of_lt_of_le h2 h.fo.top) (by omega)), fun i h1 h2 => ?_, h.sep⟩
  have r := h.row i h1 h2
  refine ⟨r.1, ?_⟩
  rcases r.2 with r2 | ⟨g2, cap, cur, e1, k1, k2, k3⟩
  · exact .inl r2
  · have hs := h.sep i h2 g2 (by rw [e1]; rfl)
    have ht := h.fo.top
    exact .inr ⟨g2, cap, cur, e1, k1, (hb.block g2 (by omega) (by omega)).trans k2, k3⟩
/-- What a copy answers. -/
def CpPost8 (w : World) (fs : List F8) (at' : Int) (fresh : Bool) (e : Ending) (w' : World) : Prop :=
  ∃ g cap vs, e = .returned (turnV (some ⟨g, 0, none⟩) fs.length cap at' fresh) ∧ fs.length ≤ cap ∧ FR w' w.heap.size w'.heap.size g fs.length vs fs ∧ Below w.heap.size w w'
end Go.Proofs.Ytdgefdjgpneanad
