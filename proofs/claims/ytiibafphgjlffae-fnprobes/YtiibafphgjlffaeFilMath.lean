/- What a filter keeps of the samples that were pushed: by lists alone, no program. -/
import Derived.Test.YtiibafphgjlffaeFiltV
namespace Go.Proofs.Ytiibafphgjlffae
set_option linter.unusedVariables false

/-- a beats b. -/
def beatV (most : Bool) (a b : Int) : Bool := if most = true then decide (b < a) else decide (a < b)
theorem keepV (most : Bool) (s x : Int × Int) : keepB most s x = beatV most x.2 s.2 := by unfold keepB beatV; rfl
theorem stepV (most : Bool) (p s : Int × Int) : stepB most p s = true ↔ p.1 < s.1 ∧ beatV most p.2 s.2 = true := by
  unfold stepB beatV
  rw [Bool.and_eq_true, decide_eq_true_eq]
theorem beat_trans {most : Bool} {a b c : Int} (h : beatV most a b = true) (k : beatV most b c = true) : beatV most a c = true := by
  unfold beatV at *
  cases most <;> simp at * <;> omega
theorem beat_not {most : Bool} {a b c : Int} (h : beatV most a b = false) (k : beatV most b c = false) : beatV most a c = false := by
  unfold beatV at *
  cases most <;> simp at * <;> omega
theorem beat_anti {most : Bool} {a b : Int} (h : beatV most a b = true) : beatV most b a = false := by
  unfold beatV at *
  cases most <;> simp at * <;> omega
theorem beat_eq {most : Bool} {a b : Int} (h : beatV most a b = false) (k : beatV most b a = false) : a = b := by
  unfold beatV at *
  cases most <;> simp at * <;> omega
theorem beat_self (most : Bool) (a : Int) : beatV most a a = false := by
  unfold beatV
  cases most <;> simp
theorem step_trans {most : Bool} {a b c : Int × Int} (h : stepB most a b = true) (k : stepB most b c = true) : stepB most a c = true := by
  rw [stepV] at *
  exact ⟨by omega, beat_trans h.2 k.2⟩
theorem fok_pair {most : Bool} {xs : List (Int × Int)} (h : FOk most xs) : (∀ x ∈ xs, smpB x = true) ∧ xs.Pairwise (fun p s => stepB most p s = true) := by
  obtain ⟨_, h⟩ := h
  refine ⟨fun x hx => ?_, ?_⟩
  · obtain ⟨i, hi, rfl⟩ := List.mem_iff_getElem.1 hx
    exact (h i hi hi).1
  · rw [List.pairwise_iff_getElem]
    intro i j hi hj hij
    induction j with
    | zero => omega
    | succ j ih =>
      have hs := (h (j + 1) hj hj).2 j (by omega) rfl
      by_cases e : i = j
      · subst e
        exact hs
      · exact step_trans (ih (by omega) (by omega)) hs
theorem fok_of {most : Bool} {xs : List (Int × Int)} (hl : xs.length ≤ 100) (h : ∀ x ∈ xs, smpB x = true) (k : xs.Pairwise (fun p s => stepB most p s = true)) : FOk most xs := by
  refine ⟨hl, fun i hi _ => ⟨h _ (List.getElem_mem hi), fun j hj hji => ?_⟩⟩
  rw [List.pairwise_iff_getElem] at k
  exact k j i hj hi (by omega)
theorem last_mem {L : List (Int × Int)} (h : L ≠ []) : ∃ y ∈ L, lastAt L = y.1 := by
  refine ⟨L.getLast h, List.getLast_mem h, ?_⟩
  unfold lastAt
  rw [List.getLast?_eq_some_getLast h]
theorem pair_last {most : Bool} {L : List (Int × Int)} (k : L.Pairwise (fun p s => stepB most p s = true)) : ∀ x ∈ L, x.1 ≤ lastAt L := by
  intro x hx
  have hne : L ≠ [] := by rintro rfl; cases hx
  have e : lastAt L = (L.getLast hne).1 := by
    unfold lastAt
    rw [List.getLast?_eq_some_getLast hne]
  obtain ⟨i, hi, rfl⟩ := List.mem_iff_getElem.1 hx
  rw [e, List.getLast_eq_getElem]
  by_cases h : i = L.length - 1
  · subst h
    exact Int.le_refl _
  · rw [List.pairwise_iff_getElem] at k
    have := (stepV most _ _).1 (k i (L.length - 1) hi (by omega) (by omega))
    omega
/-- What is come: right but for its length. -/
theorem come_pair {most : Bool} {xs : List (Int × Int)} {s : Int × Int} (h : FOk most xs) (hs : smpB s = true) (hl : lastAt xs ≤ s.1) : (∀ x ∈ comeOf most xs s, smpB x = true) ∧ (comeOf most xs s).Pairwise (fun p s => stepB most p s = true) := by
  obtain ⟨hm, hp⟩ := fok_pair h
  have hp' : (xs.filter (keepB most s)).Pairwise (fun p s => stepB most p s = true) := hp.sublist List.filter_sublist
  have hm' : ∀ x ∈ xs.filter (keepB most s), smpB x = true := fun x hx => hm x (List.mem_filter.1 hx).1
  unfold comeOf
  simp only
  split
  · exact ⟨hm', hp'⟩
  · rename_i hne
    refine ⟨fun x hx => ?_, List.pairwise_append.2 ⟨hp', List.pairwise_singleton _ _, fun x hx y hy => ?_⟩⟩
    · rcases List.mem_append.1 hx with hx | hx
      · exact hm' x hx
      · rw [List.mem_singleton.1 hx]
        exact hs
    · rw [List.mem_singleton.1 hy]
      have hk := (List.mem_filter.1 hx).2
      rw [keepV] at hk
      have h1 := pair_last hp' x hx
      have h2 := pair_last hp x (List.mem_filter.1 hx).1
      obtain ⟨z, hz, ez⟩ := last_mem (L := xs.filter (keepB most s)) (by intro e; rw [e] at hx; cases hx)
      have h3 := pair_last hp z (List.mem_filter.1 hz).1
      exact (stepV most x s).2 ⟨by omega, hk⟩
theorem young_sub (t : Int) : ∀ L : List (Int × Int), (youngOf t L).Sublist L
  | [] => List.Sublist.refl _
  | [x] => List.Sublist.refl _
  | x :: y :: ys => by
    unfold youngOf
    split
    · exact (young_sub t (y :: ys)).cons _
    · exact List.Sublist.refl _
/-- Who goes for its age is old; the last one stays. -/
theorem young_has (t : Int) : ∀ (L : List (Int × Int)) (x : Int × Int), x ∈ L → x ∈ youngOf t L ∨ x.1 < t
  | [], x, h => by cases h
  | [y], x, h => .inl h
  | y :: z :: ys, x, h => by
    unfold youngOf
    split
    · rename_i hy
      rcases List.mem_cons.1 h with rfl | h
      · exact .inr hy
      · exact young_has t (z :: ys) x h
    · exact .inl h
theorem young_head (t : Int) : ∀ (L : List (Int × Int)), L ≠ [] → ∃ y ys, youngOf t L = y :: ys ∧ (t ≤ y.1 ∨ ∃ zs, L = zs ++ [y])
  | [], h => absurd rfl h
  | [y], _ => ⟨y, [], rfl, .inr ⟨[], rfl⟩⟩
  | y :: z :: ys, _ => by
    unfold youngOf
    split
    · obtain ⟨a, az, e, h⟩ := young_head t (z :: ys) (by simp)
      refine ⟨a, az, e, h.imp id ?_⟩
      rintro ⟨zs, hz⟩
      exact ⟨y :: zs, by rw [hz]; rfl⟩
    · rename_i hy
      exact ⟨y, z :: ys, rfl, .inl (by omega)⟩
theorem push_ok {most : Bool} {xs : List (Int × Int)} {s : Int × Int} {win : Int} (h : PushOk most xs s win) : FOk most (pushOf most xs s win) := by
  obtain ⟨hf, hs, _, hl⟩ := h
  obtain ⟨hm, hp⟩ := come_pair hf hs hl
  have sub := young_sub (s.1 - win) (comeOf most xs s)
  have hlen : (youngOf (s.1 - win) (comeOf most xs s)).length ≤ 101 := by
    have := sub.length_le
    have := come_le (most := most) (xs := xs) (s := s)
    have := hf.1
    omega
  unfold pushOf
  simp only
  split
  · refine fok_of (by rw [List.length_tail]; omega) (fun x hx => hm x (sub.subset (List.tail_sublist _ |>.subset hx))) ((hp.sublist sub).sublist (List.tail_sublist _))
  · exact fok_of (by omega) (fun x hx => hm x (sub.subset hx)) (hp.sublist sub)
/-- A filter beside all that was pushed, up to the time t. -/
structure Win (most : Bool) (hs L : List (Int × Int)) (t : Int) : Prop where
  fok : FOk most hs
  wit : ∀ x ∈ L, x.1 < t - 30 ∨ ∃ y ∈ hs, x.1 ≤ y.1 ∧ beatV most x.2 y.2 = false
  sub : ∀ y ∈ hs, y ∈ L
  len : hs.length ≤ L.length
  now : ∀ x ∈ L, x.1 ≤ t
theorem win_zero (most : Bool) (t : Int) : Win most [] [] t :=
  ⟨fok_of (by simp) (fun x hx => (by cases hx)) List.Pairwise.nil, fun x hx => (by cases hx), fun x hx => (by cases hx), by simp, fun x hx => (by cases hx)⟩
theorem Win.later {most : Bool} {hs L : List (Int × Int)} {t t' : Int} (h : Win most hs L t) (ht : t ≤ t') : Win most hs L t' :=
  ⟨h.fok, fun x hx => (h.wit x hx).imp (fun k => by omega) id, h.sub, h.len, fun x hx => by have := h.now x hx; omega⟩
theorem win_last {most : Bool} {hs L : List (Int × Int)} {t : Int} (h : Win most hs L t) (h0 : -1 ≤ t) : lastAt hs ≤ t := by
  by_cases e : hs = []
  · subst e
    exact h0
  · obtain ⟨y, hy, ey⟩ := last_mem e
    rw [ey]
    exact h.now y (h.sub y hy)
/-- One more is pushed: the best of the filter is the best of its window. -/
theorem win_push {most : Bool} {hs L : List (Int × Int)} {t v : Int} (h : Win most hs L t) (hv : smpB (t, v) = true) (hn : L.length < 100) :
    Win most (pushOf most hs (t, v) 30) (L ++ [(t, v)]) t ∧ ∃ y ys, pushOf most hs (t, v) 30 = y :: ys ∧ y ∈ L ++ [(t, v)] ∧ t - 30 ≤ y.1 ∧ ∀ x ∈ L ++ [(t, v)], t - 30 ≤ x.1 → beatV most x.2 y.2 = false := by
  have h0 : -1 ≤ t := by
    unfold smpB timeB at hv
    simp only [Bool.and_eq_true, decide_eq_true_eq] at hv
    omega
  have hl := win_last h h0
  have hP : PushOk most hs (t, v) 30 := ⟨h.fok, hv, by decide, hl⟩
  have hok := push_ok hP
  obtain ⟨hm, hp⟩ := come_pair h.fok hv hl
  have hlen := come_le (most := most) (xs := hs) (s := (t, v))
  have ylen := (young_sub (t - 30) (comeOf most hs (t, v))).length_le
  have hlh := h.len
  have e : pushOf most hs (t, v) 30 = youngOf (t - 30) (comeOf most hs (t, v)) := by
    unfold pushOf
    simp only
    exact if_neg (by omega)
  -- the sample has a witness in what is come
  have hin : ∃ y ∈ comeOf most hs (t, v), t ≤ y.1 ∧ beatV most v y.2 = false := by
    unfold comeOf
    simp only
    split
    · rename_i hq
      have hne : hs.filter (keepB most (t, v)) ≠ [] := by
        intro e0
        rw [e0] at hq
        have : lastAt [] = -1 := rfl
        unfold smpB timeB at hv
        simp only [Bool.and_eq_true, decide_eq_true_eq] at hv
        omega
      obtain ⟨y, hy, ey⟩ := last_mem hne
      refine ⟨y, hy, by omega, ?_⟩
      have hk := (List.mem_filter.1 hy).2
      rw [keepV] at hk
      exact beat_anti hk
    · exact ⟨(t, v), by simp, Int.le_refl _, beat_self _ _⟩
  have hsub : ∀ y ∈ comeOf most hs (t, v), y ∈ L ++ [(t, v)] := by
    intro y hy
    unfold comeOf at hy
    simp only at hy
    split at hy
    · exact List.mem_append_left _ (h.sub y (List.mem_filter.1 hy).1)
    · rcases List.mem_append.1 hy with hy | hy
      · exact List.mem_append_left _ (h.sub y (List.mem_filter.1 hy).1)
      · exact List.mem_append_right _ hy
  have hnow : ∀ x ∈ L ++ [(t, v)], x.1 ≤ t := by
    intro x hx
    rcases List.mem_append.1 hx with hx | hx
    · exact h.now x hx
    · rw [List.mem_singleton.1 hx]
      exact Int.le_refl _
  -- everything has a witness in what is come, or is old
  have hcome : ∀ x ∈ L ++ [(t, v)], x.1 < t - 30 ∨ ∃ y ∈ comeOf most hs (t, v), x.1 ≤ y.1 ∧ beatV most x.2 y.2 = false := by
    intro x hx
    rcases List.mem_append.1 hx with hx' | hx'
    · rcases h.wit x hx' with k | ⟨y, hy, h1, h2⟩
      · exact .inl k
      · by_cases hk : keepB most (t, v) y = true
        · refine .inr ⟨y, ?_, h1, h2⟩
          have hf : y ∈ hs.filter (keepB most (t, v)) := List.mem_filter.2 ⟨hy, hk⟩
          unfold comeOf
          simp only
          split
          · exact hf
          · exact List.mem_append_left _ hf
        · obtain ⟨z, hz, z1, z2⟩ := hin
          rw [keepV, Bool.not_eq_true] at hk
          exact .inr ⟨z, hz, by have := hnow x hx; omega, beat_not (beat_not h2 hk) z2⟩
    · rw [List.mem_singleton.1 hx']
      obtain ⟨z, hz, z1, z2⟩ := hin
      exact .inr ⟨z, hz, z1, z2⟩
  have hwit : ∀ x ∈ L ++ [(t, v)], x.1 < t - 30 ∨ ∃ y ∈ pushOf most hs (t, v) 30, x.1 ≤ y.1 ∧ beatV most x.2 y.2 = false := by
    intro x hx
    rcases hcome x hx with k | ⟨y, hy, h1, h2⟩
    · exact .inl k
    · rw [e]
      rcases young_has (t - 30) _ y hy with k | k
      · exact .inr ⟨y, k, h1, h2⟩
      · exact .inl (by omega)
  refine ⟨⟨hok, hwit, ?_, ?_, hnow⟩, ?_⟩
  · intro y hy
    rw [e] at hy
    exact hsub y ((young_sub _ _).subset hy)
  · rw [e, List.length_append, List.length_singleton]
    omega
  · have hne : comeOf most hs (t, v) ≠ [] := by
      obtain ⟨y, hy, _⟩ := hin
      intro e0
      rw [e0] at hy
      cases hy
    obtain ⟨y, ys, ey, hy⟩ := young_head (t - 30) _ hne
    have hyc : y ∈ comeOf most hs (t, v) := (young_sub (t - 30) _).subset (by rw [ey]; exact List.mem_cons_self)
    have hpy : (y :: ys).Pairwise (fun p s => stepB most p s = true) := by
      rw [← ey]
      exact hp.sublist (young_sub _ _)
    have hage : t - 30 ≤ y.1 := by
      rcases hy with k | ⟨zs, hz⟩
      · exact k
      · obtain ⟨z, hz', z1, _⟩ := hin
        have := pair_last hp z hz'
        have el : lastAt (comeOf most hs (t, v)) = y.1 := by
          rw [hz]
          unfold lastAt
          rw [List.getLast?_append]
          rfl
        omega
    refine ⟨y, ys, e.trans ey, hsub y hyc, hage, fun x hx hx1 => ?_⟩
    rcases hwit x hx with k | ⟨z, hz, _, z2⟩
    · omega
    · rw [e, ey] at hz
      rcases List.mem_cons.1 hz with rfl | hz
      · exact z2
      · have := ((stepV most y z).1 ((List.pairwise_cons.1 hpy).1 z hz)).2
        exact beat_not z2 (beat_anti this)
/-- The law's own search. -/
def bestF (most : Bool) (t r : Int) (x : Int × Int) : Int := if t ≤ x.1 ∧ beatV most x.2 r = true then x.2 else r
theorem best_any (most : Bool) (t : Int) : ∀ (L : List (Int × Int)) (r : Int), (L.foldl (bestF most t) r = r ∨ ∃ x ∈ L, t ≤ x.1 ∧ L.foldl (bestF most t) r = x.2) ∧ beatV most r (L.foldl (bestF most t) r) = false ∧ ∀ x ∈ L, t ≤ x.1 → beatV most x.2 (L.foldl (bestF most t) r) = false
  | [], r => ⟨.inl rfl, beat_self _ _, fun x hx => by cases hx⟩
  | y :: ys, r => by
    rw [List.foldl_cons]
    obtain ⟨h1, h2, h3⟩ := best_any most t ys (bestF most t r y)
    have hr : beatV most r (bestF most t r y) = false := by
      unfold bestF
      split
      · rename_i h
        exact beat_anti h.2
      · exact beat_self _ _
    have hy : t ≤ y.1 → beatV most y.2 (bestF most t r y) = false := by
      intro ht
      unfold bestF
      split
      · exact beat_self _ _
      · rename_i h
        rw [← Bool.not_eq_true]
        exact fun k => h ⟨ht, k⟩
    refine ⟨?_, beat_not hr h2, fun x hx hx1 => ?_⟩
    · rcases h1 with h1 | ⟨x, hx, hx1, hx2⟩
      · rw [h1]
        unfold bestF
        split
        · rename_i h
          exact .inr ⟨y, List.mem_cons_self, h.1, rfl⟩
        · exact .inl rfl
      · exact .inr ⟨x, List.mem_cons_of_mem _ hx, hx1, hx2⟩
    · rcases List.mem_cons.1 hx with rfl | hx
      · exact beat_not (hy hx1) h2
      · exact h3 x hx hx1
theorem best_is {most : Bool} {L : List (Int × Int)} {t v : Int} {y : Int × Int} (hv : (t, v) ∈ L) (hy : y ∈ L) (hy1 : t - 30 ≤ y.1) (hall : ∀ x ∈ L, t - 30 ≤ x.1 → beatV most x.2 y.2 = false) : L.foldl (bestF most (t - 30)) v = y.2 := by
  obtain ⟨h1, h2, h3⟩ := best_any most (t - 30) L v
  refine beat_eq ?_ (h3 y hy hy1)
  rcases h1 with h1 | ⟨x, hx, hx1, hx2⟩
  · rw [h1]
    exact hall (t, v) hv (by show t - 30 ≤ t; omega)
  · rw [hx2]
    exact hall x hx hx1
end Go.Proofs.Ytiibafphgjlffae
