/- Rows of connections that a call makes: what can be read is cloned; one is stored over. -/
import Derived.Test.YtibfclfidaofkasGrpAE
import Derived.Test.YtibfclfidaofkasFlwRow
import Derived.Test.YtibfclfidaofkasGrpW
namespace Go.Proofs.Ytibfclfidaofkas
open Go.ChangeShapes Go.WideShapes Go.ChangeAt Go.RowKit
set_option maxRecDepth 100000
set_option linter.unusedVariables false
set_option linter.unusedSimpArgs false

/-- A connection and where its list lies. -/
abbrev G14 := Kn × Value
def cs14 (x : G14) : List Value := x.1.cs ++ [x.2]
theorem cs14_length (x : G14) : (cs14 x).length = 14 := rfl
def flatK (G : List G14) : List Value := G.flatMap cs14
theorem flatK_append (a b : List G14) : flatK (a ++ b) = flatK a ++ flatK b := List.flatMap_append
theorem flatK_length (G : List G14) : (flatK G).length = G.length * 14 := by
  induction G with
  | nil => rfl
  | cons x r ih =>
    show (cs14 x ++ flatK r).length = _
    rw [List.length_append, ih, cs14_length, List.length_cons]
    omega
theorem flatK_get (G : List G14) : ∀ i (h : i < G.length) j, j < 14 → (flatK G)[i * 14 + j]? = (cs14 G[i])[j]? := by
  induction G with
  | nil => intro i h; cases h
  | cons x r ih =>
    intro i h j hj
    show (cs14 x ++ flatK r)[i * 14 + j]? = _
    cases i with
    | zero =>
      rw [Nat.zero_mul, Nat.zero_add, List.getElem?_append_left (by rw [cs14_length]; exact hj)]
      rfl
    | succ i =>
      rw [List.getElem?_append_right (by rw [cs14_length]; omega), cs14_length, show (i + 1) * 14 + j - 14 = i * 14 + j by omega]
      exact ih i (by simpa using h) j hj
/-- The rows' connections, their lists to be read. -/
structure VK (B : Nat) (w : World) (G : List G14) (K : List Kn) : Prop where
  fst : G.map Prod.fst = K
  at' : ∀ i (h : i < G.length), SzV B w G[i].2 G[i].1.xs
theorem VK.len {B : Nat} {w : World} {G : List G14} {K : List Kn} (h : VK B w G K) : G.length = K.length := by rw [← h.fst, List.length_map]
theorem VK.get {B : Nat} {w : World} {G : List G14} {K : List Kn} (h : VK B w G K) {i : Nat} (h1 : i < G.length) (h2 : i < K.length) : G[i].1 = K[i] := by
  have : (G.map Prod.fst)[i]? = K[i]? := by rw [h.fst]
  rw [List.getElem?_map, List.getElem?_eq_getElem h1, List.getElem?_eq_getElem h2] at this
  exact Option.some.inj this
theorem VK.one {B : Nat} {w : World} {G : List G14} {K : List Kn} (h : VK B w G K) : ∀ u ∈ flatK G, u.oneCell' = true := by
  intro u hu
  obtain ⟨x, hx, hu⟩ := List.mem_flatMap.1 hu
  obtain ⟨i, hi, rfl⟩ := List.mem_iff_getElem.1 hx
  obtain ⟨sa, sc, e, _⟩ := h.at' i hi
  simp only [cs14, Kn.cs, List.mem_append, List.mem_cons, List.not_mem_nil, or_false] at hu
  rcases hu with (rfl | rfl | rfl | rfl | rfl | rfl | rfl | rfl | rfl | rfl | rfl | rfl | rfl) | rfl
  all_goals first | rfl | (rw [e]; rfl)
theorem VK.mono {B : Nat} {w x : World} {G : List G14} {K : List Kn} (h : VK B w G K) (hb : Below B w x) : VK B x G K := ⟨h.fst, fun i hi => (h.at' i hi).mono hb⟩
theorem VK.here {w x : World} {G : List G14} {K : List Kn} (h : VK w.heap.size w G K) (hb : Below w.heap.size w x) : VK x.heap.size x G K := ⟨h.fst, fun i hi => (h.at' i hi).here hb⟩
theorem VK.filter {B : Nat} {w : World} {G : List G14} {K : List Kn} (h : VK B w G K) (p : Kn → Bool) : VK B w (G.filter (fun x => p x.1)) (K.filter p) := by
  refine ⟨?_, fun i hi => ?_⟩
  · rw [← h.fst, List.filter_map]
    rfl
  · have hm := List.getElem_mem hi
    obtain ⟨hm, _⟩ := List.mem_filter.1 hm
    obtain ⟨j, hj, e⟩ := List.mem_iff_getElem.1 hm
    rw [← e]
    exact h.at' j hj
theorem addr_add (b o j : Nat) : (⟨b, o, none⟩ : Addr).add j = ⟨b, o + j, none⟩ := by unfold Addr.add; split <;> simp_all
theorem Kls.vals {B : Nat} {w : World} {a : Option Addr} {K : List Kn} (h : Kls B w a K) (hn : 0 < K.length) :
    ∃ b off G, a = some ⟨b, off, none⟩ ∧ b < B ∧ VK B w G K ∧ ∀ j u, (flatK G)[j]? = some u → w.cell? ((⟨b, off, none⟩ : Addr).add j) = some u := by
  obtain ⟨b, off, sa, sc, rfl, hb, _⟩ := h 0 hn
  have one : ∀ i, i < K.length → ∃ x : G14, ∀ h' : i < K.length, (x.1 = K[i] ∧ SzV B w x.2 x.1.xs) ∧ ∀ j u, (cs14 x)[j]? = some u → w.cell? ⟨b, off + i * 14 + j, none⟩ = some u := by
    intro i hi
    obtain ⟨b', off', sa, sc, e, _, c0, c1, s⟩ := h i hi
    injection e with e
    injection e with e1 e2
    subst e1 e2
    refine ⟨(K[i], .slice sa K[i].xs.length sc), fun _ => ⟨⟨rfl, sa, sc, rfl, s⟩, fun j u hu => ?_⟩⟩
    have hj := (List.getElem?_eq_some_iff.1 hu).1
    rw [cs14_length] at hj
    by_cases e : j = 13
    · subst e
      have : Value.slice sa K[i].xs.length sc = u := by
        have : (cs14 (K[i], Value.slice sa K[i].xs.length sc))[13]? = some (.slice sa K[i].xs.length sc) := rfl
        rw [this] at hu
        exact Option.some.inj hu
      rw [← this]
      exact c1
    · refine c0 j u ?_
      unfold cs14 at hu
      rw [List.getElem?_append_left (by rw [Kn.len]; omega)] at hu
      exact hu
  obtain ⟨G, hl, hG⟩ := pick_list one
  refine ⟨b, off, G, rfl, hb, ⟨?_, fun i hi => (hG i hi (by omega)).1.2⟩, fun j u hu => ?_⟩
  · apply List.ext_getElem
    · rw [List.length_map, hl]
    · intro i h1 h2
      rw [List.getElem_map]
      exact (hG i (by omega) h2).1.1
  · have hj : j < (flatK G).length := (List.getElem?_eq_some_iff.1 hu).1
    rw [flatK_length] at hj
    rw [addr_add]
    have hi : j / 14 < G.length := by omega
    have hg := flatK_get G (j / 14) hi (j % 14) (by omega)
    rw [show j / 14 * 14 + j % 14 = j by omega, hu] at hg
    have := (hG (j / 14) hi (by omega)).2 (j % 14) u hg.symm
    rw [show off + j / 14 * 14 + j % 14 = off + j by omega] at this
    exact this
/-! A row is stored into. -/
def setL (xs : List Value) : Nat → List Value → List Value
  | _, [] => xs
  | s, v :: r => setL (xs.set s v) (s + 1) r
theorem row_setL {base : Nat} {e : TypeId} {g n cap m : Nat} : ∀ (vs : List Value) (s : Nat) (w : World) (xs : List Value), w.ownsRow base e m (.slice (some ⟨g, 0, none⟩) n cap) n xs → (w.setCells g s vs).ownsRow base e m (.slice (some ⟨g, 0, none⟩) n cap) n (setL xs s vs)
  | [], _, _, _, h => h
  | v :: r, s, w, xs, h => row_setL r (s + 1) _ _ (h.stored s v).1
theorem setL_length : ∀ (vs xs : List Value) (s : Nat), (setL xs s vs).length = xs.length
  | [], _, _ => rfl
  | v :: r, xs, s => by
    show (setL (xs.set s v) (s + 1) r).length = _
    rw [setL_length r, List.length_set]
theorem setL_get : ∀ (vs xs : List Value) (s j : Nat), s + vs.length ≤ xs.length → (setL xs s vs)[j]? = if s ≤ j ∧ j < s + vs.length then vs[j - s]? else xs[j]?
  | [], xs, s, j, _ => by
    show xs[j]? = _
    rw [if_neg (by simp)]
  | v :: r, xs, s, j, h => by
    show (setL (xs.set s v) (s + 1) r)[j]? = _
    rw [List.length_cons] at h
    rw [setL_get r _ _ _ (by rw [List.length_set]; omega), List.getElem?_set, List.length_cons]
    by_cases h1 : j = s
    · subst h1
      rw [if_neg (by omega), if_pos rfl, if_pos (by omega), if_pos (by omega), Nat.sub_self]
      rfl
    · by_cases h2 : s + 1 ≤ j ∧ j < s + 1 + r.length
      · rw [if_pos h2, if_pos (by omega), show j - s = j - (s + 1) + 1 by omega, List.getElem?_cons_succ]
      · rw [if_neg h2, if_neg (fun e => h1 e.symm), if_neg (by omega)]
theorem flatK_set (G : List G14) {i : Nat} (hi : i < G.length) (x : G14) : setL (flatK G) (i * 14) (cs14 x) = flatK (G.set i x) := by
  apply List.ext_getElem?
  intro j
  rw [setL_get _ _ _ _ (by rw [flatK_length, cs14_length]; omega), cs14_length]
  by_cases hj : j < G.length * 14
  · have h1 := flatK_get (G.set i x) (j / 14) (by rw [List.length_set]; omega) (j % 14) (by omega)
    have h2 := flatK_get G (j / 14) (by omega) (j % 14) (by omega)
    rw [show j / 14 * 14 + j % 14 = j by omega] at h1 h2
    rw [h1, h2, List.getElem_set]
    by_cases e : i = j / 14
    · rw [if_pos (by omega), if_pos e, show j - i * 14 = j % 14 by omega]
    · rw [if_neg (by omega), if_neg e]
  · rw [if_neg (by omega), List.getElem?_eq_none (by rw [flatK_length]; omega), List.getElem?_eq_none (by rw [flatK_length, List.length_set]; omega)]
theorem flatK_take (G : List G14) (i : Nat) : (flatK G).take (i * 14) = flatK (G.take i) := by
  apply List.ext_getElem?
  intro j
  rw [List.getElem?_take]
  by_cases hj : j < i * 14
  · rw [if_pos hj]
    by_cases h2 : j < G.length * 14
    · have h1 := flatK_get (G.take i) (j / 14) (by rw [List.length_take]; omega) (j % 14) (by omega)
      have h2 := flatK_get G (j / 14) (by omega) (j % 14) (by omega)
      rw [show j / 14 * 14 + j % 14 = j by omega] at h1 h2
      rw [h1, h2, List.getElem_take]
    · rw [List.getElem?_eq_none (by rw [flatK_length]; omega), List.getElem?_eq_none (by rw [flatK_length, List.length_take]; omega)]
  · rw [if_neg hj, List.getElem?_eq_none (by rw [flatK_length, List.length_take]; omega)]
theorem rowK_cut {w : World} {base : Nat} {e : TypeId} {g n cap i m : Nat} {xs : List Value} (h : w.ownsRow base e m (.slice (some ⟨g, 0, none⟩) n cap) n xs) (hi : i ≤ n) : w.ownsRow base e m (.slice (some ⟨g, 0, none⟩) i cap) i (xs.take (i * m)) := by
  rcases h.2 with ⟨h', _⟩ | ⟨g', cap', cur, h', hb, hg, hnc, hcm, hcs, htake⟩
  · cases h'
  · injection h' with e1 _ e3
    injection e1 with e1
    injection e1 with e1
    subst e1 e3
    have hl := h.1
    have hm : i * m ≤ n * m := Nat.mul_le_mul_right _ hi
    refine ⟨by rw [List.length_take, hl]; omega, .inr ⟨g, cap, cur, rfl, hb, hg, by omega, hcm, hcs, ?_⟩⟩
    rw [← htake, List.take_take]
    congr 1
    omega
theorem rowK_past {base : Nat} {e : TypeId} {g n cap m : Nat} {xs : List Value} : ∀ (vs : List Value) (s : Nat) (w : World), w.ownsRow base e m (.slice (some ⟨g, 0, none⟩) n cap) n xs → n * m ≤ s → (w.setCells g s vs).ownsRow base e m (.slice (some ⟨g, 0, none⟩) n cap) n xs
  | [], s, w, h, _ => h
  | v :: r, s, w, h, hs => by
    have k := (h.stored s v).1
    rw [List.set_eq_of_length_le (by rw [h.1]; exact hs)] at k
    exact rowK_past r (s + 1) _ k (by omega)
theorem belowK_set {B g : Nat} (hg : B ≤ g) : ∀ (vs : List Value) (s : Nat) (w x : World), Below B w x → Below B w (x.setCells g s vs)
  | [], s, w, x, h => h
  | v :: r, s, w, x, h => belowK_set hg r (s + 1) w _ (h.setCell (by exact hg) v)
/-- What a row holds can be read. -/
theorem rowK_kls {w : World} {base B g n cap : Nat} {e : TypeId} {G : List G14} {K : List Kn} (h : w.ownsRow base e 14 (.slice (some ⟨g, 0, none⟩) n cap) n (flatK G)) (hv : VK B w G K) (hB : B ≤ w.heap.size) : Kls w.heap.size w (some ⟨g, 0, none⟩) K := by
  intro i hi
  have hl := h.1
  rw [flatK_length] at hl
  have hgl := hv.len
  have hz := (h.lt g rfl).2
  have hi' : i < G.length := by omega
  have hgi := hv.get hi' hi
  obtain ⟨sa, sc, e, s⟩ := hv.at' i hi'
  have hc : ∀ j u, (cs14 G[i])[j]? = some u → w.cell? ⟨g, 0 + i * 14 + j, none⟩ = some u := fun j u hu => by
    have hj := (List.getElem?_eq_some_iff.1 hu).1
    rw [cs14_length] at hj
    rw [Nat.zero_add]
    exact (h.cellAt _ (by omega)).trans ((flatK_get G i hi' j hj).trans hu)
  rw [← hgi]
  refine ⟨g, 0, sa, sc, rfl, hz, fun j u hu => hc j u ?_, ?_, s.up hB⟩
  · unfold cs14
    rw [List.getElem?_append_left (List.getElem?_eq_some_iff.1 hu).1]
    exact hu
  · exact (hc 13 G[i].2 rfl).trans (by rw [e])
end Go.Proofs.Ytibfclfidaofkas
