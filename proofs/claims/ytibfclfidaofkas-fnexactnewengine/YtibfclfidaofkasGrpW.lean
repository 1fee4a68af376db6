/- Lemmas on the way, of several texts: Con, Lay, ConLaw, ConMark, ConMarkF, ConHeldF, ConMarkT. -/
import Derived.Test.YtibfclfidaofkasGrpV
import Derived.Laws.IdiomCopy
namespace Go.Proofs.Ytibfclfidaofkas
open Go.ChangeShapes Go.WideShapes Go.ChangeAt Go.RowKit
set_option maxRecDepth 100000
set_option linter.unusedVariables false
set_option linter.unusedSimpArgs false

/-- A connection. -/
structure Kn where
  id : Int
  lf : Int
  pl : Int
  k : Int
  wn : Int
  th : Int
  fl : Int
  ac : Int
  la : Int
  og : Int
  st : Int
  fr : Int
  sl : Bool
  xs : List Int
def Kn.cs (c : Kn) : List Value := [.int .i64 c.id, .int .i64 c.lf, .int .i64 c.pl, .int .i64 c.k, .int .i64 c.wn, .int .i64 c.th, .int .i64 c.fl, .int .i64 c.ac, .int .i64 c.la, .int .i64 c.og, .int .i64 c.st, .int .i64 c.fr, .bool c.sl]
theorem Kn.len (c : Kn) : c.cs.length = 13 := rfl
/-- Connections that can be read: cells of old memory. -/
def Kls (B : Nat) (w : World) (a : Option Addr) (ks : List Kn) : Prop :=
  ∀ i (h : i < ks.length), ∃ b off sa sc, a = some ⟨b, off, none⟩ ∧ b < B ∧ (∀ j v, ks[i].cs[j]? = some v → w.cell? ⟨b, off + i * 14 + j, none⟩ = some v) ∧ w.cell? ⟨b, off + i * 14 + 13, none⟩ = some (.slice sa ks[i].xs.length sc) ∧ ISmp B w sa ks[i].xs
theorem Kls.nil (B : Nat) (w : World) (a : Option Addr) : Kls B w a [] := fun i h => by cases h
theorem Kls.mono {B : Nat} {w w' : World} {a : Option Addr} {ks : List Kn} (h : Kls B w a ks) (hb : Below B w w') : Kls B w' a ks := fun i hi => by
  obtain ⟨b, off, sa, sc, e, hl, c0, c1, s⟩ := h i hi
  exact ⟨b, off, sa, sc, e, hl, fun j v hv => (hb.cell (by exact hl)).trans (c0 j v hv), (hb.cell (by exact hl)).trans c1, s.mono hb⟩
theorem Kls.up {B B' : Nat} {w : World} {a : Option Addr} {ks : List Kn} (h : Kls B w a ks) (hb : B ≤ B') : Kls B' w a ks := fun i hi => by
  obtain ⟨b, off, sa, sc, e, hl, c0, c1, s⟩ := h i hi
  exact ⟨b, off, sa, sc, e, Nat.lt_of_lt_of_le hl hb, c0, c1, s.up hb⟩
theorem Kls.here {w x : World} {a : Option Addr} {ks : List Kn} (h : Kls w.heap.size w a ks) (hb : Below w.heap.size w x) : Kls x.heap.size x a ks := (h.mono hb).up hb.size
theorem Kls.at {B : Nat} {w : World} {a : Option Addr} {ks : List Kn} (h : Kls B w a ks) {w' : World} (hb : Below B w w') (i : Nat) (hi : i < ks.length) :
    ∃ b off sa sc, a = some ⟨b, off, none⟩ ∧ b < B ∧ (∀ j v, ks[i].cs[j]? = some v → w'.cell? ⟨b, off + i * 14 + j, none⟩ = some v) ∧ w'.cell? ⟨b, off + i * 14 + 13, none⟩ = some (.slice sa ks[i].xs.length sc) ∧ ISmp B w' sa ks[i].xs := h.mono hb i hi
/-- Block g has room for n connections; the first ones are ks, their lists lie in vs. -/
structure KO (w : World) (lo hi g n : Nat) (vs : List Value) (ks : List Kn) : Prop where
  g0 : lo ≤ g
  g1 : g < hi
  top : hi ≤ w.heap.size
  len : vs.length = ks.length
  le : ks.length ≤ n
  any : ∀ j, j < n * 14 → (∃ z, w.cell? ⟨g, j, none⟩ = some z) ∧ w.frozen? ⟨g, j, none⟩ = false
  got : ∀ i (h : i < ks.length) (h' : i < vs.length), (∀ j v, ks[i].cs[j]? = some v → w.cell? ⟨g, i * 14 + j, none⟩ = some v) ∧ w.cell? ⟨g, i * 14 + 13, none⟩ = some vs[i]
  own : ∀ i (h : i < ks.length) (h' : i < vs.length), IO w lo hi vs[i] ks[i].xs
  far : ∀ i (h' : i < vs.length), elB vs[i] ≠ some g
  apart : ∀ i j (h : i < vs.length) (h' : j < vs.length), i ≠ j → ∀ b, elB vs[i] = some b → elB vs[j] ≠ some b
theorem KO.same {w w' : World} {lo hi g n : Nat} {vs : List Value} {ks : List Kn} (h : KO w lo hi g n vs ks) (hs : w.heap.size ≤ w'.heap.size) (hb : ∀ b, lo ≤ b → b < hi → w'.heap[b]? = w.heap[b]?) : KO w' lo hi g n vs ks := by
  have eg := hb g h.g0 h.g1
  refine ⟨h.g0, h.g1, Nat.le_trans h.top hs, h.len, h.le, fun j hj => ?_, fun i hi' h' => ?_, fun i hi' h' => ?_, h.far, h.apart⟩
  · obtain ⟨⟨z, hz⟩, hf⟩ := h.any j hj
    exact ⟨⟨z, (World.cell?_of_block (a := ⟨g, j, none⟩) eg).trans hz⟩, (World.frozen?_of_block (a := ⟨g, j, none⟩) eg).trans hf⟩
  · obtain ⟨c0, c1⟩ := h.got i hi' h'
    exact ⟨fun j v hv => (World.cell?_of_block (a := ⟨g, i * 14 + j, none⟩) eg).trans (c0 j v hv), (World.cell?_of_block (a := ⟨g, i * 14 + 13, none⟩) eg).trans c1⟩
  · have o := h.own i hi' h'
    exact o.same hs (fun b e => hb b (o.el e).1 (o.el e).2.1)
theorem KO.next {w w' : World} {lo hi g n : Nat} {vs : List Value} {ks : List Kn} (h : KO w lo hi g n vs ks) (hb : Below w.heap.size w w') : KO w' lo hi g n vs ks :=
  h.same hb.size (fun b _ h2 => hb.block b (Nat.lt_of_lt_of_le h2 h.top))
theorem KO.wider {w : World} {lo hi lo' hi' g n : Nat} {vs : List Value} {ks : List Kn} (h : KO w lo hi g n vs ks) (h1 : lo' ≤ lo) (h2 : hi ≤ hi') (h3 : hi' ≤ w.heap.size) : KO w lo' hi' g n vs ks :=
  ⟨Nat.le_trans h1 h.g0, Nat.lt_of_lt_of_le h.g1 h2, h3, h.len, h.le, h.any, h.got, fun i hi' h' => (h.own i hi' h').wider h1 h2, h.far, h.apart⟩
theorem KO.kls {w : World} {lo hi g n : Nat} {vs : List Value} {ks : List Kn} (h : KO w lo hi g n vs ks) : Kls w.heap.size w (some ⟨g, 0, none⟩) ks := fun i hi' => by
  have h' : i < vs.length := by rw [h.len]; exact hi'
  obtain ⟨c0, c1⟩ := h.got i hi' h'
  obtain ⟨a, cap, e, _, s⟩ := (h.own i hi' h').smp
  rw [e] at c1
  have := h.g1
  have := h.top
  exact ⟨g, 0, a, cap, rfl, by omega, fun j v hv => by rw [Nat.zero_add]; exact c0 j v hv, by rw [Nat.zero_add]; exact c1, s⟩
/-- v is the list ks of connections; all that it has lies in blocks from lo up to hi and may be written; no block serves twice. -/
def KV (w : World) (lo hi : Nat) (v : Value) (ks : List Kn) : Prop :=
  (∃ g cap vs, v = .slice (some ⟨g, 0, none⟩) ks.length cap ∧ ks.length ≤ cap ∧ KO w lo hi g ks.length vs ks) ∨ (ks = [] ∧ ∃ a c, v = .slice a 0 c)
theorem KV.zero (w : World) (lo hi : Nat) (a : Option Addr) (c : Nat) : KV w lo hi (.slice a 0 c) [] := .inr ⟨rfl, a, c, rfl⟩
theorem KV.same {w w' : World} {lo hi : Nat} {v : Value} {ks : List Kn} (h : KV w lo hi v ks) (hs : w.heap.size ≤ w'.heap.size) (hb : ∀ b, lo ≤ b → b < hi → b < w.heap.size → w'.heap[b]? = w.heap[b]?) : KV w' lo hi v ks := by
  rcases h with ⟨g, cap, vs, e, hc, f⟩ | h
  · exact .inl ⟨g, cap, vs, e, hc, f.same hs (fun b h1 h2 => hb b h1 h2 (Nat.lt_of_lt_of_le h2 f.top))⟩
  · exact .inr h
theorem KV.next {w w' : World} {lo hi : Nat} {v : Value} {ks : List Kn} (h : KV w lo hi v ks) (hb : Below w.heap.size w w') : KV w' lo hi v ks := h.same hb.size (fun b _ _ h3 => hb.block b h3)
theorem KV.onlyI {w w' : World} {lo hi lo' hi' : Nat} {v : Value} {ks : List Kn} (h : KV w lo hi v ks) (hb : OnlyI lo' hi' w w') (hd : hi ≤ lo' ∨ hi' ≤ lo) : KV w' lo hi v ks := h.same hb.size (fun b h1 h2 h3 => hb.block b h3 (by omega))
theorem KV.wider {w : World} {lo hi lo' hi' : Nat} {v : Value} {ks : List Kn} (h : KV w lo hi v ks) (h1 : lo' ≤ lo) (h2 : hi ≤ hi') (h3 : hi' ≤ w.heap.size) : KV w lo' hi' v ks := by
  rcases h with ⟨g, cap, vs, e, hc, f⟩ | h
  · exact .inl ⟨g, cap, vs, e, hc, f.wider h1 h2 h3⟩
  · exact .inr h
theorem KV.kls {w : World} {lo hi n c : Nat} {a : Option Addr} {ks : List Kn} (h : KV w lo hi (.slice a n c) ks) : n = ks.length ∧ Kls w.heap.size w a ks := by
  rcases h with ⟨g, cap, vs, e, hc, f⟩ | ⟨rfl, a', c', e⟩
  · injection e with e1 e2 e3
    subst e1 e2
    exact ⟨rfl, f.kls⟩
  · injection e with e1 e2 e3
    exact ⟨e2, Kls.nil _ _ _⟩
theorem KV.slice {w : World} {lo hi : Nat} {v : Value} {ks : List Kn} (h : KV w lo hi v ks) : ∃ a c, v = .slice a ks.length c := by
  rcases h with ⟨g, cap, vs, e, hc, f⟩ | ⟨rfl, a', c', e⟩
  · exact ⟨_, _, e⟩
  · exact ⟨_, _, e⟩
/-! A connection is stored over the k-th place. -/
theorem onlyCells {g : Nat} : ∀ (vs : List Value) (o : Nat) (w : World), Only g w (w.setCells g o vs)
  | [], _, w => Only.refl _ w
  | v :: r, o, w => ((Only.refl _ w).setCell (p := ⟨g, o, none⟩) rfl v).trans (onlyCells r (o + 1) _)
theorem sizeCells {g : Nat} : ∀ (vs : List Value) (o : Nat) (w : World), (w.setCells g o vs).heap.size = w.heap.size
  | [], _, w => rfl
  | v :: r, o, w => (sizeCells r (o + 1) _).trans (by simp)
theorem set14 {w : World} {g o : Nat} (vs : List Value) (hc : ∀ j, j < vs.length → (w.cell? ⟨g, o + j, none⟩).isSome = true) : (∀ j v, vs[j]? = some v → (w.setCells g o vs).cell? ⟨g, o + j, none⟩ = some v) ∧ (∀ i, i < o ∨ o + vs.length ≤ i → (w.setCells g o vs).cell? ⟨g, i, none⟩ = w.cell? ⟨g, i, none⟩) ∧ (∀ p, (w.setCells g o vs).frozen? p = w.frozen? p) ∧ Only g w (w.setCells g o vs) :=
  ⟨fun j v hv => by
    have hj := (List.getElem?_eq_some_iff.1 hv).1
    rw [World.cell?_setCells_in g vs o w hc j hj]
    exact congrArg some (List.getElem?_eq_some_iff.1 hv).2, fun i hi => World.cell?_setCells_out g vs o w ⟨g, i, none⟩ (fun _ _ => hi), fun p => World.frozen?_setCells g vs o w p, onlyCells vs o w⟩
theorem KO.push {w : World} {lo hi g n k : Nat} {vs : List Value} {ks : List Kn} (f : KO w lo hi g n vs ks) (ek : k = ks.length) (hk : k < n) (c : Kn) {v : Value} (hv : IO w lo w.heap.size v c.xs) (hn : ∀ b, elB v = some b → hi ≤ b) :
    KO (w.setCells g (k * 14) (c.cs ++ [v])) lo w.heap.size g n (vs ++ [v]) (ks ++ [c]) := by
  subst ek
  have hl : (c.cs ++ [v]).length = 14 := rfl
  have hc : ∀ j, j < (c.cs ++ [v]).length → (w.cell? ⟨g, ks.length * 14 + j, none⟩).isSome = true := fun j hj => by
    rw [hl] at hj
    obtain ⟨⟨z, hz⟩, _⟩ := f.any (ks.length * 14 + j) (by omega)
    rw [hz]
    rfl
  obtain ⟨s1, s2, s3, s4⟩ := set14 (c.cs ++ [v]) hc
  obtain ⟨w', hw'⟩ : ∃ w', w' = w.setCells g (ks.length * 14) (c.cs ++ [v]) := ⟨_, rfl⟩
  rw [← hw'] at s1 s2 s3 s4 ⊢
  have zs := s4.size
  have ze : w'.heap.size = w.heap.size := by rw [hw']; exact sizeCells _ _ _
  have g1 := f.g1
  have top := f.top
  have same : ∀ {u : Value} {xs : List Int} {a b : Nat}, IO w a b u xs → elB u ≠ some g → IO w' a b u xs := fun o hne => o.same zs (fun b e => s4.block b (o.el e).2.2 (fun e' => hne (by rw [e, e'])))
  have hvg : elB v ≠ some g := fun e => by have := hn g e; omega
  refine ⟨f.g0, by omega, by omega, by simp [f.len], by rw [List.length_append]; simp; omega, fun j hj => ?_, fun i h h' => ?_, fun i h h' => ?_, fun i h' => ?_, fun i j h h' hne b hb => ?_⟩
  · obtain ⟨⟨z, hz⟩, hf⟩ := f.any j hj
    refine ⟨?_, (s3 _).trans hf⟩
    by_cases hj' : j < ks.length * 14 ∨ ks.length * 14 + 14 ≤ j
    · exact ⟨z, (s2 j (by rw [hl]; exact hj')).trans hz⟩
    · obtain ⟨u, hu⟩ : ∃ u, (c.cs ++ [v])[j - ks.length * 14]? = some u := ⟨_, List.getElem?_eq_getElem (by rw [hl]; omega)⟩
      have := s1 (j - ks.length * 14) u hu
      rw [show ks.length * 14 + (j - ks.length * 14) = j by omega] at this
      exact ⟨u, this⟩
  · by_cases e : i < ks.length
    · have e' : i < vs.length := by rw [f.len]; exact e
      obtain ⟨c0, c1⟩ := f.got i e e'
      rw [List.getElem_append_left e, List.getElem_append_left e']
      refine ⟨fun j u hu => (s2 _ (by have := (List.getElem?_eq_some_iff.1 hu).1; rw [Kn.len] at this; omega)).trans (c0 j u hu), (s2 _ (by omega)).trans c1⟩
    · have ei : i = ks.length := by rw [List.length_append] at h; simp at h; omega
      have ev : i = vs.length := by rw [f.len]; exact ei
      have x1 : (ks ++ [c])[i] = c := by subst ei; simp
      have x2 : (vs ++ [v])[i] = v := by rw [List.getElem_append_right (by omega)]; simp [ev]
      rw [x1, x2, ei]
      exact ⟨fun j u hu => s1 j u (by rw [List.getElem?_append_left (List.getElem?_eq_some_iff.1 hu).1]; exact hu), s1 13 v rfl⟩
  · by_cases e : i < ks.length
    · have e' : i < vs.length := by rw [f.len]; exact e
      rw [List.getElem_append_left e, List.getElem_append_left e']
      exact same ((f.own i e e').wider (Nat.le_refl _) (by omega)) (f.far i e')
    · have ei : i = ks.length := by rw [List.length_append] at h; simp at h; omega
      have ev : i = vs.length := by rw [f.len]; exact ei
      have x1 : (ks ++ [c])[i] = c := by subst ei; simp
      have x2 : (vs ++ [v])[i] = v := by rw [List.getElem_append_right (by omega)]; simp [ev]
      rw [x1, x2]
      exact same hv hvg
  · by_cases e : i < vs.length
    · rw [List.getElem_append_left e]
      exact f.far i e
    · have ev : i = vs.length := by rw [List.length_append] at h'; simp at h'; omega
      have x2 : (vs ++ [v])[i] = v := by rw [List.getElem_append_right (by omega)]; simp [ev]
      rw [x2]
      exact hvg
  · have old : ∀ i (h : i < vs.length) b, elB vs[i] = some b → b < hi := fun i h b e => ((f.own i (by rw [← f.len]; exact h) h).el e).2.1
    by_cases e1 : i < vs.length
    · rw [List.getElem_append_left e1] at hb
      by_cases e2 : j < vs.length
      · rw [List.getElem_append_left e2]
        exact f.apart i j e1 e2 hne b hb
      · have ev : j = vs.length := by rw [List.length_append] at h'; simp at h'; omega
        have x2 : (vs ++ [v])[j] = v := by rw [List.getElem_append_right (by omega)]; simp [ev]
        rw [x2]
        intro e
        have := hn b e
        have := old i e1 b hb
        omega
    · have ev : i = vs.length := by rw [List.length_append] at h; simp at h; omega
      have x1 : (vs ++ [v])[i] = v := by rw [List.getElem_append_right (by omega)]; simp [ev]
      rw [x1] at hb
      by_cases e2 : j < vs.length
      · rw [List.getElem_append_left e2]
        intro e
        have := hn b hb
        have := old j e2 b e
        omega
      · have ev2 : j = vs.length := by rw [List.length_append] at h'; simp at h'; omega
        omega
end Go.Proofs.Ytibfclfidaofkas
namespace Go.Proofs.Ytibfclfidaofkas
open Go.ChangeShapes Go.WideShapes Go.ChangeAt Go.RowKit
set_option maxRecDepth 100000
set_option linter.unusedVariables false
set_option linter.unusedSimpArgs false

/-- The first cells of block b are vs; it may be written. -/
structure Lay (u : World) (b : Nat) (vs : List Value) : Prop where
  cell : ∀ j v, vs[j]? = some v → u.cell? ⟨b, j, none⟩ = some v
  free : ∀ o : Nat, u.frozen? ⟨b, o, none⟩ = false
  lt : b < u.heap.size
theorem Lay.next {u u' : World} {b : Nat} {vs : List Value} (h : Lay u b vs) (hb : Below u.heap.size u u') : Lay u' b vs :=
  ⟨fun j v hv => (hb.cell (by exact h.lt)).trans (h.cell j v hv), fun o => (hb.frozen (by exact h.lt)).trans (h.free o), Nat.lt_of_lt_of_le h.lt hb.size⟩
theorem Lay.only {u u' : World} {b g : Nat} {vs : List Value} (h : Lay u b vs) (o : Only g u u') (hne : b ≠ g) : Lay u' b vs :=
  ⟨fun j v hv => (o.cell (by exact h.lt) (by exact hne)).trans (h.cell j v hv), fun k => (o.frozen (by exact h.lt) (by exact hne)).trans (h.free k), Nat.lt_of_lt_of_le h.lt o.size⟩
theorem Lay.put {u : World} {b : Nat} {p q r : List Value} (h : Lay u b (p ++ (q ++ r))) (us : List Value) (e : us.length = q.length) : Lay (u.setCells b p.length us) b (p ++ (us ++ r)) := by
  have hc : ∀ j, j < us.length → (u.cell? ⟨b, p.length + j, none⟩).isSome = true := fun j hj => by
    rw [h.cell (p.length + j) q[j] (by rw [List.getElem?_append_right (by omega), List.getElem?_append_left (by omega)]; simp)]
    rfl
  obtain ⟨s1, s2, s3, s4⟩ := set14 us hc
  refine ⟨fun j v hv => ?_, fun o => (s3 _).trans (h.free o), Nat.lt_of_lt_of_le h.lt s4.size⟩
  by_cases h1 : j < p.length
  · refine (s2 j (.inl h1)).trans (h.cell j v ?_)
    rw [List.getElem?_append_left h1] at hv ⊢
    exact hv
  · rw [List.getElem?_append_right (by omega)] at hv
    by_cases h2 : j - p.length < us.length
    · rw [List.getElem?_append_left h2] at hv
      have := s1 _ v hv
      rwa [show p.length + (j - p.length) = j by omega] at this
    · rw [List.getElem?_append_right (by omega)] at hv
      refine (s2 j (.inr (by omega))).trans (h.cell j v ?_)
      rw [List.getElem?_append_right (by omega), List.getElem?_append_right (by omega), ← e]
      exact hv
theorem lay_new {u : World} {b : Nat} (cs : List Value) (t : TypeId) (e : b = u.heap.size) : Lay (u.alloc (.cells cs.toArray t)) b cs := by
  subst e
  refine ⟨fun j v hv => ?_, fun o => by go_simp, by simp⟩
  have hh : (u.alloc (.cells cs.toArray t)).heap[u.heap.size]? = some (.cells cs.toArray t) := by show (u.heap.push _)[u.heap.size]? = _; exact Array.getElem?_push_size
  unfold World.cell?
  rw [hh]
  show (if (none : Option _).isSome then none else cs.toArray[j]?) = some v
  rw [if_neg (by simp)]
  simpa using hv
theorem Lay.alloc {u : World} {b : Nat} {vs : List Value} (h : Lay u b vs) (cs : Array Value) (t : TypeId) : Lay (u.alloc (.cells cs t)) b vs := h.next (by go_grown)
end Go.Proofs.Ytibfclfidaofkas
namespace Go.Proofs.Ytibfclfidaofkas
open Go.ChangeShapes Go.WideShapes Go.ChangeAt Go.RowKit
set_option maxRecDepth 100000
set_option linter.unusedVariables false
set_option linter.unusedSimpArgs false

def sumK (ks : List Kn) (k : Nat) : Nat := ((ks.take k).map fun c => c.xs.length).sum
theorem sumK_next {ks : List Kn} {k : Nat} (h : k < ks.length) : sumK ks (k + 1) = sumK ks k + ks[k].xs.length := by
  unfold sumK
  rw [List.take_succ_eq_append_getElem h, List.map_append, List.sum_append]
  simp
theorem sumK_le (ks : List Kn) (k : Nat) : ∀ d, sumK ks k ≤ sumK ks (k + d)
  | 0 => Nat.le_refl _
  | d + 1 => by
    refine Nat.le_trans (sumK_le ks k d) ?_
    by_cases h : k + d < ks.length
    · rw [show k + (d + 1) = k + d + 1 by omega, sumK_next h]
      omega
    · unfold sumK
      rw [List.take_of_length_le (by omega), List.take_of_length_le (by omega)]
      exact Nat.le_refl _
theorem sumK_mono (ks : List Kn) {k m : Nat} (h : k ≤ m) : sumK ks k ≤ sumK ks m := by
  have := sumK_le ks k (m - k)
  rwa [show k + (m - k) = m by omega] at this
theorem szConn_gen (c : Kn) (a : Option Addr) (n cap : Nat) (left : Int) (w : World) (hn : (n : Int) ≤ 9223372036854775807) (h0 : 0 ≤ left) (h1 : left ≤ 1048576) :
    Calls Try.prog 53 #[.agg #[.int .i64 c.id, .int .i64 c.lf, .int .i64 c.pl, .int .i64 c.k, .int .i64 c.wn, .int .i64 c.th, .int .i64 c.fl, .int .i64 c.ac, .int .i64 c.la, .int .i64 c.og, .int .i64 c.st, .int .i64 c.fr, .bool c.sl, .slice a n cap], .int .i64 left] w fun e w' => e = .returned (.int .i64 (if (n : Int) ≤ left then left - n else -1)) ∧ Below w.heap.size w w' := by
  by_cases h : (n : Int) ≤ left
  · have f : (0 : Int) ≤ left - (n : Int) := by omega
    rw [if_pos h]
    go_enter Try.func53, Try.ntmps53
    go_wp2_with (first | (go_at_call 90; refine (szInt64S_gen _ _ _ _ _ hn h0 h1).mono ?_; rintro e w2 ⟨rfl, rfl⟩; rw [if_pos h]))
    go_ret
    exact ⟨rfl, by go_grown⟩
  · rw [if_neg h]
    go_enter Try.func53, Try.ntmps53
    go_wp2_with (first | (go_at_call 90; refine (szInt64S_gen _ _ _ _ _ hn h0 h1).mono ?_; rintro e w2 ⟨rfl, rfl⟩; rw [if_neg h]))
    go_ret
    exact ⟨rfl, by go_grown⟩
set_option maxHeartbeats 2000000 in
theorem szConnS_gen {w : World} {a : Option Addr} (cap : Nat) {ks : List Kn} (left : Int) (h0 : 0 ≤ left) (h1 : left ≤ 1048576) (h : Kls w.heap.size w a ks) (hm : ks.length ≤ maxLen) (hs : ∀ c ∈ ks, c.xs.length ≤ maxLen) :
    Calls Try.prog 20 #[.slice a ks.length cap, .int .i64 left] w fun e w' => e = .returned (.int .i64 (if (ks.length : Int) + (sumK ks ks.length : Int) ≤ left then left - (ks.length : Int) - (sumK ks ks.length : Int) else -1)) ∧ Below w.heap.size w w' := by
  have hm' : (ks.length : Int) ≤ 9223372036854775807 := by unfold maxLen at hm; omega
  obtain ⟨r, hr⟩ : ∃ r : Int, (if (ks.length : Int) + (sumK ks ks.length : Int) ≤ left then left - (ks.length : Int) - (sumK ks ks.length : Int) else -1) = r := ⟨_, rfl⟩
  have HR : Hid ((if (ks.length : Int) + (sumK ks ks.length : Int) ≤ left then left - (ks.length : Int) - (sumK ks ks.length : Int) else -1) = r) := hr
  rw [hr]
  clear hr
  have rl : IntKind.i64.wrap (left - (ks.length : Int)) = left - (ks.length : Int) := by rw [IntKind.wrap_i64]; omega
  by_cases hn : (ks.length : Int) ≤ left
  · have f : (0 : Int) ≤ left - (ks.length : Int) := by omega
    go_enter Try.func20, Try.ntmps20
    go_wp2
    go_loopw [1, 5] (fun l i wr => ∃ k : Nat, i = .int .i64 k ∧ k ≤ ks.length ∧ l = .int .i64 (left - (ks.length : Int) - (sumK ks k : Int)) ∧ (ks.length : Int) + (sumK ks k : Int) ≤ left ∧ Below w.heap.size w wr) (fun _ i _ => ks.length - (intOf i).toNat)
    case atStart => exact ⟨0, rfl, by omega, by show _ = Value.int .i64 (left - (ks.length : Int) - (0 : Nat)); rw [Int.natCast_zero, Int.sub_zero], by show (ks.length : Int) + (0 : Nat) ≤ _; omega, Below.refl _ _⟩
    case round =>
      obtain ⟨k, rfl, hk, rfl, hle, hb⟩ := hrel
      by_cases hlt : k < ks.length
      · obtain ⟨b, off, sa, sc, rfl, hbl, c0, c1, _⟩ := h.at hb k hlt
        have hlt' : (k : Int) < (ks.length : Int) := by omega
        have hsk := hs _ (List.getElem_mem hlt)
        have hnx := sumK_next hlt
        have hmo := sumK_mono ks (show k + 1 ≤ ks.length by omega)
        obtain ⟨c, hc⟩ : ∃ c, ks[k] = c := ⟨_, rfl⟩
        rw [hc] at c0 c1 hsk hnx
        obtain ⟨m, hmm⟩ : ∃ m, c.xs.length = m := ⟨_, rfl⟩
        rw [hmm] at c1 hsk hnx
        obtain ⟨s, hss⟩ : ∃ s, sumK ks k = s := ⟨_, rfl⟩
        rw [hss] at hle hnx ⊢
        have d0 : wr.cell? ⟨b, off + k * 14, none⟩ = some (.int .i64 c.id) := c0 0 _ rfl
        have d1 : wr.cell? ⟨b, off + k * 14 + 1, none⟩ = some (.int .i64 c.lf) := c0 1 _ rfl
        have d2 : wr.cell? ⟨b, off + k * 14 + 2, none⟩ = some (.int .i64 c.pl) := c0 2 _ rfl
        have d3 : wr.cell? ⟨b, off + k * 14 + 3, none⟩ = some (.int .i64 c.k) := c0 3 _ rfl
        have d4 : wr.cell? ⟨b, off + k * 14 + 4, none⟩ = some (.int .i64 c.wn) := c0 4 _ rfl
        have d5 : wr.cell? ⟨b, off + k * 14 + 5, none⟩ = some (.int .i64 c.th) := c0 5 _ rfl
        have d6 : wr.cell? ⟨b, off + k * 14 + 6, none⟩ = some (.int .i64 c.fl) := c0 6 _ rfl
        have d7 : wr.cell? ⟨b, off + k * 14 + 7, none⟩ = some (.int .i64 c.ac) := c0 7 _ rfl
        have d8 : wr.cell? ⟨b, off + k * 14 + 8, none⟩ = some (.int .i64 c.la) := c0 8 _ rfl
        have d9 : wr.cell? ⟨b, off + k * 14 + 9, none⟩ = some (.int .i64 c.og) := c0 9 _ rfl
        have d10 : wr.cell? ⟨b, off + k * 14 + 10, none⟩ = some (.int .i64 c.st) := c0 10 _ rfl
        have d11 : wr.cell? ⟨b, off + k * 14 + 11, none⟩ = some (.int .i64 c.fr) := c0 11 _ rfl
        have d12 : wr.cell? ⟨b, off + k * 14 + 12, none⟩ = some (.bool c.sl) := c0 12 _ rfl
        have hl0 : (0 : Int) ≤ left - (ks.length : Int) - (s : Int) := by omega
        have hl1 : left - (ks.length : Int) - (s : Int) ≤ 1048576 := by omega
        have hmi : (m : Int) ≤ 9223372036854775807 := by unfold maxLen at hsk; omega
        have HN : Hid (sumK ks (k + 1) = s + m) := hnx
        have HM : Hid (sumK ks (k + 1) ≤ sumK ks ks.length) := hmo
        clear hmm hss hnx hmo hc c0
        by_cases hc : (m : Int) ≤ left - (ks.length : Int) - (s : Int)
        · have f0 : (0 : Int) ≤ left - (ks.length : Int) - (s : Int) - (m : Int) := by omega
          go_wp2_with (first | (go_at_call 53; refine (szConn_gen _ _ _ _ _ _ hmi hl0 hl1).mono ?_; rintro e w2 ⟨rfl, hb2⟩; rw [if_pos hc]))
          go_roundw
          case rel =>
            refine ⟨k + 1, by go_num, by omega, ?_, by rw [HN.out]; omega, below_step hb hb2⟩
            rw [HN.out]
            congr 1
            omega
          case measure => first | (simp [intOf]; done) | (simp [intOf]; omega)
        · go_wp2_with (first | (go_at_call 53; refine (szConn_gen _ _ _ _ _ _ hmi hl0 hl1).mono ?_; rintro e w2 ⟨rfl, hb2⟩; rw [if_neg hc]))
          go_ret
          exact ⟨congrArg (fun x => Ending.returned (.int .i64 x)) ((if_neg (by have := HN.out; have := HM.out; omega)).symm.trans HR.out), below_step hb hb2⟩
      · have e : k = ks.length := by omega
        subst e
        have HL : Hid ((ks.length : Int) + (sumK ks ks.length : Int) ≤ left) := hle
        clear hle
        go_wp2
        go_ret
        exact ⟨congrArg (fun x => Ending.returned (.int .i64 x)) ((if_pos HL.out).symm.trans HR.out), hb⟩
  · have f : left - (ks.length : Int) < 0 := by omega
    have e : r = -1 := HR.out.symm.trans (if_neg (by omega))
    subst e
    go_enter Try.func20, Try.ntmps20
    go_wp2
    go_ret
    exact ⟨rfl, Below.refl _ _⟩
end Go.Proofs.Ytibfclfidaofkas
namespace Go.Proofs.Ytibfclfidaofkas
open Go.ChangeShapes Go.WideShapes Go.ChangeAt Go.RowKit
set_option maxRecDepth 100000
set_option linter.unusedVariables false
set_option linter.unusedSimpArgs false

/-- A connection that is marked from K on. -/
def mk1 (K : Int) (n : Nat) : Kn := ⟨K, K + 1, K + 1 + 1, K + 1 + 1 + 1, K + 1 + 1 + 1 + 1, K + 1 + 1 + 1 + 1 + 1, K + 1 + 1 + 1 + 1 + 1 + 1, K + 1 + 1 + 1 + 1 + 1 + 1 + 1, K + 1 + 1 + 1 + 1 + 1 + 1 + 1 + 1, K + 1 + 1 + 1 + 1 + 1 + 1 + 1 + 1 + 1, K + 1 + 1 + 1 + 1 + 1 + 1 + 1 + 1 + 1 + 1, K + 1 + 1 + 1 + 1 + 1 + 1 + 1 + 1 + 1 + 1 + 1, (K + 1 + 1 + 1 + 1 + 1 + 1 + 1 + 1 + 1 + 1 + 1 + 1) % 3 == 0, marksI (K + 13) n⟩
def mvs (K : Int) : List Value := [.int .i64 (K), .int .i64 (K + 1), .int .i64 (K + 1 + 1), .int .i64 (K + 1 + 1 + 1), .int .i64 (K + 1 + 1 + 1 + 1), .int .i64 (K + 1 + 1 + 1 + 1 + 1), .int .i64 (K + 1 + 1 + 1 + 1 + 1 + 1), .int .i64 (K + 1 + 1 + 1 + 1 + 1 + 1 + 1), .int .i64 (K + 1 + 1 + 1 + 1 + 1 + 1 + 1 + 1), .int .i64 (K + 1 + 1 + 1 + 1 + 1 + 1 + 1 + 1 + 1), .int .i64 (K + 1 + 1 + 1 + 1 + 1 + 1 + 1 + 1 + 1 + 1), .int .i64 (K + 1 + 1 + 1 + 1 + 1 + 1 + 1 + 1 + 1 + 1 + 1), .bool ((K + 1 + 1 + 1 + 1 + 1 + 1 + 1 + 1 + 1 + 1 + 1 + 1) % 3 == 0)]
theorem Only.toI {g lo hi : Nat} {w w' : World} (h : Only g w w') (h1 : lo ≤ g) (h2 : g < hi) : OnlyI lo hi w w' := ⟨h.os, h.tape, h.output, h.size, fun k hk hn => h.block k hk (by omega)⟩
def kAtK (k : Int) (ks : List Kn) (i : Nat) : Int := k + 13 * (i : Int) + (sumK ks i : Int)
def markK (k : Int) (ks : List Kn) : List Kn := ks.mapIdx fun i c => mk1 (kAtK k ks i) c.xs.length
theorem markK_length (k : Int) (ks : List Kn) : (markK k ks).length = ks.length := by simp [markK]
theorem markK_get (k : Int) (ks : List Kn) (i : Nat) (h : i < (markK k ks).length) (h' : i < ks.length) : (markK k ks)[i] = mk1 (kAtK k ks i) ks[i].xs.length := by simp [markK]
theorem kAtK_next {k : Int} {ks : List Kn} {i : Nat} (h : i < ks.length) : kAtK k ks (i + 1) = kAtK k ks i + 13 + (ks[i].xs.length : Int) := by
  unfold kAtK
  rw [sumK_next h]
  omega
theorem kAtK_nil (k : Int) : kAtK k [] 0 = k := by show k + 13 * (0 : Int) + (0 : Int) = k; omega
theorem kAtK_pos {k : Int} {ks : List Kn} (k0 : 0 ≤ k) (i : Nat) : 0 ≤ kAtK k ks i := by unfold kAtK; omega
/-- The first i of A, then the others of B. -/
def mixK (A B : List Kn) (i : Nat) : List Kn := A.take i ++ B.drop i
theorem mixK_length {A B : List Kn} (h : A.length = B.length) {i : Nat} (hi : i ≤ B.length) : (mixK A B i).length = B.length := by
  unfold mixK
  rw [List.length_append, List.length_take, List.length_drop]
  omega
theorem mixK_zero (A B : List Kn) : mixK A B 0 = B := by simp [mixK]
theorem mixK_all {A B : List Kn} (h : A.length = B.length) : mixK A B B.length = A := by
  unfold mixK
  rw [List.take_of_length_le (by omega), List.drop_eq_nil_of_le (Nat.le_refl _), List.append_nil]
theorem mixK_at {A B : List Kn} (h : A.length = B.length) {i : Nat} (hi : i < B.length) (h' : i < (mixK A B i).length) : (mixK A B i)[i] = B[i] := by
  have e : (mixK A B i)[i]? = B[i]? := by
    unfold mixK
    rw [List.getElem?_append_right (by rw [List.length_take]; omega), List.getElem?_drop]
    congr 1
    rw [List.length_take]
    omega
  rw [List.getElem?_eq_getElem h', List.getElem?_eq_getElem hi] at e
  exact Option.some.inj e
theorem mixK_set {A B : List Kn} (h : A.length = B.length) {i : Nat} (hi : i < B.length) (ha : i < A.length) : (mixK A B i).set i A[i] = mixK A B (i + 1) := by
  unfold mixK
  rw [List.set_append_right _ _ (by rw [List.length_take]; omega), List.drop_eq_getElem_cons hi, List.take_succ_eq_append_getElem ha, List.append_assoc]
  congr 1
  rw [show i - (A.take i).length = 0 by rw [List.length_take]; omega]
  rfl
theorem KO.turn {w w' : World} {lo hi g n i : Nat} {vs : List Value} {ks : List Kn} (f : KO w lo hi g n vs ks) (hi' : i < ks.length) (hv : i < vs.length) {c : Kn} {v : Value} (hs : w.heap.size ≤ w'.heap.size)
    (hb : ∀ b, lo ≤ b → b < hi → b ≠ g → elB vs[i] ≠ some b → w'.heap[b]? = w.heap[b]?) (hc : ∀ j, j < i * 14 ∨ i * 14 + 13 < j → w'.cell? ⟨g, j, none⟩ = w.cell? ⟨g, j, none⟩) (hf : ∀ j, w'.frozen? ⟨g, j, none⟩ = w.frozen? ⟨g, j, none⟩)
    (c0 : ∀ j u, c.cs[j]? = some u → w'.cell? ⟨g, i * 14 + j, none⟩ = some u) (c1 : w'.cell? ⟨g, i * 14 + 13, none⟩ = some v) (ho : IO w' lo hi v c.xs) (he : ∀ b, elB v = some b → elB vs[i] = some b) :
    KO w' lo hi g n (vs.set i v) (ks.set i c) := by
  have le := f.le
  refine ⟨f.g0, f.g1, Nat.le_trans f.top hs, by simp [f.len], by simp [f.le], fun j hj => ⟨?_, (hf j).trans (f.any j hj).2⟩, fun k hk hk' => ?_, fun k hk hk' => ?_, fun k hk => ?_, fun k j hk hj hne b e => ?_⟩
  · by_cases e0 : j < i * 14 ∨ i * 14 + 13 < j
    · obtain ⟨z, hz⟩ := (f.any j hj).1
      exact ⟨z, (hc j e0).trans hz⟩
    · by_cases e1 : j = i * 14 + 13
      · subst e1; exact ⟨_, c1⟩
      · obtain ⟨u, hu⟩ : ∃ u, c.cs[j - i * 14]? = some u := ⟨_, List.getElem?_eq_getElem (by rw [Kn.len]; omega)⟩
        have := c0 _ u hu
        rw [show i * 14 + (j - i * 14) = j by omega] at this
        exact ⟨u, this⟩
  · rw [List.getElem_set, List.getElem_set]
    by_cases e : i = k
    · subst e
      rw [if_pos rfl, if_pos rfl]
      exact ⟨c0, c1⟩
    · rw [if_neg e, if_neg e]
      obtain ⟨k0, k1⟩ := f.got k (by simpa using hk) (by simpa using hk')
      exact ⟨fun j u hu => (hc _ (by have := (List.getElem?_eq_some_iff.1 hu).1; rw [Kn.len] at this; omega)).trans (k0 j u hu), (hc _ (by omega)).trans k1⟩
  · rw [List.getElem_set, List.getElem_set]
    by_cases e : i = k
    · subst e
      rw [if_pos rfl, if_pos rfl]
      exact ho
    · rw [if_neg e, if_neg e]
      have kv : k < vs.length := by simpa using hk'
      have o := f.own k (by simpa using hk) kv
      exact o.same hs (fun b eb => hb b (o.el eb).1 (o.el eb).2.1 (fun e' => f.far k kv (by rw [eb, e'])) (fun e' => f.apart i k hv kv e b e' eb))
  · rw [List.getElem_set]
    by_cases e : i = k
    · rw [if_pos e]
      intro e'
      exact f.far i hv (he g e')
    · rw [if_neg e]
      exact f.far k (by simpa using hk)
  · rw [List.getElem_set] at e ⊢
    by_cases e1 : i = k
    · subst e1
      rw [if_pos rfl] at e
      rw [if_neg hne]
      exact f.apart i j hv (by simpa using hj) hne b (he b e)
    · rw [if_neg e1] at e
      by_cases e2 : i = j
      · rw [if_pos e2]
        intro e'
        exact f.apart k i (by simpa using hk) hv (by omega) b e (he b e')
      · rw [if_neg e2]
        exact f.apart k j (by simpa using hk) (by simpa using hj) hne b e
end Go.Proofs.Ytibfclfidaofkas
namespace Go.Proofs.Ytibfclfidaofkas
open Go.ChangeShapes Go.WideShapes Go.ChangeAt Go.RowKit
set_option maxRecDepth 100000
set_option linter.unusedVariables false
set_option linter.unusedSimpArgs false

set_option maxHeartbeats 8000000 in
theorem markConns_any {w : World} {lo hi g : Nat} {vs : List Value} {ks : List Kn} (cap : Nat) (k : Int) (f : KO w lo hi g ks.length vs ks) (hn : ks.length + sumK ks ks.length ≤ 1048576) (k0 : 0 ≤ k) (k1 : k ≤ 100000000) :
    Calls Try.prog 47 #[.slice (some ⟨g, 0, none⟩) ks.length cap, .int .i64 k] w fun e w' => e = .returned (.int .i64 (kAtK k ks ks.length)) ∧ KO w' lo hi g ks.length vs (markK k ks) ∧ OnlyI lo hi w w' := by
  have hML := markK_length k ks
  have hni : (ks.length : Int) ≤ 1048576 := by omega
  go_enter Try.func47, Try.ntmps47
  go_wp2
  go_loopw [1, 5] (fun s i wr => ∃ j : Nat, i = .int .i64 j ∧ j ≤ ks.length ∧ s = .int .i64 (kAtK k ks j) ∧ KO wr lo hi g ks.length vs (mixK (markK k ks) ks j) ∧ OnlyI lo hi w wr) (fun _ i _ => ks.length - (intOf i).toNat)
  case atStart => exact ⟨0, rfl, by omega, by show _ = Value.int .i64 (k + 13 * (0 : Int) + (0 : Int)); congr 1; omega, by rw [mixK_zero]; exact f, OnlyI.refl _ _ _⟩
  case round =>
    obtain ⟨j, rfl, hj, rfl, fr, hO⟩ := hrel
    by_cases hlt : j < ks.length
    · have hlt' : (j : Int) < (ks.length : Int) := by omega
      have hm : j < (mixK (markK k ks) ks j).length := by rw [mixK_length hML hj]; exact hlt
      have hv : j < vs.length := by rw [fr.len]; exact hm
      obtain ⟨cz, c13⟩ := fr.got j hm hv
      have ho := fr.own j hm hv
      have hfar := fr.far j hv
      rw [mixK_at hML hlt hm] at cz ho
      have hset := mixK_set hML hlt (by rw [hML]; exact hlt)
      rw [markK_get k ks j (by rw [hML]; exact hlt) hlt] at hset
      have hmo := sumK_mono ks (show j + 1 ≤ ks.length by omega)
      rw [sumK_next hlt] at hmo
      have hk2 := kAtK_next (k := k) hlt
      have hkb : k ≤ kAtK k ks j ∧ kAtK k ks j ≤ 200000000 := by unfold kAtK; omega
      have FZ : Hid (∀ m, m < 14 → wr.frozen? ⟨g, j * 14 + m, none⟩ = false) := fun m hm => (fr.any (j * 14 + m) (by omega)).2
      have g0 := fr.g0
      have g1 := fr.g1
      have tp := fr.top
      obtain ⟨K, hK⟩ : ∃ K, kAtK k ks j = K := ⟨_, rfl⟩
      rw [hK] at hset hk2 hkb ⊢
      obtain ⟨cc, hx⟩ : ∃ x, ks[j] = x := ⟨_, rfl⟩
      rw [hx] at cz ho hset hmo hk2
      obtain ⟨xs, hxs⟩ : ∃ xs, cc.xs = xs := ⟨_, rfl⟩
      rw [hxs] at ho hset hmo hk2
      obtain ⟨va, hva⟩ : ∃ va, vs[j] = va := ⟨_, rfl⟩
      rw [hva] at c13 ho hfar
      have HVA : Hid (vs[j] = va) := hva
      have HSET : Hid ((mixK (markK k ks) ks j).set j (mk1 K xs.length) = mixK (markK k ks) ks (j + 1)) := hset
      have HK2 : Hid (kAtK k ks (j + 1) = K + 13 + (xs.length : Int)) := hk2
      have HFR : Hid (KO wr lo hi g ks.length vs (mixK (markK k ks) ks j)) := fr
      have hxl : xs.length ≤ 1048576 := by omega
      have hkb0 := hkb.1
      have hkb1 := hkb.2
      obtain ⟨sa, sc, e, hcp, hio⟩ := ho
      subst e
      have hgw : g < wr.heap.size := by omega
      have d1 : Hid (wr.cell? ⟨g, j * 14 + 1, none⟩ = some (.int .i64 cc.lf)) := cz 1 _ rfl
      have d2 : Hid (wr.cell? ⟨g, j * 14 + 2, none⟩ = some (.int .i64 cc.pl)) := cz 2 _ rfl
      have d3 : Hid (wr.cell? ⟨g, j * 14 + 3, none⟩ = some (.int .i64 cc.k)) := cz 3 _ rfl
      have d4 : Hid (wr.cell? ⟨g, j * 14 + 4, none⟩ = some (.int .i64 cc.wn)) := cz 4 _ rfl
      have d5 : Hid (wr.cell? ⟨g, j * 14 + 5, none⟩ = some (.int .i64 cc.th)) := cz 5 _ rfl
      have d6 : Hid (wr.cell? ⟨g, j * 14 + 6, none⟩ = some (.int .i64 cc.fl)) := cz 6 _ rfl
      have d7 : Hid (wr.cell? ⟨g, j * 14 + 7, none⟩ = some (.int .i64 cc.ac)) := cz 7 _ rfl
      have d8 : Hid (wr.cell? ⟨g, j * 14 + 8, none⟩ = some (.int .i64 cc.la)) := cz 8 _ rfl
      have d9 : Hid (wr.cell? ⟨g, j * 14 + 9, none⟩ = some (.int .i64 cc.og)) := cz 9 _ rfl
      have d10 : Hid (wr.cell? ⟨g, j * 14 + 10, none⟩ = some (.int .i64 cc.st)) := cz 10 _ rfl
      have d11 : Hid (wr.cell? ⟨g, j * 14 + 11, none⟩ = some (.int .i64 cc.fr)) := cz 11 _ rfl
      have d12 : Hid (wr.cell? ⟨g, j * 14 + 12, none⟩ = some (.bool cc.sl)) := cz 12 _ rfl
      have d13 : Hid (wr.cell? ⟨g, j * 14 + 13, none⟩ = some (.slice sa xs.length sc)) := c13
      have c0 : wr.cell? ⟨g, j * 14, none⟩ = some (.int .i64 cc.id) := cz 0 _ rfl
      have u0 : wr.frozen? ⟨g, j * 14, none⟩ = false := FZ.out 0 (by omega)
      have HAL : Hid (∀ m, m < (mvs K).length → (wr.cell? ⟨g, j * 14 + m, none⟩).isSome = true) := fun m hm' => by
        obtain ⟨z, hz⟩ := (fr.any (j * 14 + m) (by have : m < 13 := hm'; omega)).1
        rw [hz]
        rfl
      clear hva hx hxs hK hset hk2 fr hkb hmo cz c13
      have HIO : Hid (IO wr lo hi (.slice sa xs.length sc) xs) := ⟨sa, sc, rfl, hcp, hio⟩
      clear hio
      go_upto_region 6 with (fail)
      obtain ⟨W1, h1⟩ : ∃ x, x = wr.setCells g (j * 14) [.int .i64 (K)] := ⟨_, rfl⟩
      have h' : wr.setCell ⟨g, j * 14, none⟩ (.int .i64 (K)) = W1 := by rw [h1]; rfl
      rw [h']
      clear h' c0 u0
      replace h1 : Hid (W1 = wr.setCells g (j * 14) [.int .i64 (K)]) := h1
      have c1 : W1.cell? ⟨g, j * 14 + 1, none⟩ = some (.int .i64 cc.lf) := by rw [h1.out]; exact (World.cell?_setCells_out g _ _ wr ⟨g, j * 14 + 1, none⟩ (fun _ _ => .inr (Nat.le_refl _))).trans d1.out
      have u1 : W1.frozen? ⟨g, j * 14 + 1, none⟩ = false := by rw [h1.out, World.frozen?_setCells]; exact (FZ.out 1 (by omega))
      go_upto_region 8 with (fail)
      obtain ⟨W2, h2⟩ : ∃ x, x = wr.setCells g (j * 14) [.int .i64 (K), .int .i64 (K + 1)] := ⟨_, rfl⟩
      have h' : W1.setCell ⟨g, j * 14 + 1, none⟩ (.int .i64 (K + 1)) = W2 := by rw [h2, h1.out]; rfl
      rw [h']
      clear h' c1 u1 h1
      replace h2 : Hid (W2 = wr.setCells g (j * 14) [.int .i64 (K), .int .i64 (K + 1)]) := h2
      have c2 : W2.cell? ⟨g, j * 14 + 2, none⟩ = some (.int .i64 cc.pl) := by rw [h2.out]; exact (World.cell?_setCells_out g _ _ wr ⟨g, j * 14 + 2, none⟩ (fun _ _ => .inr (Nat.le_refl _))).trans d2.out
      have u2 : W2.frozen? ⟨g, j * 14 + 2, none⟩ = false := by rw [h2.out, World.frozen?_setCells]; exact (FZ.out 2 (by omega))
      go_upto_region 10 with (fail)
      obtain ⟨W3, h3⟩ : ∃ x, x = wr.setCells g (j * 14) [.int .i64 (K), .int .i64 (K + 1), .int .i64 (K + 1 + 1)] := ⟨_, rfl⟩
      have h' : W2.setCell ⟨g, j * 14 + 2, none⟩ (.int .i64 (K + 1 + 1)) = W3 := by rw [h3, h2.out]; rfl
      rw [h']
      clear h' c2 u2 h2
      replace h3 : Hid (W3 = wr.setCells g (j * 14) [.int .i64 (K), .int .i64 (K + 1), .int .i64 (K + 1 + 1)]) := h3
      have c3 : W3.cell? ⟨g, j * 14 + 3, none⟩ = some (.int .i64 cc.k) := by rw [h3.out]; exact (World.cell?_setCells_out g _ _ wr ⟨g, j * 14 + 3, none⟩ (fun _ _ => .inr (Nat.le_refl _))).trans d3.out
      have u3 : W3.frozen? ⟨g, j * 14 + 3, none⟩ = false := by rw [h3.out, World.frozen?_setCells]; exact (FZ.out 3 (by omega))
      go_upto_region 12 with (fail)
      obtain ⟨W4, h4⟩ : ∃ x, x = wr.setCells g (j * 14) [.int .i64 (K), .int .i64 (K + 1), .int .i64 (K + 1 + 1), .int .i64 (K + 1 + 1 + 1)] := ⟨_, rfl⟩
      have h' : W3.setCell ⟨g, j * 14 + 3, none⟩ (.int .i64 (K + 1 + 1 + 1)) = W4 := by rw [h4, h3.out]; rfl
      rw [h']
      clear h' c3 u3 h3
      replace h4 : Hid (W4 = wr.setCells g (j * 14) [.int .i64 (K), .int .i64 (K + 1), .int .i64 (K + 1 + 1), .int .i64 (K + 1 + 1 + 1)]) := h4
      have c4 : W4.cell? ⟨g, j * 14 + 4, none⟩ = some (.int .i64 cc.wn) := by rw [h4.out]; exact (World.cell?_setCells_out g _ _ wr ⟨g, j * 14 + 4, none⟩ (fun _ _ => .inr (Nat.le_refl _))).trans d4.out
      have u4 : W4.frozen? ⟨g, j * 14 + 4, none⟩ = false := by rw [h4.out, World.frozen?_setCells]; exact (FZ.out 4 (by omega))
      go_upto_region 14 with (fail)
      obtain ⟨W5, h5⟩ : ∃ x, x = wr.setCells g (j * 14) [.int .i64 (K), .int .i64 (K + 1), .int .i64 (K + 1 + 1), .int .i64 (K + 1 + 1 + 1), .int .i64 (K + 1 + 1 + 1 + 1)] := ⟨_, rfl⟩
      have h' : W4.setCell ⟨g, j * 14 + 4, none⟩ (.int .i64 (K + 1 + 1 + 1 + 1)) = W5 := by rw [h5, h4.out]; rfl
      rw [h']
      clear h' c4 u4 h4
      replace h5 : Hid (W5 = wr.setCells g (j * 14) [.int .i64 (K), .int .i64 (K + 1), .int .i64 (K + 1 + 1), .int .i64 (K + 1 + 1 + 1), .int .i64 (K + 1 + 1 + 1 + 1)]) := h5
      have c5 : W5.cell? ⟨g, j * 14 + 5, none⟩ = some (.int .i64 cc.th) := by rw [h5.out]; exact (World.cell?_setCells_out g _ _ wr ⟨g, j * 14 + 5, none⟩ (fun _ _ => .inr (Nat.le_refl _))).trans d5.out
      have u5 : W5.frozen? ⟨g, j * 14 + 5, none⟩ = false := by rw [h5.out, World.frozen?_setCells]; exact (FZ.out 5 (by omega))
      go_upto_region 16 with (fail)
      obtain ⟨W6, h6⟩ : ∃ x, x = wr.setCells g (j * 14) [.int .i64 (K), .int .i64 (K + 1), .int .i64 (K + 1 + 1), .int .i64 (K + 1 + 1 + 1), .int .i64 (K + 1 + 1 + 1 + 1), .int .i64 (K + 1 + 1 + 1 + 1 + 1)] := ⟨_, rfl⟩
      have h' : W5.setCell ⟨g, j * 14 + 5, none⟩ (.int .i64 (K + 1 + 1 + 1 + 1 + 1)) = W6 := by rw [h6, h5.out]; rfl
      rw [h']
      clear h' c5 u5 h5
      replace h6 : Hid (W6 = wr.setCells g (j * 14) [.int .i64 (K), .int .i64 (K + 1), .int .i64 (K + 1 + 1), .int .i64 (K + 1 + 1 + 1), .int .i64 (K + 1 + 1 + 1 + 1), .int .i64 (K + 1 + 1 + 1 + 1 + 1)]) := h6
      have c6 : W6.cell? ⟨g, j * 14 + 6, none⟩ = some (.int .i64 cc.fl) := by rw [h6.out]; exact (World.cell?_setCells_out g _ _ wr ⟨g, j * 14 + 6, none⟩ (fun _ _ => .inr (Nat.le_refl _))).trans d6.out
      have u6 : W6.frozen? ⟨g, j * 14 + 6, none⟩ = false := by rw [h6.out, World.frozen?_setCells]; exact (FZ.out 6 (by omega))
      go_upto_region 18 with (fail)
      obtain ⟨W7, h7⟩ : ∃ x, x = wr.setCells g (j * 14) [.int .i64 (K), .int .i64 (K + 1), .int .i64 (K + 1 + 1), .int .i64 (K + 1 + 1 + 1), .int .i64 (K + 1 + 1 + 1 + 1), .int .i64 (K + 1 + 1 + 1 + 1 + 1), .int .i64 (K + 1 + 1 + 1 + 1 + 1 + 1)] := ⟨_, rfl⟩
      have h' : W6.setCell ⟨g, j * 14 + 6, none⟩ (.int .i64 (K + 1 + 1 + 1 + 1 + 1 + 1)) = W7 := by rw [h7, h6.out]; rfl
      rw [h']
      clear h' c6 u6 h6
      replace h7 : Hid (W7 = wr.setCells g (j * 14) [.int .i64 (K), .int .i64 (K + 1), .int .i64 (K + 1 + 1), .int .i64 (K + 1 + 1 + 1), .int .i64 (K + 1 + 1 + 1 + 1), .int .i64 (K + 1 + 1 + 1 + 1 + 1), .int .i64 (K + 1 + 1 + 1 + 1 + 1 + 1)]) := h7
      have c7 : W7.cell? ⟨g, j * 14 + 7, none⟩ = some (.int .i64 cc.ac) := by rw [h7.out]; exact (World.cell?_setCells_out g _ _ wr ⟨g, j * 14 + 7, none⟩ (fun _ _ => .inr (Nat.le_refl _))).trans d7.out
      have u7 : W7.frozen? ⟨g, j * 14 + 7, none⟩ = false := by rw [h7.out, World.frozen?_setCells]; exact (FZ.out 7 (by omega))
      go_upto_region 20 with (fail)
      obtain ⟨W8, h8⟩ : ∃ x, x = wr.setCells g (j * 14) [.int .i64 (K), .int .i64 (K + 1), .int .i64 (K + 1 + 1), .int .i64 (K + 1 + 1 + 1), .int .i64 (K + 1 + 1 + 1 + 1), .int .i64 (K + 1 + 1 + 1 + 1 + 1), .int .i64 (K + 1 + 1 + 1 + 1 + 1 + 1), .int .i64 (K + 1 + 1 + 1 + 1 + 1 + 1 + 1)] := ⟨_, rfl⟩
      have h' : W7.setCell ⟨g, j * 14 + 7, none⟩ (.int .i64 (K + 1 + 1 + 1 + 1 + 1 + 1 + 1)) = W8 := by rw [h8, h7.out]; rfl
      rw [h']
      clear h' c7 u7 h7
      replace h8 : Hid (W8 = wr.setCells g (j * 14) [.int .i64 (K), .int .i64 (K + 1), .int .i64 (K + 1 + 1), .int .i64 (K + 1 + 1 + 1), .int .i64 (K + 1 + 1 + 1 + 1), .int .i64 (K + 1 + 1 + 1 + 1 + 1), .int .i64 (K + 1 + 1 + 1 + 1 + 1 + 1), .int .i64 (K + 1 + 1 + 1 + 1 + 1 + 1 + 1)]) := h8
      have c8 : W8.cell? ⟨g, j * 14 + 8, none⟩ = some (.int .i64 cc.la) := by rw [h8.out]; exact (World.cell?_setCells_out g _ _ wr ⟨g, j * 14 + 8, none⟩ (fun _ _ => .inr (Nat.le_refl _))).trans d8.out
      have u8 : W8.frozen? ⟨g, j * 14 + 8, none⟩ = false := by rw [h8.out, World.frozen?_setCells]; exact (FZ.out 8 (by omega))
      go_upto_region 22 with (fail)
      obtain ⟨W9, h9⟩ : ∃ x, x = wr.setCells g (j * 14) [.int .i64 (K), .int .i64 (K + 1), .int .i64 (K + 1 + 1), .int .i64 (K + 1 + 1 + 1), .int .i64 (K + 1 + 1 + 1 + 1), .int .i64 (K + 1 + 1 + 1 + 1 + 1), .int .i64 (K + 1 + 1 + 1 + 1 + 1 + 1), .int .i64 (K + 1 + 1 + 1 + 1 + 1 + 1 + 1), .int .i64 (K + 1 + 1 + 1 + 1 + 1 + 1 + 1 + 1)] := ⟨_, rfl⟩
      have h' : W8.setCell ⟨g, j * 14 + 8, none⟩ (.int .i64 (K + 1 + 1 + 1 + 1 + 1 + 1 + 1 + 1)) = W9 := by rw [h9, h8.out]; rfl
      rw [h']
      clear h' c8 u8 h8
      replace h9 : Hid (W9 = wr.setCells g (j * 14) [.int .i64 (K), .int .i64 (K + 1), .int .i64 (K + 1 + 1), .int .i64 (K + 1 + 1 + 1), .int .i64 (K + 1 + 1 + 1 + 1), .int .i64 (K + 1 + 1 + 1 + 1 + 1), .int .i64 (K + 1 + 1 + 1 + 1 + 1 + 1), .int .i64 (K + 1 + 1 + 1 + 1 + 1 + 1 + 1), .int .i64 (K + 1 + 1 + 1 + 1 + 1 + 1 + 1 + 1)]) := h9
      have c9 : W9.cell? ⟨g, j * 14 + 9, none⟩ = some (.int .i64 cc.og) := by rw [h9.out]; exact (World.cell?_setCells_out g _ _ wr ⟨g, j * 14 + 9, none⟩ (fun _ _ => .inr (Nat.le_refl _))).trans d9.out
      have u9 : W9.frozen? ⟨g, j * 14 + 9, none⟩ = false := by rw [h9.out, World.frozen?_setCells]; exact (FZ.out 9 (by omega))
      go_upto_region 24 with (fail)
      obtain ⟨W10, h10⟩ : ∃ x, x = wr.setCells g (j * 14) [.int .i64 (K), .int .i64 (K + 1), .int .i64 (K + 1 + 1), .int .i64 (K + 1 + 1 + 1), .int .i64 (K + 1 + 1 + 1 + 1), .int .i64 (K + 1 + 1 + 1 + 1 + 1), .int .i64 (K + 1 + 1 + 1 + 1 + 1 + 1), .int .i64 (K + 1 + 1 + 1 + 1 + 1 + 1 + 1), .int .i64 (K + 1 + 1 + 1 + 1 + 1 + 1 + 1 + 1), .int .i64 (K + 1 + 1 + 1 + 1 + 1 + 1 + 1 + 1 + 1)] := ⟨_, rfl⟩
      have h' : W9.setCell ⟨g, j * 14 + 9, none⟩ (.int .i64 (K + 1 + 1 + 1 + 1 + 1 + 1 + 1 + 1 + 1)) = W10 := by rw [h10, h9.out]; rfl
      rw [h']
      clear h' c9 u9 h9
      replace h10 : Hid (W10 = wr.setCells g (j * 14) [.int .i64 (K), .int .i64 (K + 1), .int .i64 (K + 1 + 1), .int .i64 (K + 1 + 1 + 1), .int .i64 (K + 1 + 1 + 1 + 1), .int .i64 (K + 1 + 1 + 1 + 1 + 1), .int .i64 (K + 1 + 1 + 1 + 1 + 1 + 1), .int .i64 (K + 1 + 1 + 1 + 1 + 1 + 1 + 1), .int .i64 (K + 1 + 1 + 1 + 1 + 1 + 1 + 1 + 1), .int .i64 (K + 1 + 1 + 1 + 1 + 1 + 1 + 1 + 1 + 1)]) := h10
      have c10 : W10.cell? ⟨g, j * 14 + 10, none⟩ = some (.int .i64 cc.st) := by rw [h10.out]; exact (World.cell?_setCells_out g _ _ wr ⟨g, j * 14 + 10, none⟩ (fun _ _ => .inr (Nat.le_refl _))).trans d10.out
      have u10 : W10.frozen? ⟨g, j * 14 + 10, none⟩ = false := by rw [h10.out, World.frozen?_setCells]; exact (FZ.out 10 (by omega))
      go_upto_region 26 with (fail)
      obtain ⟨W11, h11⟩ : ∃ x, x = wr.setCells g (j * 14) [.int .i64 (K), .int .i64 (K + 1), .int .i64 (K + 1 + 1), .int .i64 (K + 1 + 1 + 1), .int .i64 (K + 1 + 1 + 1 + 1), .int .i64 (K + 1 + 1 + 1 + 1 + 1), .int .i64 (K + 1 + 1 + 1 + 1 + 1 + 1), .int .i64 (K + 1 + 1 + 1 + 1 + 1 + 1 + 1), .int .i64 (K + 1 + 1 + 1 + 1 + 1 + 1 + 1 + 1), .int .i64 (K + 1 + 1 + 1 + 1 + 1 + 1 + 1 + 1 + 1), .int .i64 (K + 1 + 1 + 1 + 1 + 1 + 1 + 1 + 1 + 1 + 1)] := ⟨_, rfl⟩
      have h' : W10.setCell ⟨g, j * 14 + 10, none⟩ (.int .i64 (K + 1 + 1 + 1 + 1 + 1 + 1 + 1 + 1 + 1 + 1)) = W11 := by rw [h11, h10.out]; rfl
      rw [h']
      clear h' c10 u10 h10
      replace h11 : Hid (W11 = wr.setCells g (j * 14) [.int .i64 (K), .int .i64 (K + 1), .int .i64 (K + 1 + 1), .int .i64 (K + 1 + 1 + 1), .int .i64 (K + 1 + 1 + 1 + 1), .int .i64 (K + 1 + 1 + 1 + 1 + 1), .int .i64 (K + 1 + 1 + 1 + 1 + 1 + 1), .int .i64 (K + 1 + 1 + 1 + 1 + 1 + 1 + 1), .int .i64 (K + 1 + 1 + 1 + 1 + 1 + 1 + 1 + 1), .int .i64 (K + 1 + 1 + 1 + 1 + 1 + 1 + 1 + 1 + 1), .int .i64 (K + 1 + 1 + 1 + 1 + 1 + 1 + 1 + 1 + 1 + 1)]) := h11
      have c11 : W11.cell? ⟨g, j * 14 + 11, none⟩ = some (.int .i64 cc.fr) := by rw [h11.out]; exact (World.cell?_setCells_out g _ _ wr ⟨g, j * 14 + 11, none⟩ (fun _ _ => .inr (Nat.le_refl _))).trans d11.out
      have u11 : W11.frozen? ⟨g, j * 14 + 11, none⟩ = false := by rw [h11.out, World.frozen?_setCells]; exact (FZ.out 11 (by omega))
      go_upto_region 28 with (fail)
      obtain ⟨W12, h12⟩ : ∃ x, x = wr.setCells g (j * 14) [.int .i64 (K), .int .i64 (K + 1), .int .i64 (K + 1 + 1), .int .i64 (K + 1 + 1 + 1), .int .i64 (K + 1 + 1 + 1 + 1), .int .i64 (K + 1 + 1 + 1 + 1 + 1), .int .i64 (K + 1 + 1 + 1 + 1 + 1 + 1), .int .i64 (K + 1 + 1 + 1 + 1 + 1 + 1 + 1), .int .i64 (K + 1 + 1 + 1 + 1 + 1 + 1 + 1 + 1), .int .i64 (K + 1 + 1 + 1 + 1 + 1 + 1 + 1 + 1 + 1), .int .i64 (K + 1 + 1 + 1 + 1 + 1 + 1 + 1 + 1 + 1 + 1), .int .i64 (K + 1 + 1 + 1 + 1 + 1 + 1 + 1 + 1 + 1 + 1 + 1)] := ⟨_, rfl⟩
      have h' : W11.setCell ⟨g, j * 14 + 11, none⟩ (.int .i64 (K + 1 + 1 + 1 + 1 + 1 + 1 + 1 + 1 + 1 + 1 + 1)) = W12 := by rw [h12, h11.out]; rfl
      rw [h']
      clear h' c11 u11 h11
      replace h12 : Hid (W12 = wr.setCells g (j * 14) [.int .i64 (K), .int .i64 (K + 1), .int .i64 (K + 1 + 1), .int .i64 (K + 1 + 1 + 1), .int .i64 (K + 1 + 1 + 1 + 1), .int .i64 (K + 1 + 1 + 1 + 1 + 1), .int .i64 (K + 1 + 1 + 1 + 1 + 1 + 1), .int .i64 (K + 1 + 1 + 1 + 1 + 1 + 1 + 1), .int .i64 (K + 1 + 1 + 1 + 1 + 1 + 1 + 1 + 1), .int .i64 (K + 1 + 1 + 1 + 1 + 1 + 1 + 1 + 1 + 1), .int .i64 (K + 1 + 1 + 1 + 1 + 1 + 1 + 1 + 1 + 1 + 1), .int .i64 (K + 1 + 1 + 1 + 1 + 1 + 1 + 1 + 1 + 1 + 1 + 1)]) := h12
      have c12 : W12.cell? ⟨g, j * 14 + 12, none⟩ = some (.bool cc.sl) := by rw [h12.out]; exact (World.cell?_setCells_out g _ _ wr ⟨g, j * 14 + 12, none⟩ (fun _ _ => .inr (Nat.le_refl _))).trans d12.out
      have u12 : W12.frozen? ⟨g, j * 14 + 12, none⟩ = false := by rw [h12.out, World.frozen?_setCells]; exact (FZ.out 12 (by omega))
      go_upto_region 30 with (fail)
      obtain ⟨W13, h13⟩ : ∃ x, x = wr.setCells g (j * 14) [.int .i64 (K), .int .i64 (K + 1), .int .i64 (K + 1 + 1), .int .i64 (K + 1 + 1 + 1), .int .i64 (K + 1 + 1 + 1 + 1), .int .i64 (K + 1 + 1 + 1 + 1 + 1), .int .i64 (K + 1 + 1 + 1 + 1 + 1 + 1), .int .i64 (K + 1 + 1 + 1 + 1 + 1 + 1 + 1), .int .i64 (K + 1 + 1 + 1 + 1 + 1 + 1 + 1 + 1), .int .i64 (K + 1 + 1 + 1 + 1 + 1 + 1 + 1 + 1 + 1), .int .i64 (K + 1 + 1 + 1 + 1 + 1 + 1 + 1 + 1 + 1 + 1), .int .i64 (K + 1 + 1 + 1 + 1 + 1 + 1 + 1 + 1 + 1 + 1 + 1), .bool ((K + 1 + 1 + 1 + 1 + 1 + 1 + 1 + 1 + 1 + 1 + 1 + 1) % 3 == 0)] := ⟨_, rfl⟩
      have h' : W12.setCell ⟨g, j * 14 + 12, none⟩ (.bool ((K + 1 + 1 + 1 + 1 + 1 + 1 + 1 + 1 + 1 + 1 + 1 + 1) % 3 == 0)) = W13 := by rw [h13, h12.out]; rfl
      rw [h']
      clear h' c12 u12 h12
      replace h13 : Hid (W13 = wr.setCells g (j * 14) [.int .i64 (K), .int .i64 (K + 1), .int .i64 (K + 1 + 1), .int .i64 (K + 1 + 1 + 1), .int .i64 (K + 1 + 1 + 1 + 1), .int .i64 (K + 1 + 1 + 1 + 1 + 1), .int .i64 (K + 1 + 1 + 1 + 1 + 1 + 1), .int .i64 (K + 1 + 1 + 1 + 1 + 1 + 1 + 1), .int .i64 (K + 1 + 1 + 1 + 1 + 1 + 1 + 1 + 1), .int .i64 (K + 1 + 1 + 1 + 1 + 1 + 1 + 1 + 1 + 1), .int .i64 (K + 1 + 1 + 1 + 1 + 1 + 1 + 1 + 1 + 1 + 1), .int .i64 (K + 1 + 1 + 1 + 1 + 1 + 1 + 1 + 1 + 1 + 1 + 1), .bool ((K + 1 + 1 + 1 + 1 + 1 + 1 + 1 + 1 + 1 + 1 + 1 + 1) % 3 == 0)]) := h13
      obtain ⟨s1, s2, s3, s4⟩ := set14 (mvs K) HAL.out
      have h13' : W13 = wr.setCells g (j * 14) (mvs K) := h13.out
      rw [← h13'] at s1 s2 s3 s4
      have hsz : W13.heap.size = wr.heap.size := by rw [h13.out]; exact sizeCells _ _ _
      have e13 : W13.cell? ⟨g, j * 14 + 13, none⟩ = some (.slice sa xs.length sc) := (s2 _ (.inr (Nat.le_refl _))).trans d13.out
      have S1 : Hid (∀ m v, (mvs K)[m]? = some v → W13.cell? ⟨g, j * 14 + m, none⟩ = some v) := s1
      have S2 : Hid (∀ i, i < j * 14 ∨ j * 14 + (mvs K).length ≤ i → W13.cell? ⟨g, i, none⟩ = wr.cell? ⟨g, i, none⟩) := s2
      have S3 : Hid (∀ p, W13.frozen? p = wr.frozen? p) := s3
      have S4 : Hid (Only g wr W13) := s4
      have HI2 : Hid (IO W13 lo hi (.slice sa xs.length sc) xs) := IO.same HIO.out (by omega) (fun b eb => S4.out.block b (HIO.out.el eb).2.2 (fun e' => hfar (by rw [eb, e'])))
      clear s1 s2 s3 s4 h13 h13'
      go_wp2_with (first | (go_at_call 86; rw [show K + 1 + 1 + 1 + 1 + 1 + 1 + 1 + 1 + 1 + 1 + 1 + 1 + 1 = K + 13 by omega]; refine (markIO_any (K + 13) HI2.out hxl (by omega) (by omega)).mono ?_; rintro e w3 ⟨rfl, io3, o3⟩))
      have gc : ∀ i, w3.cell? ⟨g, i, none⟩ = W13.cell? ⟨g, i, none⟩ := fun i => o3.cell (p := ⟨g, i, none⟩) (by show g < W13.heap.size; omega) hfar
      have gf : ∀ i, w3.frozen? ⟨g, i, none⟩ = W13.frozen? ⟨g, i, none⟩ := fun i => o3.frozen (p := ⟨g, i, none⟩) (by show g < W13.heap.size; omega) hfar
      have hs3 := o3.size
      have hp := HFR.out.turn (i := j) (c := mk1 K xs.length) (v := .slice sa xs.length sc) (w' := w3) hm hv (by omega) (fun b h1 h2 h3 h4 => (o3.block b (by omega) (by rw [HVA.out] at h4; exact h4)).trans (S4.out.block b (by omega) h3)) (fun i hi => (gc i).trans (S2.out i (by rcases hi with hi | hi; exact .inl hi; exact .inr (by show j * 14 + 13 ≤ i; omega)))) (fun i => (gf i).trans (S3.out _)) (fun m u hu => (gc _).trans (S1.out m u hu)) ((gc _).trans e13) io3 (fun b e => by rw [HVA.out]; exact e)
      rw [HSET.out] at hp
      have hvs : vs.set j (.slice sa xs.length sc) = vs := by rw [← HVA.out]; exact List.set_getElem_self hv
      rw [hvs] at hp
      have HOI : OnlyI lo hi w W13 := hO.trans (S4.out.toI g0 g1)
      go_roundw
      case rel =>
        refine ⟨j + 1, by go_num, by omega, ?_, hp, HOI.trans (OnlyI.ofO o3 (fun b e => ⟨(HI2.out.el e).1, (HI2.out.el e).2.1⟩))⟩
        rw [HK2.out]
      case measure => first | (simp [intOf]; done) | (simp [intOf]; omega)
    · have e : j = ks.length := by omega
      subst e
      rw [mixK_all hML] at fr
      go_wp2
      go_ret
      exact ⟨rfl, fr, hO⟩
end Go.Proofs.Ytibfclfidaofkas
namespace Go.Proofs.Ytibfclfidaofkas
open Go.ChangeShapes Go.WideShapes Go.ChangeAt Go.RowKit
set_option maxRecDepth 100000
set_option linter.unusedVariables false
set_option linter.unusedSimpArgs false

set_option maxHeartbeats 8000000 in
theorem heldConns_any {w : World} {lo hi g : Nat} {vs : List Value} {ks : List Kn} (cap : Nat) (k : Int) (f : KO w lo hi g ks.length vs (markK k ks)) (hn : ks.length + sumK ks ks.length ≤ 1048576) (k0 : 0 ≤ k) (k1 : k ≤ 100000000) :
    Calls Try.prog 50 #[.slice (some ⟨g, 0, none⟩) ks.length cap, .int .i64 k] w fun e w' => e = .returned (.int .i64 (kAtK k ks ks.length)) ∧ w' = w := by
  have hML := markK_length k ks
  have hni : (ks.length : Int) ≤ 1048576 := by omega
  go_enter Try.func50, Try.ntmps50
  go_wp2
  go_loop [1, 5] (fun s i => ∃ j : Nat, i = .int .i64 j ∧ j ≤ ks.length ∧ s = .int .i64 (kAtK k ks j)) (fun _ i => ks.length - (intOf i).toNat)
  case atStart => exact ⟨0, rfl, by omega, by show _ = Value.int .i64 (k + 13 * (0 : Int) + (0 : Int)); congr 1; omega⟩
  case round =>
    obtain ⟨j, rfl, hj, rfl⟩ := hrel
    by_cases hlt : j < ks.length
    · have hlt' : (j : Int) < (ks.length : Int) := by omega
      have hm : j < (markK k ks).length := by rw [hML]; exact hlt
      have hv : j < vs.length := by rw [f.len]; exact hm
      obtain ⟨cz, c13⟩ := f.got j hm hv
      have ho := f.own j hm hv
      rw [markK_get k ks j hm hlt] at cz ho
      have hmo := sumK_mono ks (show j + 1 ≤ ks.length by omega)
      rw [sumK_next hlt] at hmo
      have hk2 := kAtK_next (k := k) hlt
      have hkb : k ≤ kAtK k ks j ∧ kAtK k ks j ≤ 200000000 := by unfold kAtK; omega
      obtain ⟨K, hK⟩ : ∃ K, kAtK k ks j = K := ⟨_, rfl⟩
      rw [hK] at hk2 hkb cz ho ⊢
      obtain ⟨xs, hx⟩ : ∃ xs, ks[j].xs = xs := ⟨_, rfl⟩
      rw [hx] at cz ho hmo hk2
      have ho' : IO w lo hi vs[j] (marksI (K + 13) xs.length) := ho
      obtain ⟨va, hva⟩ : ∃ va, vs[j] = va := ⟨_, rfl⟩
      rw [hva] at c13 ho'
      have HK2 : Hid (kAtK k ks (j + 1) = K + 13 + (xs.length : Int)) := hk2
      have hxl : xs.length ≤ 1048576 := by omega
      have hkb0 := hkb.1
      have hkb1 := hkb.2
      have hpos : ¬ (K + 13 + (xs.length : Int) < 0) := by omega
      have d0 : w.cell? ⟨g, j * 14, none⟩ = some (.int .i64 (K)) := cz 0 _ rfl
      have d1 : w.cell? ⟨g, j * 14 + 1, none⟩ = some (.int .i64 (K + 1)) := cz 1 _ rfl
      have d2 : w.cell? ⟨g, j * 14 + 2, none⟩ = some (.int .i64 (K + 1 + 1)) := cz 2 _ rfl
      have d3 : w.cell? ⟨g, j * 14 + 3, none⟩ = some (.int .i64 (K + 1 + 1 + 1)) := cz 3 _ rfl
      have d4 : w.cell? ⟨g, j * 14 + 4, none⟩ = some (.int .i64 (K + 1 + 1 + 1 + 1)) := cz 4 _ rfl
      have d5 : w.cell? ⟨g, j * 14 + 5, none⟩ = some (.int .i64 (K + 1 + 1 + 1 + 1 + 1)) := cz 5 _ rfl
      have d6 : w.cell? ⟨g, j * 14 + 6, none⟩ = some (.int .i64 (K + 1 + 1 + 1 + 1 + 1 + 1)) := cz 6 _ rfl
      have d7 : w.cell? ⟨g, j * 14 + 7, none⟩ = some (.int .i64 (K + 1 + 1 + 1 + 1 + 1 + 1 + 1)) := cz 7 _ rfl
      have d8 : w.cell? ⟨g, j * 14 + 8, none⟩ = some (.int .i64 (K + 1 + 1 + 1 + 1 + 1 + 1 + 1 + 1)) := cz 8 _ rfl
      have d9 : w.cell? ⟨g, j * 14 + 9, none⟩ = some (.int .i64 (K + 1 + 1 + 1 + 1 + 1 + 1 + 1 + 1 + 1)) := cz 9 _ rfl
      have d10 : w.cell? ⟨g, j * 14 + 10, none⟩ = some (.int .i64 (K + 1 + 1 + 1 + 1 + 1 + 1 + 1 + 1 + 1 + 1)) := cz 10 _ rfl
      have d11 : w.cell? ⟨g, j * 14 + 11, none⟩ = some (.int .i64 (K + 1 + 1 + 1 + 1 + 1 + 1 + 1 + 1 + 1 + 1 + 1)) := cz 11 _ rfl
      have d12 : w.cell? ⟨g, j * 14 + 12, none⟩ = some (.bool ((K + 1 + 1 + 1 + 1 + 1 + 1 + 1 + 1 + 1 + 1 + 1 + 1) % 3 == 0)) := cz 12 _ rfl
      clear hva hx hK hk2 hkb hmo ho cz
      go_wp2_with (first | (go_at_call 89; rw [show K + 1 + 1 + 1 + 1 + 1 + 1 + 1 + 1 + 1 + 1 + 1 + 1 + 1 = K + 13 by omega]; refine (heldIO_any (K + 13) ho' hxl (by omega) (by omega)).mono ?_; rintro e w3 ⟨rfl, rfl⟩))
      go_round
      case rel => exact ⟨j + 1, by go_num, by omega, by rw [HK2.out]⟩
      case measure => first | (simp [intOf]; done) | (simp [intOf]; omega)
    · have e : j = ks.length := by omega
      subst e
      go_wp2
      go_ret
      exact ⟨rfl, rfl⟩
end Go.Proofs.Ytibfclfidaofkas
namespace Go.Proofs.Ytibfclfidaofkas
open Go.ChangeShapes Go.WideShapes Go.ChangeAt Go.RowKit
set_option maxRecDepth 100000
set_option linter.unusedVariables false
set_option linter.unusedSimpArgs false

theorem markKNil_any (a : Option Addr) (cap : Nat) (k : Int) (w : World) (k0 : 0 ≤ k) (k1 : k ≤ 1000000000) : Calls Try.prog 47 #[.slice a 0 cap, .int .i64 k] w fun e w' => e = .returned (.int .i64 k) ∧ w' = w := by
  go_enter Try.func47, Try.ntmps47
  go_wp2
  refine wp_loop_rounds 1 ?_
  rw [rounds_succ]
  go_wp2
  go_ret
  exact ⟨rfl, rfl⟩
theorem heldKNil_any (a : Option Addr) (cap : Nat) (k : Int) (w : World) (k0 : 0 ≤ k) (k1 : k ≤ 1000000000) : Calls Try.prog 50 #[.slice a 0 cap, .int .i64 k] w fun e w' => e = .returned (.int .i64 k) ∧ w' = w := by
  go_enter Try.func50, Try.ntmps50
  go_wp2
  refine wp_loop_rounds 1 ?_
  rw [rounds_succ]
  go_wp2
  go_ret
  exact ⟨rfl, rfl⟩
theorem markKV_any {w : World} {lo hi n c : Nat} {a : Option Addr} {fs : List Kn} (k : Int) (h : KV w lo hi (.slice a n c) fs) (hn : fs.length + sumK fs fs.length ≤ 1048576) (k0 : 0 ≤ k) (k1 : k ≤ 100000000) :
    Calls Try.prog 47 #[.slice a n c, .int .i64 k] w fun e w' => e = .returned (.int .i64 (kAtK k fs fs.length)) ∧ KV w' lo hi (.slice a n c) (markK k fs) ∧ OnlyI lo hi w w' := by
  rcases h with ⟨g, cap, vs, e, hc, f⟩ | ⟨rfl, a', c', e⟩
  · injection e with e1 e2 e3
    subst e1 e2 e3
    refine (markConns_any c k f hn k0 k1).mono ?_
    rintro e w' ⟨rfl, f', o'⟩
    exact ⟨rfl, .inl ⟨g, c, vs, by rw [markK_length], by rw [markK_length]; exact hc, by rw [markK_length]; exact f'⟩, o'⟩
  · injection e with e1 e2 e3
    subst e1 e2 e3
    refine (markKNil_any a c k w k0 (by omega)).mono ?_
    rintro e w' ⟨rfl, rfl⟩
    exact ⟨by rw [List.length_nil, kAtK_nil], KV.zero _ _ _ _ _, OnlyI.refl _ _ _⟩
theorem heldKV_any {w : World} {lo hi n c : Nat} {a : Option Addr} {fs : List Kn} (k : Int) (h : KV w lo hi (.slice a n c) (markK k fs)) (hn : fs.length + sumK fs fs.length ≤ 1048576) (k0 : 0 ≤ k) (k1 : k ≤ 100000000) :
    Calls Try.prog 50 #[.slice a n c, .int .i64 k] w fun e w' => e = .returned (.int .i64 (kAtK k fs fs.length)) ∧ w' = w := by
  have hl := markK_length k fs
  rcases h with ⟨g, cap, vs, e, hc, f⟩ | ⟨e0, a', c', e⟩
  · injection e with e1 e2 e3
    rw [hl] at e2 f
    subst e1 e2 e3
    exact heldConns_any c k f hn k0 k1
  · rw [e0] at hl
    have h0 : fs = [] := List.eq_nil_of_length_eq_zero hl.symm
    subst h0
    injection e with e1 e2 e3
    subst e1 e2 e3
    refine (heldKNil_any a c k w k0 (by omega)).mono ?_
    rintro e w' ⟨rfl, rfl⟩
    exact ⟨by rw [List.length_nil, kAtK_nil], rfl⟩
end Go.Proofs.Ytibfclfidaofkas
