/- One more number behind one of the lists. -/
import Derived.Test.YtdgefdjgpneanadFlwCp
import Derived.Test.YtdgefdjgpneanadTurnMath
namespace Go.Proofs.Ytdgefdjgpneanad
open Go.ChangeShapes Go.WideShapes Go.ChangeAt Go.RowKit
set_option maxRecDepth 100000
set_option linter.unusedVariables false
set_option linter.unusedSimpArgs false

theorem FO.swap {w w' : World} {lo hi hi' g n i : Nat} {vs : List Value} {fs : List F8} (f : FO w lo hi g n vs fs) (hi0 : i < fs.length) (hv : i < vs.length) {q d : Int} {v : Value} {xs : List Int} (hs : hi ≤ hi') (ht : hi' ≤ w'.heap.size) (hz : w.heap.size ≤ w'.heap.size)
    (hb : ∀ j (hj : j < vs.length) b, j ≠ i → elB vs[j] = some b → w'.heap[b]? = w.heap[b]?) (hc : ∀ j, j < i * 3 ∨ i * 3 + 2 < j → w'.cell? ⟨g, j, none⟩ = w.cell? ⟨g, j, none⟩) (hf : ∀ j, w'.frozen? ⟨g, j, none⟩ = w.frozen? ⟨g, j, none⟩)
    (c0 : w'.cell? ⟨g, i * 3, none⟩ = some (.int .i64 q)) (c1 : w'.cell? ⟨g, i * 3 + 1, none⟩ = some (.int .i64 d)) (c2 : w'.cell? ⟨g, i * 3 + 2, none⟩ = some v) (ho : IO w' lo hi' v xs) (he : ∀ b, elB v = some b → b ≠ g ∧ ∀ j (hj : j < vs.length), j ≠ i → elB vs[j] ≠ some b) :
    FO w' lo hi' g n (vs.set i v) (fs.set i (q, d, xs)) := by
  have le := f.le
  have g1 := f.g1
  refine ⟨f.g0, by omega, ht, by simp [f.len], by simp [f.le], fun j hj => ⟨?_, (hf j).trans (f.any j hj).2⟩, fun k hk hk' => ?_, fun k hk hk' => ?_, fun k hk => ?_, fun k j hk hj hne b e => ?_⟩
  · by_cases e0 : j = i * 3
    · subst e0; exact ⟨_, c0⟩
    · by_cases e1 : j = i * 3 + 1
      · subst e1; exact ⟨_, c1⟩
      · by_cases e2 : j = i * 3 + 2
        · subst e2; exact ⟨_, c2⟩
        · obtain ⟨z, hz⟩ := (f.any j hj).1
          exact ⟨z, (hc j (by omega)).trans hz⟩
  · rw [List.getElem_set, List.getElem_set]
    by_cases e : i = k
    · subst e
      rw [if_pos rfl, if_pos rfl]
      exact ⟨c0, c1, c2⟩
    · rw [if_neg e, if_neg e]
      obtain ⟨k0, k1, k2⟩ := f.got k (by simpa using hk) (by simpa using hk')
      exact ⟨(hc _ (by omega)).trans k0, (hc _ (by omega)).trans k1, (hc _ (by omega)).trans k2⟩
  · rw [List.getElem_set, List.getElem_set]
    by_cases e : i = k
    · subst e
      rw [if_pos rfl, if_pos rfl]
      exact ho
    · rw [if_neg e, if_neg e]
      have kv : k < vs.length := by simpa using hk'
      have o := f.own k (by simpa using hk) kv
      exact (o.wider (Nat.le_refl _) hs).same hz (fun b eb => hb k kv b (fun e' => e e'.symm) eb)
  · rw [List.getElem_set]
    by_cases e : i = k
    · rw [if_pos e]
      intro e'
      exact (he g e').1 rfl
    · rw [if_neg e]
      exact f.far k (by simpa using hk)
  · rw [List.getElem_set] at e ⊢
    by_cases e1 : i = k
    · subst e1
      rw [if_pos rfl] at e
      rw [if_neg hne]
      exact (he b e).2 j (by simpa using hj) (fun e' => hne e'.symm)
    · rw [if_neg e1] at e
      by_cases e2 : i = j
      · rw [if_pos e2]
        intro e'
        exact (he b e').2 k (by simpa using hk) (fun e' => e1 e'.symm) e
      · rw [if_neg e2]
        exact f.apart k j (by simpa using hk) (by simpa using hj) hne b e
theorem flatI_snoc (xs : List Int) (x : Int) : flatI (xs ++ [x]) = flatI xs ++ [.int .i64 x] := by rw [flatI_append]; rfl
theorem FR.queued {v8 W w6 : World} {lo hi g n i : Nat} {vs : List Value} {fs : List F8} {v' : Value} {x : Int} (f : FR v8 lo hi g n vs fs) (hi0 : i < fs.length) (hv : i < vs.length) (hW : Below v8.heap.size v8 W) (own6 : w6.ownsRow lo 2 1 v' (fs[i].2.2.length + 1) (flatI fs[i].2.2 ++ [.int .i64 x]))
    (gr : W.grownBy w6 vs[i].ownBlock) (two : v'.ownBlock = vs[i].ownBlock ∨ v'.ownBlock = some W.heap.size) :
    FO (w6.setCell ⟨g, i * 3 + 2, none⟩ v') lo w6.heap.size g n (vs.set i v') (fs.set i (fs[i].1, fs[i].2.1, fs[i].2.2 ++ [x])) := by
  have fo := f.fo
  have g1 := fo.g1
  have tp := fo.top
  have hzW := hW.size
  have hz6 := gr.size
  have hni : vs[i].ownBlock ≠ some g := fun e => (f.sep i hv g e).1 rfl
  have same : ∀ b, b < v8.heap.size → vs[i].ownBlock ≠ some b → w6.heap[b]? = v8.heap[b]? := fun b h1 h2 => (gr.block b (by omega) (fun e => h2 e.symm)).trans (hW.block b h1)
  have eg := same g (by omega) hni
  have hcell : ∀ j, w6.cell? ⟨g, j, none⟩ = v8.cell? ⟨g, j, none⟩ := fun j => World.cell?_of_block (a := ⟨g, j, none⟩) eg
  have hfro : ∀ j, w6.frozen? ⟨g, j, none⟩ = v8.frozen? ⟨g, j, none⟩ := fun j => World.frozen?_of_block (a := ⟨g, j, none⟩) eg
  obtain ⟨c0, c1, c2⟩ := fo.got i hi0 hv
  have el : ∀ j (hj : j < vs.length) b, elB vs[j] = some b → vs[j].ownBlock = some b ∧ b < hi := fun j hj b e => ⟨el_own (f.row j (by rw [← fo.len]; exact hj) hj) e, ((fo.own j (by rw [← fo.len]; exact hj) hj).el e).2.1⟩
  have own6' : w6.ownsRow lo 2 1 v' (fs[i].2.2 ++ [x]).length (flatI (fs[i].2.2 ++ [x])) := by rw [flatI_snoc, List.length_append]; exact own6
  have hvb : ∀ b, v'.ownBlock = some b → b ≠ g ∧ ∀ j (hj : j < vs.length), j ≠ i → elB vs[j] ≠ some b := fun b e => by
    rcases two with t | t
    · rw [t] at e
      obtain ⟨s1, _, s3⟩ := f.sep i hv b e
      exact ⟨s1, fun j hj hne e' => s3 j hj hne (el j hj b e').1⟩
    · rw [t] at e
      have e := Option.some.inj e
      exact ⟨by omega, fun j hj hne e' => by have := (el j hj b e').2; omega⟩
  have hsetb : ∀ b, b ≠ g → (w6.setCell ⟨g, i * 3 + 2, none⟩ v').heap[b]? = w6.heap[b]? := fun b hn => Below.heap_setCell _ _ _ _ (by exact hn)
  have io6 : IO w6 lo w6.heap.size v' (fs[i].2.2 ++ [x]) := (own_ints own6').io
  refine fo.swap hi0 hv (by omega) (by simp) (by simp; omega) (fun j hj b hne e => ?_) (fun j hj => (set_other (by omega)).trans (hcell j)) (fun j => ?_) ((set_other (by omega)).trans ((hcell _).trans c0)) ((set_other (by omega)).trans ((hcell _).trans c1)) (set_same _ ((hcell _).trans c2)) (io6.same (by simp) (fun b e => hsetb b (hvb b (el_own own6' e)).1)) (fun b e => hvb b (el_own own6' e))
  · obtain ⟨e1, e2⟩ := el j hj b e
    rw [hsetb b (fun e' => fo.far j hj (by rw [e, e']))]
    exact same b (by omega) (fun e' => (f.sep i hv b e').2.2 j hj hne e1)
  · rw [World.frozen?_setCell]
    exact hfro j
/-- What Queue answers. -/
def queB (fs : List F8) (at' : Int) (fresh : Bool) (i n : Int) : Bool := ((turnsB fs at' fresh && inB 0 i ((fs.length : Int) - 1)) && sg n) && (match fs[i.toNat]? with | some f => !decide (f.2.2.length = 100) | none => false)
def queF (fs : List F8) (i n : Int) : List F8 := match fs[i.toNat]? with | some f => fs.set i.toNat (f.1, f.2.1, f.2.2 ++ [n]) | none => fs
/-- Turns made anew, and a flag. -/
def TurnPost (w : World) (fs : List F8) (at' : Int) (fresh f : Bool) (e : Ending) (w' : World) : Prop :=
  ∃ a c, e = .returned (.tuple #[turnV a fs.length c at' fresh, .bool f]) ∧ TV w' w.heap.size w'.heap.size (.slice a fs.length c) fs ∧ Below w.heap.size w w'
end Go.Proofs.Ytdgefdjgpneanad
