/- What ServeAll answers: Turns of its own, and sums. -/
import Derived.Test.YtdgefdjgpneanadAllMath
import Derived.Test.YtdgefdjgpneanadGrpC
import Derived.Test.YtdgefdjgpneanadFlwRow
namespace Go.Proofs.Ytdgefdjgpneanad
open Go.ChangeShapes Go.WideShapes Go.ChangeAt Go.RowKit
set_option maxRecDepth 100000
set_option linter.unusedVariables false
set_option linter.unusedSimpArgs false

/-- Turns and sums, in memory made by the call. -/
def AllPost (w : World) (R : List F8 × Int × Bool × List Int) (e : Ending) (w' : World) : Prop :=
  ∃ a c v, e = .returned (.tuple #[turnV a R.1.length c R.2.1 R.2.2.1, v]) ∧ TV w' w.heap.size w'.heap.size (.slice a R.1.length c) R.1 ∧ IV w' w.heap.size v R.2.2.2 ∧ Below w.heap.size w w'
/-- .. and the sums lie behind the Turns. -/
def AllPost2 (w : World) (R : List F8 × Int × Bool × List Int) (e : Ending) (w' : World) : Prop :=
  ∃ a c v m, e = .returned (.tuple #[turnV a R.1.length c R.2.1 R.2.2.1, v]) ∧ TV w' w.heap.size m (.slice a R.1.length c) R.1 ∧ IV w' m v R.2.2.2 ∧ Below w.heap.size w w' ∧ w.heap.size ≤ m ∧ m ≤ w'.heap.size
theorem put3_all {w : World} {g : Nat} (a b c : Value) {z0 z1 z2 : Value} (h0 : w.cell? ⟨g, 0, none⟩ = some z0) (h1 : w.cell? ⟨g, 1, none⟩ = some z1) (h2 : w.cell? ⟨g, 2, none⟩ = some z2) :
    ∀ j v, [a, b, c][j]? = some v → (((w.setCell ⟨g, 0, none⟩ a).setCell ⟨g, 1, none⟩ b).setCell ⟨g, 2, none⟩ c).cell? ⟨g, j, none⟩ = some v := put3_res a b c h0 h1 h2
theorem sums_set {W : World} {gS n m : Nat} {S : List Int} {x : Int} (f : IFill W gS n S n) (hn : S.length = n) (hm : m < n) : IFill (W.setCell ⟨gS, m, none⟩ (.int .i64 x)) gS n (S.set m x) n where
  any := fun j hj => by
    obtain ⟨⟨z, hz⟩, hf⟩ := f.any j hj
    refine ⟨?_, by simpa using hf⟩
    by_cases e : m = j
    · subst e; exact ⟨x, set_same _ hz⟩
    · exact ⟨z, (set_other e).trans hz⟩
  got := fun i hi hk => by
    rw [List.getElem_set]
    split
    · rename_i e
      subst e
      obtain ⟨⟨z, hz⟩, _⟩ := f.any m hm
      exact set_same _ hz
    · rename_i e
      exact (set_other e).trans (f.got i (by simpa using hi) hk)
theorem ifill_nil (W : World) (g : Nat) : IFill W g 0 [] 0 := ⟨fun j hj => (by cases hj), fun i hi => (by cases hi)⟩
theorem IFill.block {W W' : World} {gS n k : Nat} {S : List Int} (f : IFill W gS n S k) (e : W'.heap[gS]? = W.heap[gS]?) : IFill W' gS n S k where
  any := fun j hj => ⟨by obtain ⟨z, hz⟩ := (f.any j hj).1; exact ⟨z, (World.cell?_of_block (a := ⟨gS, j, none⟩) e).trans hz⟩, (World.frozen?_of_block (a := ⟨gS, j, none⟩) e).trans (f.any j hj).2⟩
  got := fun i hi hk => (World.cell?_of_block (a := ⟨gS, i, none⟩) e).trans (f.got i hi hk)
/-- The answer, behind three stores into its place. -/
theorem post_all {w W : World} {lo hi g b cap n gS : Nat} {vs : List Value} {fs : List F8} {S : List Int} {R : List F8 × Int × Bool × List Int} {a : Int} {f : Bool} (hR : R = (fs, a, f, S)) (F : FO W lo hi g fs.length vs fs) (hn : fs.length = n) (hc : n ≤ cap) (hl : w.heap.size ≤ b) (hb : b < lo) (hw : Below w.heap.size w W)
    (I : IFill W gS n S n) (hS : S.length = n) (hg1 : w.heap.size ≤ gS) (hg2 : gS < W.heap.size) (hg3 : gS ≠ b) (x y z : Value) :
    AllPost w R (.returned (.tuple #[turnV (some ⟨g, 0, none⟩) fs.length cap a f, .slice (some ⟨gS, 0, none⟩) n n])) (((W.setCell ⟨b, 0, none⟩ x).setCell ⟨b, 1, none⟩ y).setCell ⟨b, 2, none⟩ z) := by
  subst hR
  subst hn
  have far : ∀ k, k ≠ b → (((W.setCell ⟨b, 0, none⟩ x).setCell ⟨b, 1, none⟩ y).setCell ⟨b, 2, none⟩ z).heap[k]? = W.heap[k]? := fun k hk => by
    rw [Below.heap_setCell _ _ _ _ (by exact hk), Below.heap_setCell _ _ _ _ (by exact hk), Below.heap_setCell _ _ _ _ (by exact hk)]
  refine ⟨_, cap, _, rfl, .inl ⟨g, cap, vs, rfl, hc, ?_⟩, .inl ⟨gS, fs.length, by rw [hS], hg1, by simpa using hg2, ?_, by show S.length ≤ fs.length; omega⟩, ((hw.setCell (by exact hl) _).setCell (by exact hl) _).setCell (by exact hl) _⟩
  · have F2 : FO (((W.setCell ⟨b, 0, none⟩ x).setCell ⟨b, 1, none⟩ y).setCell ⟨b, 2, none⟩ z) lo hi g fs.length vs fs := F.same (by simp) (fun k h1 h2 => far k (by omega))
    exact F2.wider (by omega) F2.top (Nat.le_refl _)
  · rw [hS]
    exact I.block (far gS hg3)
theorem post_all2 {w W : World} {lo hi g b cap n gS : Nat} {vs : List Value} {fs : List F8} {S : List Int} {R : List F8 × Int × Bool × List Int} {a : Int} {f : Bool} (hR : R = (fs, a, f, S)) (F : FO W lo hi g fs.length vs fs) (hn : fs.length = n) (hc : n ≤ cap) (hl : w.heap.size ≤ b) (hb : b < lo) (hw : Below w.heap.size w W)
    (I : IFill W gS n S n) (hS : S.length = n) (hg1 : hi ≤ gS) (hg2 : gS < W.heap.size) (x y z : Value) :
    AllPost2 w R (.returned (.tuple #[turnV (some ⟨g, 0, none⟩) fs.length cap a f, .slice (some ⟨gS, 0, none⟩) n n])) (((W.setCell ⟨b, 0, none⟩ x).setCell ⟨b, 1, none⟩ y).setCell ⟨b, 2, none⟩ z) := by
  subst hR
  subst hn
  have hg0 := F.g0
  have hgh := F.g1
  have far : ∀ k, k ≠ b → (((W.setCell ⟨b, 0, none⟩ x).setCell ⟨b, 1, none⟩ y).setCell ⟨b, 2, none⟩ z).heap[k]? = W.heap[k]? := fun k hk => by
    rw [Below.heap_setCell _ _ _ _ (by exact hk), Below.heap_setCell _ _ _ _ (by exact hk), Below.heap_setCell _ _ _ _ (by exact hk)]
  refine ⟨_, cap, _, hi, rfl, .inl ⟨g, cap, vs, rfl, hc, ?_⟩, .inl ⟨gS, fs.length, by rw [hS], hg1, by simpa using hg2, ?_, by show S.length ≤ fs.length; omega⟩, ((hw.setCell (by exact hl) _).setCell (by exact hl) _).setCell (by exact hl) _, by omega, by have := F.top; simpa using this⟩
  · have F2 : FO (((W.setCell ⟨b, 0, none⟩ x).setCell ⟨b, 1, none⟩ y).setCell ⟨b, 2, none⟩ z) lo hi g fs.length vs fs := F.same (by simp) (fun k h1 h2 => far k (by omega))
    exact F2.wider (by omega) (Nat.le_refl _) F2.top
  · rw [hS]
    exact I.block (far gS (by omega))
end Go.Proofs.Ytdgefdjgpneanad
