/- Lemmas on the way, of several texts: EqSmp, IntsLaw. -/
import Derived.Test.YtoeiheccmpjclafGrpC
import Derived.Deep.RegionHeld3
namespace Go.Proofs.Ytoeiheccmpjclaf
open Go.ChangeShapes Go.WideShapes Go.ChangeAt Go.RowKit
set_option maxRecDepth 100000
set_option linter.unusedVariables false

theorem ret_b {f g : Bool} (h : f = g) : Ending.returned (.bool f) = .returned (.bool g) := by rw [h]
end Go.Proofs.Ytoeiheccmpjclaf
namespace Go.Proofs.Ytoeiheccmpjclaf
open Go.ChangeShapes Go.WideShapes Go.ChangeAt Go.RowKit
set_option maxRecDepth 100000
set_option linter.unusedVariables false

/-- A list of numbers that can be read: cells of old memory. -/
def ISmp (B : Nat) (w : World) (a : Option Addr) (xs : List Int) : Prop := ∀ i (h : i < xs.length), ∃ b off, a = some ⟨b, off, none⟩ ∧ b < B ∧ w.cell? ⟨b, off + i, none⟩ = some (.int .i64 xs[i])
theorem ISmp.at {B : Nat} {w w' : World} {a : Option Addr} {xs : List Int} (h : ISmp B w a xs) (hb : Below B w w') (i : Nat) (hi : i < xs.length) : ∃ b off, a = some ⟨b, off, none⟩ ∧ b < B ∧ w'.cell? ⟨b, off + i, none⟩ = some (.int .i64 xs[i]) := by
  obtain ⟨b, off, e, hl, c⟩ := h i hi
  exact ⟨b, off, e, hl, (hb.cell (by exact hl)).trans c⟩
theorem IFill.smp {w : World} {g n B : Nat} {xs : List Int} (f : IFill w g n xs xs.length) (h : g < B) : ISmp B w (some ⟨g, 0, none⟩) xs := fun i hi => ⟨g, 0, rfl, h, by rw [Nat.zero_add]; exact f.got i hi hi⟩
theorem ismp_nil (B : Nat) (w : World) (a : Option Addr) : ISmp B w a [] := fun i h => by cases h
theorem IV.smp {w : World} {lo : Nat} {v : Value} {xs : List Int} (h : IV w lo v xs) : ∃ a cap, v = .slice a xs.length cap ∧ ISmp w.heap.size w a xs := by
  rcases h with ⟨g, cap, rfl, h1, h2, f, hc⟩ | ⟨rfl, rfl⟩
  · exact ⟨_, _, rfl, f.smp h2⟩
  · exact ⟨none, 0, rfl, ismp_nil _ _ _⟩
def marksI (k : Int) (n : Nat) : List Int := (List.range n).map fun (i : Nat) => k + (i : Int)
theorem marksI_length (k : Int) (n : Nat) : (marksI k n).length = n := by simp [marksI]
theorem marksI_get (k : Int) (n i : Nat) (h : i < (marksI k n).length) : (marksI k n)[i] = k + (i : Int) := by simp [marksI]
theorem IFill.again {w : World} {g n m : Nat} {xs : List Int} (f : IFill w g n xs m) (ys : List Int) : IFill w g n ys 0 := ⟨f.any, fun i hi hk => by omega⟩
theorem IFill.put {w : World} {g n k : Nat} {xs : List Int} (f : IFill w g n xs k) (hk : k < xs.length) (hn : xs.length ≤ n) : IFill (w.setCell ⟨g, k, none⟩ (.int .i64 xs[k])) g n xs (k + 1) where
  any := fun j hj => by
    refine ⟨?_, by simpa using (f.any j hj).2⟩
    obtain ⟨z, hz⟩ := (f.any j hj).1
    by_cases e : k = j
    · subst e
      exact ⟨_, set_same _ hz⟩
    · exact ⟨z, (World.cell?_setCell_other _ _ _ _ (fun e' => e (by injection e' with _ e' _))).trans hz⟩
  got := fun i hi hik => by
    by_cases e : k = i
    · subst e
      obtain ⟨z, hz⟩ := (f.any k (by omega)).1
      exact set_same _ hz
    · exact (World.cell?_setCell_other _ _ _ _ (fun e' => e (by injection e' with _ e' _))).trans (f.got i hi (by omega))
end Go.Proofs.Ytoeiheccmpjclaf
