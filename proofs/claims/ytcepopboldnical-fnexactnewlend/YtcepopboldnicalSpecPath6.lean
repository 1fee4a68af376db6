/- What spec.l6Path answers. -/
import Derived.Test.YtcepopboldnicalSpecLeaf
import Derived.Test.YtcepopboldnicalAppI
namespace Go.Proofs.Ytcepopboldnical
open Go.ChangeShapes Go.WideShapes Go.ChangeAt Go.RowKit
set_option maxRecDepth 100000
set_option linter.unusedVariables false
set_option linter.unusedSimpArgs false

def parentOf (ts : List Q4) (i : Int) : Int := match ts[i.toNat]? with | some t => t.1 | none => -1
def pathF (ts : List Q4) : Nat → Int → List Int
  | 0, _ => []
  | f + 1, i => if i < 0 then [] else i :: pathF ts f (parentOf ts i)
def pathOf (ts : List Q4) (i : Int) : List Int := pathF ts (i + 1).toNat i
/-- Every parent stands ahead. -/
def PWell (ts : List Q4) : Prop := ∀ k (hk : k < ts.length), -1 ≤ ts[k].1 ∧ ts[k].1 < k
theorem parent_at {ts : List Q4} {k : Nat} (hk : k < ts.length) : parentOf ts k = ts[k].1 := by
  unfold parentOf
  rw [Int.toNat_natCast, List.getElem?_eq_getElem hk]
theorem parent_in {ts : List Q4} (h : PWell ts) {i : Int} (h0 : 0 ≤ i) (h1 : i < ts.length) : -1 ≤ parentOf ts i ∧ parentOf ts i < i := by
  obtain ⟨k, rfl⟩ : ∃ k : Nat, i = k := ⟨i.toNat, by omega⟩
  rw [parent_at (by omega)]
  exact h k (by omega)
theorem pathF_length (ts : List Q4) : ∀ f i, (pathF ts f i).length ≤ f
  | 0, _ => Nat.le_refl _
  | f + 1, i => by
    unfold pathF
    by_cases h : i < 0
    · rw [if_pos h]; exact Nat.zero_le _
    · rw [if_neg h, List.length_cons]
      exact Nat.succ_le_succ (pathF_length ts f _)
theorem pathF_more {ts : List Q4} (h : PWell ts) : ∀ (f f' : Nat) (i : Int), i < ts.length → i + 1 ≤ f → i + 1 ≤ f' → pathF ts f i = pathF ts f' i
  | 0, f', i, h1, h2, h3 => by
    cases f' with
    | zero => rfl
    | succ f' => unfold pathF; rw [if_pos (by omega)]
  | f + 1, f', i, h1, h2, h3 => by
    cases f' with
    | zero => unfold pathF; rw [if_pos (by omega)]
    | succ f' =>
      unfold pathF
      by_cases k : i < 0
      · rw [if_pos k, if_pos k]
      · rw [if_neg k, if_neg k]
        have hp := parent_in h (by omega) h1
        rw [pathF_more h f f' (parentOf ts i) (by omega) (by omega) (by omega)]
theorem path_end {ts : List Q4} {i : Int} (h : i < 0) : pathOf ts i = [] := by
  unfold pathOf
  rw [show (i + 1).toNat = 0 by omega]
  rfl
theorem path_step {ts : List Q4} (h : PWell ts) {i : Int} (h0 : 0 ≤ i) (h1 : i < ts.length) : pathOf ts i = i :: pathOf ts (parentOf ts i) := by
  have hp := parent_in h h0 h1
  unfold pathOf
  rw [show (i + 1).toNat = i.toNat + 1 by omega]
  show (if i < 0 then [] else i :: pathF ts i.toNat (parentOf ts i)) = _
  rw [if_neg (by omega), pathF_more h i.toNat (parentOf ts i + 1).toNat (parentOf ts i) (by omega) (by omega) (by omega)]
theorem path_length {ts : List Q4} {i : Int} (h1 : i < ts.length) : (pathOf ts i).length ≤ ts.length := Nat.le_trans (pathF_length ts _ _) (by omega)
end Go.Proofs.Ytcepopboldnical
