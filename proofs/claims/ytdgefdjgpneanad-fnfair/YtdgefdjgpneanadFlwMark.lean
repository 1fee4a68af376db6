/- The laws' marks in Turns. -/
import Derived.Test.YtdgefdjgpneanadFlwLaw
import Derived.Test.YtdgefdjgpneanadFlwPut
namespace Go.Proofs.Ytdgefdjgpneanad
open Go.ChangeShapes Go.WideShapes Go.ChangeAt Go.RowKit
set_option maxRecDepth 100000
set_option linter.unusedVariables false
set_option linter.unusedSimpArgs false

/-- Numbers from a place of a block on. -/
structure OFill (w : World) (g off n : Nat) (xs : List Int) (k : Nat) : Prop where
  any : ∀ j, j < n → (∃ z : Int, w.cell? ⟨g, off + j, none⟩ = some (.int .i64 z)) ∧ w.frozen? ⟨g, off + j, none⟩ = false
  got : ∀ i (h : i < xs.length), i < k → w.cell? ⟨g, off + i, none⟩ = some (.int .i64 xs[i])
theorem OFill.again {w : World} {g off n m : Nat} {xs : List Int} (f : OFill w g off n xs m) (ys : List Int) : OFill w g off n ys 0 := ⟨f.any, fun i hi hk => by omega⟩
theorem OFill.put {w : World} {g off n k : Nat} {xs : List Int} (f : OFill w g off n xs k) (hk : k < xs.length) (hn : xs.length ≤ n) : OFill (w.setCell ⟨g, off + k, none⟩ (.int .i64 xs[k])) g off n xs (k + 1) where
  any := fun j hj => by
    refine ⟨?_, by simpa using (f.any j hj).2⟩
    obtain ⟨z, hz⟩ := (f.any j hj).1
    by_cases e : k = j
    · subst e
      exact ⟨_, set_same _ hz⟩
    · exact ⟨z, (set_other (by omega)).trans hz⟩
  got := fun i hi hik => by
    by_cases e : k = i
    · subst e
      obtain ⟨z, hz⟩ := (f.any k (by omega)).1
      exact set_same _ hz
    · exact (set_other (by omega)).trans (f.got i hi (by omega))
def kAt (k : Int) (fs : List F8) (i : Nat) : Int := k + 2 * (i : Int) + (sumL fs i : Int)
def markF (k : Int) (fs : List F8) : List F8 := fs.mapIdx fun i f => (kAt k fs i, kAt k fs i + 1, marksI (kAt k fs i + 2) f.2.2.length)
theorem markF_length (k : Int) (fs : List F8) : (markF k fs).length = fs.length := by simp [markF]
theorem markF_get (k : Int) (fs : List F8) (i : Nat) (h : i < (markF k fs).length) (h' : i < fs.length) : (markF k fs)[i] = (kAt k fs i, kAt k fs i + 1, marksI (kAt k fs i + 2) fs[i].2.2.length) := by simp [markF]
theorem kAt_next {k : Int} {fs : List F8} {i : Nat} (h : i < fs.length) : kAt k fs (i + 1) = kAt k fs i + 2 + (fs[i].2.2.length : Int) := by
  unfold kAt
  rw [sumL_next h]
  omega
/-- The first i of A, then the others of B. -/
def mix (A B : List F8) (i : Nat) : List F8 := A.take i ++ B.drop i
theorem mix_length {A B : List F8} (h : A.length = B.length) {i : Nat} (hi : i ≤ B.length) : (mix A B i).length = B.length := by
  unfold mix
  rw [List.length_append, List.length_take, List.length_drop]
  omega
theorem mix_zero (A B : List F8) : mix A B 0 = B := by simp [mix]
theorem mix_all {A B : List F8} (h : A.length = B.length) : mix A B B.length = A := by
  unfold mix
  rw [List.take_of_length_le (by omega), List.drop_eq_nil_of_le (Nat.le_refl _), List.append_nil]
theorem mix_at {A B : List F8} (h : A.length = B.length) {i : Nat} (hi : i < B.length) (h' : i < (mix A B i).length) : (mix A B i)[i] = B[i] := by
  have e : (mix A B i)[i]? = B[i]? := by
    unfold mix
    rw [List.getElem?_append_right (by rw [List.length_take]; omega), List.getElem?_drop]
    congr 1
    rw [List.length_take]
    omega
  rw [List.getElem?_eq_getElem h', List.getElem?_eq_getElem hi] at e
  exact Option.some.inj e
theorem mix_set {A B : List F8} (h : A.length = B.length) {i : Nat} (hi : i < B.length) (ha : i < A.length) : (mix A B i).set i A[i] = mix A B (i + 1) := by
  unfold mix
  rw [List.set_append_right _ _ (by rw [List.length_take]; omega), List.drop_eq_getElem_cons hi, List.take_succ_eq_append_getElem ha, List.append_assoc]
  congr 1
  rw [show i - (A.take i).length = 0 by rw [List.length_take]; omega]
  rfl
end Go.Proofs.Ytdgefdjgpneanad
