/- The laws' marks in Turns. -/
import Derived.Test.YtohenfogiegkmanFlwLaw
import Derived.Test.YtohenfogiegkmanFlwPut
namespace Go.Proofs.Ytohenfogiegkman
open Go.ChangeShapes Go.WideShapes Go.ChangeAt Go.RowKit
set_option maxRecDepth 100000
set_option linter.unusedVariables false
set_option linter.unusedSimpArgs false

/-- Numbers from a place of a block on. -/
structure OFill (w : World) (g off n : Nat) (xs : List Int) (k : Nat) : Prop where
  any : ∀ j, j < n → (∃ z : Int, w.cell? ⟨g, off + j, none⟩ = some (.int .i64 z)) ∧ w.frozen? ⟨g, off + j, none⟩ = false
  got : ∀ i (h : i < xs.length), i < k → w.cell? ⟨g, off + i, none⟩ = some (.int .i64 xs[i])
theorem OFill.again {w : World} {g off n m : Nat} {xs : List Int} (f : OFill w g off n xs m) (ys : List Int) : OFill w g off n ys 0 := ⟨f.any, fun i hi hk => by omega⟩
theorem OFill.put {w : World} {g off n k : Nat} {xs : List Int} (f : OFill w g off n xs k) (hk : k < xs.length) (hn : xs.length ≤ n) : OFill (w.setCell ⟨g, off + k, none⟩ (.int .i64 xs[k])) g off n xs (k + 1) where
  any := fun j hj => by
    refine ⟨?_, by simpa using (f.any j hj).2⟩
    obtain ⟨z, hz⟩ := (f.any j hj).1
    by_cases e : k = j
    · subst e
      exact ⟨_, set_same _ hz⟩
    · exact ⟨z, (set_other (by omega)).trans hz⟩
  got := fun i hi hik => by
    by_cases e : k = i
    · subst e
      obtain ⟨z, hz⟩ := (f.any k (by omega)).1
      exact set_same _ hz
    · exact (set_other (by omega)).trans (f.got i hi (by omega))
set_option maxHeartbeats 1000000 in
theorem markOff_any {w : World} {g off n m : Nat} (cap : Nat) {xs : List Int} (k : Int) (f : OFill w g off n xs m) (hg : g < w.heap.size) (hn : n ≤ 1048576) (k0 : 0 ≤ k) (k1 : k ≤ 1000000000) :
    Calls Try.prog 19 #[.slice (some ⟨g, off, none⟩) n cap, .int .i64 k] w fun e w' => e = .returned (.int .i64 (k + n)) ∧ OFill w' g off n (marksI k n) n ∧ Only g w w' := by
  go_enter Try.func19, Try.ntmps19
  go_wp2
  go_loopw [1, 5] (fun s i wr => ∃ j : Nat, i = .int .i64 j ∧ j ≤ n ∧ s = .int .i64 (k + (j : Int)) ∧ OFill wr g off n (marksI k n) j ∧ Only g w wr) (fun _ i _ => n - (intOf i).toNat)
  case atStart => exact ⟨0, rfl, by omega, by simp, f.again _, Only.refl _ _⟩
  case round =>
    obtain ⟨j, rfl, hj, rfl, fr, hO⟩ := hrel
    by_cases hlt : j < n
    · obtain ⟨⟨z0, e0⟩, u0⟩ := fr.any j hlt
      have hlt' : (j : Int) < (n : Int) := by omega
      have hp := fr.put (k := j) (by rw [marksI_length]; exact hlt) (by rw [marksI_length]; omega)
      rw [marksI_get] at hp
      have HP : Hid (OFill (wr.setCell ⟨g, off + j, none⟩ (.int .i64 (k + (j : Int)))) g off n (marksI k n) (j + 1)) := hp
      clear hp
      go_wp2
      exact ⟨⟨j + 1, by go_num, by omega, ret_v (by omega), HP.out, hO.setCell rfl _⟩, by simp [intOf]; omega⟩
    · have e : j = n := by omega
      subst e
      go_wp2
      go_ret
      exact ⟨rfl, fr, hO⟩
set_option maxHeartbeats 1000000 in
theorem heldOff_any {w : World} {g off n : Nat} (cap : Nat) (k : Int) (f : OFill w g off n (marksI k n) n) (hn : n ≤ 1048576) (k0 : 0 ≤ k) (k1 : k ≤ 1000000000) :
    Calls Try.prog 20 #[.slice (some ⟨g, off, none⟩) n cap, .int .i64 k] w fun e w' => e = .returned (.int .i64 (k + n)) ∧ w' = w := by
  go_enter Try.func20, Try.ntmps20
  go_wp2
  go_loop [1, 5] (fun s i => ∃ j : Nat, i = .int .i64 j ∧ j ≤ n ∧ s = .int .i64 (k + (j : Int))) (fun _ i => n - (intOf i).toNat)
  case atStart => exact ⟨0, rfl, by omega, by simp⟩
  case round =>
    obtain ⟨j, rfl, hj, rfl⟩ := hrel
    by_cases hlt : j < n
    · have c0 := f.got j (by rw [marksI_length]; exact hlt) hlt
      rw [marksI_get] at c0
      have hlt' : (j : Int) < (n : Int) := by omega
      go_wp2
      go_round
      case rel => exact ⟨j + 1, by go_num, by omega, ret_v (by omega)⟩
      case measure => first | (simp [intOf]; done) | (simp [intOf]; omega)
    · have e : j = n := by omega
      subst e
      go_wp2
      go_ret
      exact ⟨rfl, rfl⟩
theorem markNil_any (a : Option Addr) (cap : Nat) (k : Int) (w : World) (k0 : 0 ≤ k) (k1 : k ≤ 1000000000) : Calls Try.prog 19 #[.slice a 0 cap, .int .i64 k] w fun e w' => e = .returned (.int .i64 k) ∧ w' = w := by
  go_enter Try.func19, Try.ntmps19
  go_wp2
  refine wp_loop_rounds 1 ?_
  rw [rounds_succ]
  go_wp2
  go_ret
  exact ⟨rfl, rfl⟩
theorem heldNil_any (a : Option Addr) (cap : Nat) (k : Int) (w : World) (k0 : 0 ≤ k) (k1 : k ≤ 1000000000) : Calls Try.prog 20 #[.slice a 0 cap, .int .i64 k] w fun e w' => e = .returned (.int .i64 k) ∧ w' = w := by
  go_enter Try.func20, Try.ntmps20
  go_wp2
  refine wp_loop_rounds 1 ?_
  rw [rounds_succ]
  go_wp2
  go_ret
  exact ⟨rfl, rfl⟩
theorem markIO_any {w : World} {lo hi : Nat} {v : Value} {xs : List Int} (k : Int) (h : IO w lo hi v xs) (hn : xs.length ≤ 1048576) (k0 : 0 ≤ k) (k1 : k ≤ 1000000000) :
    Calls Try.prog 19 #[v, .int .i64 k] w fun e w' => e = .returned (.int .i64 (k + xs.length)) ∧ IO w' lo hi v (marksI k xs.length) ∧ OnlyO (elB v) w w' := by
  obtain ⟨a, cap, rfl, hc, h⟩ := h
  by_cases h0 : xs = []
  · subst h0
    refine (markNil_any a cap k w k0 k1).mono ?_
    rintro e w' ⟨rfl, rfl⟩
    exact ⟨by simp, ⟨a, cap, rfl, hc, .inl rfl⟩, OnlyO.of_below (Below.refl _ _)⟩
  · rcases h with h | ⟨g, off, rfl, h1, h2, h3, h4⟩
    · exact absurd h h0
    · refine (markOff_any cap k (xs := xs) (m := xs.length) ⟨fun j hj => ⟨⟨_, (h4 j hj).1⟩, (h4 j hj).2⟩, fun i hi _ => (h4 i hi).1⟩ h3 hn k0 k1).mono ?_
      rintro e w' ⟨rfl, f', ho⟩
      have eb : elB (.slice (some ⟨g, off, none⟩) xs.length cap) = some g := by
        cases xs with
        | nil => exact absurd rfl h0
        | cons x r => rfl
      refine ⟨rfl, ⟨_, cap, by rw [marksI_length], by rw [marksI_length]; exact hc, .inr ⟨g, off, rfl, h1, h2, Nat.lt_of_lt_of_le h3 ho.size, fun i hi => ⟨f'.got i hi (by rw [marksI_length] at hi; exact hi), (f'.any i (by rw [marksI_length] at hi; exact hi)).2⟩⟩⟩, ?_⟩
      rw [eb]
      exact OnlyO.of_only ho
theorem heldIO_any {w : World} {lo hi n : Nat} {v : Value} (k : Int) (h : IO w lo hi v (marksI k n)) (hn : n ≤ 1048576) (k0 : 0 ≤ k) (k1 : k ≤ 1000000000) :
    Calls Try.prog 20 #[v, .int .i64 k] w fun e w' => e = .returned (.int .i64 (k + n)) ∧ w' = w := by
  obtain ⟨a, cap, rfl, hc, h⟩ := h
  rw [marksI_length]
  rcases h with h | ⟨g, off, rfl, h1, h2, h3, h4⟩
  · have hn0 : n = 0 := by rw [← marksI_length k n, h]; rfl
    subst hn0
    refine (heldNil_any a cap k w k0 k1).mono ?_
    rintro e w' ⟨rfl, rfl⟩
    exact ⟨by simp, rfl⟩
  · exact heldOff_any cap k ⟨fun j hj => ⟨⟨_, (h4 j (by rw [marksI_length]; exact hj)).1⟩, (h4 j (by rw [marksI_length]; exact hj)).2⟩, fun i hi _ => (h4 i hi).1⟩ hn k0 k1
/-! Flows -/
def kAt (k : Int) (fs : List F8) (i : Nat) : Int := k + 2 * (i : Int) + (sumL fs i : Int)
def markF (k : Int) (fs : List F8) : List F8 := fs.mapIdx fun i f => (kAt k fs i, kAt k fs i + 1, marksI (kAt k fs i + 2) f.2.2.length)
theorem markF_length (k : Int) (fs : List F8) : (markF k fs).length = fs.length := by simp [markF]
theorem markF_get (k : Int) (fs : List F8) (i : Nat) (h : i < (markF k fs).length) (h' : i < fs.length) : (markF k fs)[i] = (kAt k fs i, kAt k fs i + 1, marksI (kAt k fs i + 2) fs[i].2.2.length) := by simp [markF]
theorem kAt_next {k : Int} {fs : List F8} {i : Nat} (h : i < fs.length) : kAt k fs (i + 1) = kAt k fs i + 2 + (fs[i].2.2.length : Int) := by
  unfold kAt
  rw [sumL_next h]
  omega
/-- The first i of A, then the others of B. -/
def mix (A B : List F8) (i : Nat) : List F8 := A.take i ++ B.drop i
theorem mix_length {A B : List F8} (h : A.length = B.length) {i : Nat} (hi : i ≤ B.length) : (mix A B i).length = B.length := by
  unfold mix
  rw [List.length_append, List.length_take, List.length_drop]
  omega
theorem mix_zero (A B : List F8) : mix A B 0 = B := by simp [mix]
theorem mix_all {A B : List F8} (h : A.length = B.length) : mix A B B.length = A := by
  unfold mix
  rw [List.take_of_length_le (by omega), List.drop_eq_nil_of_le (Nat.le_refl _), List.append_nil]
theorem mix_at {A B : List F8} (h : A.length = B.length) {i : Nat} (hi : i < B.length) (h' : i < (mix A B i).length) : (mix A B i)[i] = B[i] := by
  have e : (mix A B i)[i]? = B[i]? := by
    unfold mix
    rw [List.getElem?_append_right (by rw [List.length_take]; omega), List.getElem?_drop]
    congr 1
    rw [List.length_take]
    omega
  rw [List.getElem?_eq_getElem h', List.getElem?_eq_getElem hi] at e
  exact Option.some.inj e
theorem mix_set {A B : List F8} (h : A.length = B.length) {i : Nat} (hi : i < B.length) (ha : i < A.length) : (mix A B i).set i A[i] = mix A B (i + 1) := by
  unfold mix
  rw [List.set_append_right _ _ (by rw [List.length_take]; omega), List.drop_eq_getElem_cons hi, List.take_succ_eq_append_getElem ha, List.append_assoc]
  congr 1
  rw [show i - (A.take i).length = 0 by rw [List.length_take]; omega]
  rfl
end Go.Proofs.Ytohenfogiegkman
