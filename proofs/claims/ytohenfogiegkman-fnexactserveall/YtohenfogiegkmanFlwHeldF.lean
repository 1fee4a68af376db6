/- The laws' marks in Turns: the loops. -/
import Derived.Test.YtohenfogiegkmanFlwMark
namespace Go.Proofs.Ytohenfogiegkman
open Go.ChangeShapes Go.WideShapes Go.ChangeAt Go.RowKit
set_option maxRecDepth 100000
set_option linter.unusedVariables false
set_option linter.unusedSimpArgs false

set_option maxHeartbeats 4000000 in
theorem heldFlows_any {w : World} {lo hi g : Nat} {vs : List Value} {fs : List F8} (cap : Nat) (k : Int) (f : FO w lo hi g fs.length vs (markF k fs)) (hn : fs.length + sumL fs fs.length ≤ 1048576) (k0 : 0 ≤ k) (k1 : k ≤ 100000000) :
    Calls Try.prog 41 #[.slice (some ⟨g, 0, none⟩) fs.length cap, .int .i64 k] w fun e w' => e = .returned (.int .i64 (kAt k fs fs.length)) ∧ w' = w := by
  have hML := markF_length k fs
  have hni : (fs.length : Int) ≤ 1048576 := by omega
  go_enter Try.func41, Try.ntmps41
  go_wp2
  go_loop [1, 5] (fun s i => ∃ j : Nat, i = .int .i64 j ∧ j ≤ fs.length ∧ s = .int .i64 (kAt k fs j)) (fun _ i => fs.length - (intOf i).toNat)
  case atStart => exact ⟨0, rfl, by omega, by show _ = Value.int .i64 (k + 2 * (0 : Int) + (0 : Int)); congr 1; omega⟩
  case round =>
    obtain ⟨j, rfl, hj, rfl⟩ := hrel
    by_cases hlt : j < fs.length
    · have hlt' : (j : Int) < (fs.length : Int) := by omega
      have hm : j < (markF k fs).length := by rw [hML]; exact hlt
      have hv : j < vs.length := by rw [f.len]; exact hm
      obtain ⟨c0, c1, c2⟩ := f.got j hm hv
      have ho := f.own j hm hv
      rw [markF_get k fs j hm hlt] at c0 c1 ho
      have hmo := sumL_mono fs (show j + 1 ≤ fs.length by omega)
      rw [sumL_next hlt] at hmo
      have hk2 := kAt_next (k := k) hlt
      have hkb : k ≤ kAt k fs j ∧ kAt k fs j ≤ 200000000 := by unfold kAt; omega
      obtain ⟨K, hK⟩ : ∃ K, kAt k fs j = K := ⟨_, rfl⟩
      rw [hK] at hk2 hkb c0 c1 ho ⊢
      obtain ⟨xs, hx⟩ : ∃ xs, fs[j].2.2 = xs := ⟨_, rfl⟩
      rw [hx] at ho hmo hk2
      simp only at c0 c1 ho
      obtain ⟨va, hva⟩ : ∃ va, vs[j] = va := ⟨_, rfl⟩
      rw [hva] at c2 ho
      have HK2 : Hid (kAt k fs (j + 1) = K + 2 + (xs.length : Int)) := hk2
      have hxl : xs.length ≤ 1048576 := by omega
      have hkb0 := hkb.1
      have hkb1 := hkb.2
      have hpos : ¬ (K + 2 + (xs.length : Int) < 0) := by omega
      clear hva hx hK hk2 hkb hmo
      go_wp2_with (first | (go_at_call 20; rw [show K + 1 + 1 = K + 2 by omega]; refine (heldIO_any (K + 2) ho hxl (by omega) (by omega)).mono ?_; rintro e w3 ⟨rfl, rfl⟩))
      go_round
      case rel => exact ⟨j + 1, by go_num, by omega, by rw [HK2.out]⟩
      case measure => first | (simp [intOf]; done) | (simp [intOf]; omega)
    · have e : j = fs.length := by omega
      subst e
      go_wp2
      go_ret
      exact ⟨rfl, rfl⟩
end Go.Proofs.Ytohenfogiegkman
