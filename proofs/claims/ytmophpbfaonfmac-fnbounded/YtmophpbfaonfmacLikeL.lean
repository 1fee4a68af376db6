/- laws.likeLend at two like Lends. -/
import Derived.Test.YtmophpbfaonfmacGrpL
import Derived.Test.YtmophpbfaonfmacGrpC
import Derived.BigQuiet
import Derived.Deep.DeepCutAuto
namespace Go.Proofs.Ytmophpbfaonfmac
open Go.ChangeShapes Go.WideShapes Go.ChangeAt Go.RowKit
set_option maxRecDepth 100000
set_option linter.unusedVariables false
set_option linter.unusedSimpArgs false

set_option maxHeartbeats 8000000 in
theorem likeL_same {w : World} {aT1 aO1 aP1 aT2 aO2 aP2 : Option Addr} (cT1 cO1 cP1 cT2 cO2 cP2 : Nat) {T O P : List Q4} (hT1 : Quad w.heap.size w aT1 T) (hO1 : Quad w.heap.size w aO1 O) (hP1 : Quad w.heap.size w aP1 P) (hT2 : Quad w.heap.size w aT2 T) (hO2 : Quad w.heap.size w aO2 O) (hP2 : Quad w.heap.size w aP2 P) (lT : T.length ≤ 1000000) (lO : O.length ≤ 1000000) (lP : P.length ≤ 1000000) :
    Calls Try.prog 46 #[lendV aT1 T.length cT1 aO1 O.length cO1 aP1 P.length cP1, lendV aT2 T.length cT2 aO2 O.length cO2 aP2 P.length cP2] w fun e w' => e = .returned (.bool true) ∧ Below w.heap.size w w' := by
  have iT : (T.length : Int) ≤ 1000000 := by omega
  have iO : (O.length : Int) ≤ 1000000 := by omega
  have iP : (P.length : Int) ≤ 1000000 := by omega
  obtain ⟨v, hv⟩ : ∃ v, v = (w.alloc (.cells #[.slice aT1 T.length cT1, .slice aO1 O.length cO1, .slice aP1 P.length cP1] 64)).alloc (.cells #[.slice aT2 T.length cT2, .slice aO2 O.length cO2, .slice aP2 P.length cP2] 64) := ⟨_, rfl⟩
  have hbv : Below w.heap.size w v := by rw [hv]; go_grown
  have hvz : w.heap.size + 2 ≤ v.heap.size := by rw [hv]; simp
  have HX : Hid (∀ w', Below v.heap.size v w' → w'.cell? ⟨w.heap.size, 0, none⟩ = some (.slice aT1 T.length cT1) ∧ w'.cell? ⟨w.heap.size, 1, none⟩ = some (.slice aO1 O.length cO1) ∧ w'.cell? ⟨w.heap.size, 2, none⟩ = some (.slice aP1 P.length cP1) ∧ w'.cell? ⟨w.heap.size + 1, 0, none⟩ = some (.slice aT2 T.length cT2) ∧ w'.cell? ⟨w.heap.size + 1, 1, none⟩ = some (.slice aO2 O.length cO2) ∧ w'.cell? ⟨w.heap.size + 1, 2, none⟩ = some (.slice aP2 P.length cP2)) := fun w' h => by
    have c : ∀ b o : Nat, b < v.heap.size → w'.cell? ⟨b, o, none⟩ = v.cell? ⟨b, o, none⟩ := fun b o hb => h.cell (p := ⟨b, o, none⟩) hb
    refine ⟨(c _ 0 (by omega)).trans ?_, (c _ 1 (by omega)).trans ?_, (c _ 2 (by omega)).trans ?_, (c _ 0 (by omega)).trans ?_, (c _ 1 (by omega)).trans ?_, (c _ 2 (by omega)).trans ?_⟩ <;> rw [hv] <;> go_simp
  have ⟨x0, x1, x2, y0, y1, y2⟩ := HX.out v (Below.refl _ _)
  go_enter Try.func46, Try.ntmps46
  go_upto_region 1 with (fail)
  rw [← hv]
  clear hv
  go_wp2
  clear x0 x1 x2 y0 y1 y2
  go_loopw [5] (fun i wr => ∃ k : Nat, i = .int .i64 k ∧ k ≤ T.length ∧ Hid (Below v.heap.size v wr)) (fun i _ => T.length - (intOf i).toNat)
  case atStart => exact ⟨0, rfl, by omega, Below.refl _ _⟩
  case round =>
    obtain ⟨k, rfl, hk, HBT⟩ := hrel
    have ⟨x0, x1, x2, y0, y1, y2⟩ := HX.out wr HBT.out
    by_cases hlt : k < T.length
    · have hlt' : (k : Int) < (T.length : Int) := by omega
      have hbw := below_step hbv HBT.out
      obtain ⟨b1, o1, rfl, hb1, d0, d1, d2, d3⟩ := hT1.at hbw k hlt
      obtain ⟨b2, o2, rfl, hb2, e0, e1, e2, e3⟩ := hT2.at hbw k hlt
      obtain ⟨z, hz⟩ : ∃ z, T[k] = z := ⟨_, rfl⟩
      rw [hz] at d0 d1 d2 d3 e0 e1 e2 e3
      clear hz
      obtain ⟨p, q, r, s⟩ := z
      simp only at d0 d1 d2 d3 e0 e1 e2 e3
      go_upto_region 6 with (fail)
      go_quiet (fail)
      go_wp2
      go_roundw
      case rel => exact ⟨k + 1, by go_num, by omega, below_drews HBT.out _⟩
      case measure => first | (simp [intOf]; done) | (simp [intOf]; omega)
    · have hlt' : ¬ (k : Int) < (T.length : Int) := by omega
      go_wp2
      clear x0 x1 x2 y0 y1 y2
      go_loopw [6] (fun i wr => ∃ k : Nat, i = .int .i64 k ∧ k ≤ O.length ∧ Hid (Below v.heap.size v wr)) (fun i _ => O.length - (intOf i).toNat)
      case atStart => exact ⟨0, rfl, by omega, HBT⟩
      case round =>
        obtain ⟨k, rfl, hk, HBO⟩ := hrel
        have ⟨x0, x1, x2, y0, y1, y2⟩ := HX.out wr HBO.out
        by_cases hlt : k < O.length
        · have hlt' : (k : Int) < (O.length : Int) := by omega
          have hbw := below_step hbv HBO.out
          obtain ⟨b1, o1, rfl, hb1, d0, d1, d2, d3⟩ := hO1.at hbw k hlt
          obtain ⟨b2, o2, rfl, hb2, e0, e1, e2, e3⟩ := hO2.at hbw k hlt
          obtain ⟨z, hz⟩ : ∃ z, O[k] = z := ⟨_, rfl⟩
          rw [hz] at d0 d1 d2 d3 e0 e1 e2 e3
          clear hz
          obtain ⟨p, q, r, s⟩ := z
          simp only at d0 d1 d2 d3 e0 e1 e2 e3
          go_upto_region 11 with (fail)
          go_quiet (fail)
          go_wp2
          go_roundw
          case rel => exact ⟨k + 1, by go_num, by omega, below_drews HBO.out _⟩
          case measure => first | (simp [intOf]; done) | (simp [intOf]; omega)
        · have hlt' : ¬ (k : Int) < (O.length : Int) := by omega
          go_wp2
          clear x0 x1 x2 y0 y1 y2
          go_loopw [7] (fun i wr => ∃ k : Nat, i = .int .i64 k ∧ k ≤ P.length ∧ Hid (Below v.heap.size v wr)) (fun i _ => P.length - (intOf i).toNat)
          case atStart => exact ⟨0, rfl, by omega, HBO⟩
          case round =>
            obtain ⟨k, rfl, hk, HBP⟩ := hrel
            have ⟨x0, x1, x2, y0, y1, y2⟩ := HX.out wr HBP.out
            by_cases hlt : k < P.length
            · have hlt' : (k : Int) < (P.length : Int) := by omega
              have hbw := below_step hbv HBP.out
              obtain ⟨b1, o1, rfl, hb1, d0, d1, d2, d3⟩ := hP1.at hbw k hlt
              obtain ⟨b2, o2, rfl, hb2, e0, e1, e2, e3⟩ := hP2.at hbw k hlt
              obtain ⟨z, hz⟩ : ∃ z, P[k] = z := ⟨_, rfl⟩
              rw [hz] at d0 d1 d2 d3 e0 e1 e2 e3
              clear hz
              obtain ⟨p, q, r, s⟩ := z
              simp only at d0 d1 d2 d3 e0 e1 e2 e3
              go_upto_region 16 with (fail)
              go_quiet (fail)
              go_wp2
              go_roundw
              case rel => exact ⟨k + 1, by go_num, by omega, below_drews HBP.out _⟩
              case measure => first | (simp [intOf]; done) | (simp [intOf]; omega)
            · have hlt' : ¬ (k : Int) < (P.length : Int) := by omega
              go_wp2
              go_ret
              exact ⟨rfl, below_step hbv HBP.out⟩
end Go.Proofs.Ytmophpbfaonfmac
