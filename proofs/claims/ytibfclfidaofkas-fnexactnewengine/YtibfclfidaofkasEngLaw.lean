/- The laws' sizes of Engines, and their comparison where they are the same. -/
import Derived.Test.YtibfclfidaofkasEngOpen
import Derived.Test.YtibfclfidaofkasConEq
import Derived.Test.YtibfclfidaofkasGrpW
import Derived.Test.YtibfclfidaofkasPls
namespace Go.Proofs.Ytibfclfidaofkas
open Go.ChangeShapes Go.WideShapes Go.ChangeAt Go.RowKit
set_option maxRecDepth 100000
set_option linter.unusedVariables false
set_option linter.unusedSimpArgs false

set_option maxHeartbeats 4000000 in
theorem szEngine_any {w : World} (now : Int) {aT : Option Addr} (cT : Nat) {T : List Q4} {aO : Option Addr} (cO : Nat) {O : List Q4} {aP : Option Addr} (cP : Nat) {P : List Q4} {aL : Option Addr} (cL : Nat) {L : List F8} {aK : Option Addr} (cK : Nat) {K : List Kn} (nx : Int) (hT : Quad w.heap.size w aT T) (hO : Quad w.heap.size w aO O) (hP : Quad w.heap.size w aP P) (hL : Fls w.heap.size w aL L) (hK : Kls w.heap.size w aK K) (mT : T.length ≤ maxLen) (mO : O.length ≤ maxLen) (mP : P.length ≤ maxLen) (mL : L.length ≤ maxLen) (sL : ∀ f ∈ L, f.2.2.length ≤ maxLen) (mK : K.length ≤ maxLen) (sK : ∀ c ∈ K, c.xs.length ≤ maxLen) :
    Calls Try.prog 5 #[engV now aT T.length cT aO O.length cO aP P.length cP aL L.length cL aK K.length cK nx, .int .i64 1048576] w fun e w' => e = .returned (.int .i64 (if (T.length : Int) + O.length + P.length + ((L.length : Int) + (sumL L L.length : Int)) + ((K.length : Int) + (sumK K K.length : Int)) ≤ 1048576 then 1048576 - (T.length : Int) - O.length - P.length - (L.length : Int) - (sumL L L.length : Int) - (K.length : Int) - (sumK K K.length : Int) else -1)) ∧ Below w.heap.size w w' := by
  have nb : Below w.heap.size w (w.alloc (.cells #[.int .i64 now, .slice aT T.length cT, .slice aO O.length cO, .slice aP P.length cP, .slice aL L.length cL, .slice aK K.length cK, .int .i64 nx] 29)) := by go_grown
  have L0 : Lay (w.alloc (.cells #[.int .i64 now, .slice aT T.length cT, .slice aO O.length cO, .slice aP P.length cP, .slice aL L.length cL, .slice aK K.length cK, .int .i64 nx] 29)) w.heap.size [.int .i64 now, .slice aT T.length cT, .slice aO O.length cO, .slice aP P.length cP, .slice aL L.length cL, .slice aK K.length cK, .int .i64 nx] := lay_new [.int .i64 now, .slice aT T.length cT, .slice aO O.length cO, .slice aP P.length cP, .slice aL L.length cL, .slice aK K.length cK, .int .i64 nx] _ rfl
  obtain ⟨r, hr⟩ : ∃ r : Int, (if (T.length : Int) + O.length + P.length + ((L.length : Int) + (sumL L L.length : Int)) + ((K.length : Int) + (sumK K K.length : Int)) ≤ 1048576 then 1048576 - (T.length : Int) - O.length - P.length - (L.length : Int) - (sumL L L.length : Int) - (K.length : Int) - (sumK K K.length : Int) else -1) = r := ⟨_, rfl⟩
  have HR : Hid ((if (T.length : Int) + O.length + P.length + ((L.length : Int) + (sumL L L.length : Int)) + ((K.length : Int) + (sumK K K.length : Int)) ≤ 1048576 then 1048576 - (T.length : Int) - O.length - P.length - (L.length : Int) - (sumL L L.length : Int) - (K.length : Int) - (sumK K K.length : Int) else -1) = r) := hr
  rw [hr]
  clear hr
  by_cases h1 : T.length + O.length + P.length ≤ 1048576
  · have f0 : (0 : Int) ≤ 1048576 - (T.length : Int) - (O.length : Int) - (P.length : Int) := by omega
    have f1 : 1048576 - (T.length : Int) - (O.length : Int) - (P.length : Int) ≤ 1048576 := by omega
    by_cases h2 : (L.length : Int) + (sumL L L.length : Int) ≤ 1048576 - (T.length : Int) - (O.length : Int) - (P.length : Int)
    · have f2 : (0 : Int) ≤ 1048576 - (T.length : Int) - (O.length : Int) - (P.length : Int) - (L.length : Int) - (sumL L L.length : Int) := by omega
      have f3 : 1048576 - (T.length : Int) - (O.length : Int) - (P.length : Int) - (L.length : Int) - (sumL L L.length : Int) ≤ 1048576 := by omega
      by_cases h3 : (K.length : Int) + (sumK K K.length : Int) ≤ 1048576 - (T.length : Int) - (O.length : Int) - (P.length : Int) - (L.length : Int) - (sumL L L.length : Int)
      · have f4 : (0 : Int) ≤ 1048576 - (T.length : Int) - (O.length : Int) - (P.length : Int) - (L.length : Int) - (sumL L L.length : Int) - (K.length : Int) - (sumK K K.length : Int) := by omega
        go_enter Try.func5, Try.ntmps5
        go_wp2_with (first
      | (go_at_call 18; refine (szLend_any aT T.length cT aO O.length cO aP P.length cP _ (by unfold maxLen at mT; omega) (by unfold maxLen at mO; omega) (by unfold maxLen at mP; omega)).mono ?_; rintro e w2 ⟨rfl, hb2⟩; rw [if_pos h1]; have M0 := L0.next hb2; have d4 : w2.cell? ⟨w.heap.size, 4, none⟩ = some (.slice aL L.length cL) := M0.cell 4 _ rfl; have hbx := below_two nb hb2)
      | (go_at_call 19; refine (szPlaceS_gen cL _ f0 f1 (hL.here hbx) mL sL).mono ?_; rintro e w3 ⟨rfl, hb3⟩; rw [if_pos h2]; have M1 := M0.next hb3; have d5 : w3.cell? ⟨w.heap.size, 5, none⟩ = some (.slice aK K.length cK) := M1.cell 5 _ rfl; have hby := below_two hbx hb3)
      | (go_at_call 20; refine (szConnS_gen cK _ f2 f3 (hK.here hby) mK sK).mono ?_; rintro e w4 ⟨rfl, hb4⟩; rw [if_pos h3]; have hbz := below_two hby hb4))
        go_ret
        exact ⟨congrArg (fun x => Ending.returned (.int .i64 x)) ((if_pos (by omega)).symm.trans HR.out), hbz⟩
      · go_enter Try.func5, Try.ntmps5
        go_wp2_with (first
      | (go_at_call 18; refine (szLend_any aT T.length cT aO O.length cO aP P.length cP _ (by unfold maxLen at mT; omega) (by unfold maxLen at mO; omega) (by unfold maxLen at mP; omega)).mono ?_; rintro e w2 ⟨rfl, hb2⟩; rw [if_pos h1]; have M0 := L0.next hb2; have d4 : w2.cell? ⟨w.heap.size, 4, none⟩ = some (.slice aL L.length cL) := M0.cell 4 _ rfl; have hbx := below_two nb hb2)
      | (go_at_call 19; refine (szPlaceS_gen cL _ f0 f1 (hL.here hbx) mL sL).mono ?_; rintro e w3 ⟨rfl, hb3⟩; rw [if_pos h2]; have M1 := M0.next hb3; have d5 : w3.cell? ⟨w.heap.size, 5, none⟩ = some (.slice aK K.length cK) := M1.cell 5 _ rfl; have hby := below_two hbx hb3)
      | (go_at_call 20; refine (szConnS_gen cK _ f2 f3 (hK.here hby) mK sK).mono ?_; rintro e w4 ⟨rfl, hb4⟩; rw [if_neg (by omega)]; have hbz := below_two hby hb4))
        go_ret
        exact ⟨congrArg (fun x => Ending.returned (.int .i64 x)) ((if_neg (by omega)).symm.trans HR.out), hbz⟩
    · go_enter Try.func5, Try.ntmps5
      go_wp2_with (first
      | (go_at_call 18; refine (szLend_any aT T.length cT aO O.length cO aP P.length cP _ (by unfold maxLen at mT; omega) (by unfold maxLen at mO; omega) (by unfold maxLen at mP; omega)).mono ?_; rintro e w2 ⟨rfl, hb2⟩; rw [if_pos h1]; have M0 := L0.next hb2; have d4 : w2.cell? ⟨w.heap.size, 4, none⟩ = some (.slice aL L.length cL) := M0.cell 4 _ rfl; have hbx := below_two nb hb2)
      | (go_at_call 19; refine (szPlaceS_gen cL _ f0 f1 (hL.here hbx) mL sL).mono ?_; rintro e w3 ⟨rfl, hb3⟩; rw [if_neg (by omega)]; have M1 := M0.next hb3; have d5 : w3.cell? ⟨w.heap.size, 5, none⟩ = some (.slice aK K.length cK) := M1.cell 5 _ rfl; have hby := below_two hbx hb3))
      go_ret
      exact ⟨congrArg (fun x => Ending.returned (.int .i64 x)) ((if_neg (by omega)).symm.trans HR.out), hby⟩
  · go_enter Try.func5, Try.ntmps5
    go_wp2_with (first
      | (go_at_call 18; refine (szLend_any aT T.length cT aO O.length cO aP P.length cP _ (by unfold maxLen at mT; omega) (by unfold maxLen at mO; omega) (by unfold maxLen at mP; omega)).mono ?_; rintro e w2 ⟨rfl, hb2⟩; rw [if_neg h1]; have M0 := L0.next hb2; have d4 : w2.cell? ⟨w.heap.size, 4, none⟩ = some (.slice aL L.length cL) := M0.cell 4 _ rfl; have hbx := below_two nb hb2))
    go_ret
    exact ⟨congrArg (fun x => Ending.returned (.int .i64 x)) ((if_neg (by omega)).symm.trans HR.out), hbx⟩
set_option maxHeartbeats 4000000 in
theorem eqEngine_same {w : World} (now : Int) {aT : Option Addr} (cT : Nat) {T : List Q4} {aO : Option Addr} (cO : Nat) {O : List Q4} {aP : Option Addr} (cP : Nat) {P : List Q4} {aL : Option Addr} (cL : Nat) {L : List F8} {aK : Option Addr} (cK : Nat) {K : List Kn} (nx : Int) {bT : Option Addr} (dT : Nat) {bO : Option Addr} (dO : Nat) {bP : Option Addr} (dP : Nat) {bL : Option Addr} (dL : Nat) {bK : Option Addr} (dK : Nat) (hT : Quad w.heap.size w aT T) (hO : Quad w.heap.size w aO O) (hP : Quad w.heap.size w aP P) (hL : Fls w.heap.size w aL L) (hK : Kls w.heap.size w aK K) (hT' : Quad w.heap.size w bT T) (hO' : Quad w.heap.size w bO O) (hP' : Quad w.heap.size w bP P) (hL' : Fls w.heap.size w bL L) (hK' : Kls w.heap.size w bK K)
    (mT : T.length ≤ 4611686018427387904) (mO : O.length ≤ 4611686018427387904) (mP : P.length ≤ 4611686018427387904) (mL : L.length ≤ 4611686018427387904) (sL : ∀ f ∈ L, f.2.2.length ≤ 4611686018427387904) (mK : K.length ≤ 4611686018427387904) (sK : ∀ c ∈ K, c.xs.length ≤ 4611686018427387904) :
    Calls Try.prog 9 #[engV now aT T.length cT aO O.length cO aP P.length cP aL L.length cL aK K.length cK nx, engV now bT T.length dT bO O.length dO bP P.length dP bL L.length dL bK K.length dK nx] w fun e w' => e = .returned (.bool true) ∧ Below w.heap.size w w' := by
  have nb : Below w.heap.size w ((w.alloc (.cells #[.int .i64 now, .slice aT T.length cT, .slice aO O.length cO, .slice aP P.length cP, .slice aL L.length cL, .slice aK K.length cK, .int .i64 nx] 39)).alloc (.cells #[.int .i64 now, .slice bT T.length dT, .slice bO O.length dO, .slice bP P.length dP, .slice bL L.length dL, .slice bK K.length dK, .int .i64 nx] 39)) := by go_grown
  have L0 : Lay ((w.alloc (.cells #[.int .i64 now, .slice aT T.length cT, .slice aO O.length cO, .slice aP P.length cP, .slice aL L.length cL, .slice aK K.length cK, .int .i64 nx] 39)).alloc (.cells #[.int .i64 now, .slice bT T.length dT, .slice bO O.length dO, .slice bP P.length dP, .slice bL L.length dL, .slice bK K.length dK, .int .i64 nx] 39)) w.heap.size [.int .i64 now, .slice aT T.length cT, .slice aO O.length cO, .slice aP P.length cP, .slice aL L.length cL, .slice aK K.length cK, .int .i64 nx] := (lay_new [.int .i64 now, .slice aT T.length cT, .slice aO O.length cO, .slice aP P.length cP, .slice aL L.length cL, .slice aK K.length cK, .int .i64 nx] _ rfl).alloc _ _
  have L0' : Lay ((w.alloc (.cells #[.int .i64 now, .slice aT T.length cT, .slice aO O.length cO, .slice aP P.length cP, .slice aL L.length cL, .slice aK K.length cK, .int .i64 nx] 39)).alloc (.cells #[.int .i64 now, .slice bT T.length dT, .slice bO O.length dO, .slice bP P.length dP, .slice bL L.length dL, .slice bK K.length dK, .int .i64 nx] 39)) (w.heap.size + 1) [.int .i64 now, .slice bT T.length dT, .slice bO O.length dO, .slice bP P.length dP, .slice bL L.length dL, .slice bK K.length dK, .int .i64 nx] := lay_new [.int .i64 now, .slice bT T.length dT, .slice bO O.length dO, .slice bP P.length dP, .slice bL L.length dL, .slice bK K.length dK, .int .i64 nx] _ (by simp)
  go_enter Try.func9, Try.ntmps9
  go_wp2_with (first
    | (go_at_call 37; refine (eqLend_any cT cO cP dT dO dP (hT.here nb) (hO.here nb) (hP.here nb) (hT'.here nb) (hO'.here nb) (hP'.here nb) mT mO mP).mono ?_; rintro e w2 ⟨rfl, hb2⟩; rw [decide_eq_true (rfl : T = T), decide_eq_true (rfl : O = O), decide_eq_true (rfl : P = P)]; have hbx := below_two nb hb2; have M0 := L0.next hb2; have M0' := L0'.next hb2; have x4 : w2.cell? ⟨w.heap.size, 4, none⟩ = some (.slice aL L.length cL) := M0.cell 4 _ rfl; have x4' : w2.cell? ⟨w.heap.size + 1, 4, none⟩ = some (.slice bL L.length dL) := M0'.cell 4 _ rfl)
    | (go_at_call 38; refine (eqPlaceS_any cL dL (hL.here hbx) (hL'.here hbx) mL sL).mono ?_; rintro e w3 ⟨rfl, hb3⟩; rw [decide_eq_true rfl]; have hby := below_two hbx hb3; have M1 := M0.next hb3; have M1' := M0'.next hb3; have y5 : w3.cell? ⟨w.heap.size, 5, none⟩ = some (.slice aK K.length cK) := M1.cell 5 _ rfl; have y5' : w3.cell? ⟨w.heap.size + 1, 5, none⟩ = some (.slice bK K.length dK) := M1'.cell 5 _ rfl)
    | (go_at_call 39; refine (eqConnS_same cK dK (hK.here hby) (hK'.here hby) mK sK).mono ?_; rintro e w4 ⟨rfl, hb4⟩; have hbz := below_two hby hb4; have M2 := M1.next hb4; have M2' := M1'.next hb4; have z6 : w4.cell? ⟨w.heap.size, 6, none⟩ = some (.int .i64 nx) := M2.cell 6 _ rfl; have z6' : w4.cell? ⟨w.heap.size + 1, 6, none⟩ = some (.int .i64 nx) := M2'.cell 6 _ rfl))
  go_ret
  exact ⟨rfl, hbz⟩
end Go.Proofs.Ytibfclfidaofkas
