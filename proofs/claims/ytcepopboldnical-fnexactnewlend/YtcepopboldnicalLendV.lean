/- The laws' copies, comparisons and marks of a Lend: three lists. -/
import Derived.Test.YtcepopboldnicalOwnQ
import Derived.Test.YtcepopboldnicalClsHeld
import Derived.Test.YtcepopboldnicalBkt
import Derived.Test.YtcepopboldnicalKept
import Derived.Deep.Strs
import Derived.Deep.DeepCutAuto
namespace Go.Proofs.Ytcepopboldnical
open Go.ChangeShapes Go.WideShapes Go.ChangeAt Go.RowKit
set_option maxRecDepth 100000
set_option linter.unusedVariables false
set_option linter.unusedSimpArgs false

theorem cells_lend : Try.prog.cellsOf 45 = 3 := by kernel_rfl
theorem cells_clsS : Try.prog.cellsOf 22 = 1 := by kernel_rfl
theorem cells_bktS : Try.prog.cellsOf 43 = 1 := by kernel_rfl
theorem open_lend {H : Type} {enc : TypeId × Value → H} {w : World} {sp : Nat → Bool} {held : Bool} {r : Reach} {b0 : Nat} {v : Value} {d : DataW H} {ps : List MemPlace}
    (hv : Value.okWide Try.prog w r b0 45 v) (h : DataW.Trod enc Try.prog w 0 sp held 45 v d ps) :
    ∃ (aT : Option Addr) (cT : Nat) (T : List Q4) (aO : Option Addr) (cO : Nat) (O : List Q4) (aP : Option Addr) (cP : Nat) (P : List Q4), v = .agg #[.slice aT T.length cT, .slice aO O.length cO, .slice aP P.length cP] ∧ Quad w.heap.size w aT T ∧ Quad w.heap.size w aO O ∧ Quad w.heap.size w aP P ∧ T.length ≤ maxLen ∧ O.length ≤ maxLen ∧ P.length ≤ maxLen := by
  have hv' := hv
  unfold Value.okWide at hv'
  rw [Try.underlying45] at hv'
  obtain ⟨cs, rfl, hsz, _⟩ := hv'
  rw [cells_lend] at hsz
  obtain ⟨n, hn⟩ := h
  obtain ⟨y0, y1, y2, m, _, hl, h0, h1, h2⟩ := Go.Deep.trod_struct3 Try.underlying45 hn
  obtain ⟨u0, u1, u2, rfl⟩ : ∃ u0 u1 u2, cs = #[u0, u1, u2] := by
    match cs, hsz with
    | ⟨[u0, u1, u2]⟩, _ => exact ⟨u0, u1, u2, rfl⟩
  have k0 : DataW.trod enc Try.prog w 0 sp held m 22 (List.take (Try.prog.cellsOf 22) (List.drop 0 [u0, u1, u2])) = some y0 := h0
  have k1 : DataW.trod enc Try.prog w 0 sp held m 43 (List.take (Try.prog.cellsOf 43) (List.drop 1 [u0, u1, u2])) = some y1 := h1
  have k2 : DataW.trod enc Try.prog w 0 sp held m 43 (List.take (Try.prog.cellsOf 43) (List.drop 2 [u0, u1, u2])) = some y2 := h2
  rw [cells_clsS] at k0
  rw [cells_bktS] at k1 k2
  have k0' : DataW.trod enc Try.prog w 0 sp held m 22 [u0] = some y0 := k0
  have k1' : DataW.trod enc Try.prog w 0 sp held m 43 [u1] = some y1 := k1
  have k2' : DataW.trod enc Try.prog w 0 sp held m 43 [u2] = some y2 := k2
  obtain ⟨aT, cT, T, rfl, qT, _, _, lT, mT⟩ := open_quads Try.underlying22 Try.underlying54 Try.underlying2 rfl rfl rfl rfl rfl rfl rfl rfl cellsQ_i_class cellsQ_class k0'
  obtain ⟨aO, cO, O, rfl, qO, _, _, lO, mO⟩ := open_quads Try.underlying43 Try.underlying84 Try.underlying2 rfl rfl rfl rfl rfl rfl rfl rfl cellsQ_i_bucket cellsQ_bucket k1'
  obtain ⟨aP, cP, P, rfl, qP, _, _, lP, mP⟩ := open_quads Try.underlying43 Try.underlying84 Try.underlying2 rfl rfl rfl rfl rfl rfl rfl rfl cellsQ_i_bucket cellsQ_bucket k2'
  exact ⟨aT, cT, T, aO, cO, O, aP, cP, P, rfl, qT, qO, qP, by omega, by omega, by omega⟩
abbrev lendV (aT : Option Addr) (nT cT : Nat) (aO : Option Addr) (nO cO : Nat) (aP : Option Addr) (nP cP : Nat) : Value := .agg #[.slice aT nT cT, .slice aO nO cO, .slice aP nP cP]
set_option maxHeartbeats 1000000 in
theorem szLend_any (aT : Option Addr) (nT cT : Nat) (aO : Option Addr) (nO cO : Nat) (aP : Option Addr) (nP cP : Nat) (w : World) (hT : (nT : Int) ≤ 9223372036854775807) (hO : (nO : Int) ≤ 9223372036854775807) (hP : (nP : Int) ≤ 9223372036854775807) :
    Calls Try.prog 29 #[lendV aT nT cT aO nO cO aP nP cP, .int .i64 1048576] w fun e w' => e = .returned (.int .i64 (if nT + nO + nP ≤ 1048576 then 1048576 - (nT : Int) - (nO : Int) - (nP : Int) else -1)) ∧ Below w.heap.size w w' := by
  by_cases h1 : (nT : Int) ≤ 1048576
  · have f1 : (0 : Int) ≤ 1048576 - (nT : Int) := by omega
    by_cases h2 : (nO : Int) ≤ 1048576 - (nT : Int)
    · have f2 : (0 : Int) ≤ 1048576 - (nT : Int) - (nO : Int) := by omega
      by_cases h3 : (nP : Int) ≤ 1048576 - (nT : Int) - (nO : Int)
      · have f3 : (0 : Int) ≤ 1048576 - (nT : Int) - (nO : Int) - (nP : Int) := by omega
        rw [if_pos (by omega)]
        go_enter Try.func29, Try.ntmps29
        go_upto_region 4 with (go_at_call 9; refine (szClassS_gen _ _ _ _ _ hT (by omega) (by omega)).mono ?_; rintro e w2 ⟨rfl, rfl⟩; rw [if_pos h1])
        go_upto_region 7 with (go_at_call 54; refine (szBucketS_gen _ _ _ _ _ hO (by omega) (by omega)).mono ?_; rintro e w3 ⟨rfl, rfl⟩; rw [if_pos h2])
        go_wp2_with (go_at_call 54; refine (szBucketS_gen _ _ _ _ _ hP (by omega) (by omega)).mono ?_; rintro e w4 ⟨rfl, rfl⟩; rw [if_pos h3])
        go_ret
        exact ⟨rfl, by go_grown⟩
      · rw [if_neg (by omega)]
        have H3 : Hid (1048576 - (nT : Int) - (nO : Int) < (nP : Int)) := Int.not_le.1 h3
        clear h3
        go_enter Try.func29, Try.ntmps29
        go_upto_region 4 with (go_at_call 9; refine (szClassS_gen _ _ _ _ _ hT (by omega) (by omega)).mono ?_; rintro e w2 ⟨rfl, rfl⟩; rw [if_pos h1])
        go_upto_region 7 with (go_at_call 54; refine (szBucketS_gen _ _ _ _ _ hO (by omega) (by omega)).mono ?_; rintro e w3 ⟨rfl, rfl⟩; rw [if_pos h2])
        go_wp2_with (go_at_call 54; refine (szBucketS_gen _ _ _ _ _ hP (by omega) (by omega)).mono ?_; rintro e w4 ⟨rfl, rfl⟩; rw [if_neg (Int.not_le.2 H3.out)])
        go_ret
        exact ⟨rfl, by go_grown⟩
    · rw [if_neg (by omega)]
      have H2 : Hid (1048576 - (nT : Int) < (nO : Int)) := Int.not_le.1 h2
      clear h2
      go_enter Try.func29, Try.ntmps29
      go_upto_region 4 with (go_at_call 9; refine (szClassS_gen _ _ _ _ _ hT (by omega) (by omega)).mono ?_; rintro e w2 ⟨rfl, rfl⟩; rw [if_pos h1])
      go_wp2_with (go_at_call 54; refine (szBucketS_gen _ _ _ _ _ hO (by omega) (by omega)).mono ?_; rintro e w3 ⟨rfl, rfl⟩; rw [if_neg (Int.not_le.2 H2.out)])
      go_ret
      exact ⟨rfl, by go_grown⟩
  · rw [if_neg (by omega)]
    go_enter Try.func29, Try.ntmps29
    go_wp2_with (go_at_call 9; refine (szClassS_gen _ _ _ _ _ hT (by omega) (by omega)).mono ?_; rintro e w2 ⟨rfl, rfl⟩; rw [if_neg h1])
    go_ret
    exact ⟨rfl, by go_grown⟩
set_option maxHeartbeats 2000000 in
theorem eqLend_any {w : World} {aT aO aP bT bO bP : Option Addr} (cT cO cP dT dO dP : Nat) {T O P T' O' P' : List Q4} (hT : Quad w.heap.size w aT T) (hO : Quad w.heap.size w aO O) (hP : Quad w.heap.size w aP P) (hT' : Quad w.heap.size w bT T') (hO' : Quad w.heap.size w bO O') (hP' : Quad w.heap.size w bP P') (nT : T.length ≤ 4611686018427387904) (nO : O.length ≤ 4611686018427387904) (nP : P.length ≤ 4611686018427387904) :
    Calls Try.prog 26 #[lendV aT T.length cT aO O.length cO aP P.length cP, lendV bT T'.length dT bO O'.length dO bP P'.length dP] w fun e w' => e = .returned (.bool ((decide (T = T') && decide (O = O')) && decide (P = P'))) ∧ Below w.heap.size w w' := by
  have C0 : Hid (Kept w [(w.heap.size, 1, .slice aO O.length cO), (w.heap.size, 2, .slice aP P.length cP), (w.heap.size + 1, 1, .slice bO O'.length dO), (w.heap.size + 1, 2, .slice bP P'.length dP)] [] ((w.alloc (.cells #[.slice aT T.length cT, .slice aO O.length cO, .slice aP P.length cP] 38)).alloc (.cells #[.slice bT T'.length dT, .slice bO O'.length dO, .slice bP P'.length dP] 38))) :=
    ⟨⟨⟨by simp; omega, by go_simp⟩, ⟨by simp; omega, by go_simp⟩, ⟨by simp, by go_simp⟩, ⟨by simp, by go_simp⟩, trivial⟩, (fun b hb => by cases hb), by go_grown⟩
  obtain ⟨d1, h1⟩ : ∃ d, decide (T = T') = d := ⟨_, rfl⟩
  obtain ⟨d2, h2⟩ : ∃ d, decide (O = O') = d := ⟨_, rfl⟩
  obtain ⟨d3, h3⟩ : ∃ d, decide (P = P') = d := ⟨_, rfl⟩
  have H1 : Hid (decide (T = T') = d1) := h1
  have H2 : Hid (decide (O = O') = d2) := h2
  have H3 : Hid (decide (P = P') = d3) := h3
  rw [h1, h2, h3]
  clear h1 h2 h3
  cases d1
  · go_enter Try.func26, Try.ntmps26
    go_wp2_with (first
      | (go_at_call 14; refine (eqClassS_any cT dT (hT.here C0.out.hb) (hT'.here C0.out.hb) nT).mono ?_; rintro e w2 ⟨rfl, hb2⟩; rw [H1.out]; have K2 := C0.out.next hb2))
    go_ret
    exact ⟨rfl, K2.hb⟩
  · cases d2
    · go_enter Try.func26, Try.ntmps26
      go_wp2_with (first
        | (go_at_call 14; refine (eqClassS_any cT dT (hT.here C0.out.hb) (hT'.here C0.out.hb) nT).mono ?_; rintro e w2 ⟨rfl, hb2⟩; rw [H1.out]; have K2 := C0.out.next hb2; have ⟨⟨kz0, k0⟩, ⟨kz1, k1⟩, ⟨kz2, k2⟩, ⟨kz3, k3⟩, _⟩ := K2.cells; have hb0 := K2.hb; clear K2)
        | (go_at_call 50; refine (eqBucketS_any cO dO (hO.here hb0) (hO'.here hb0) nO).mono ?_; rintro e w3 ⟨rfl, hb3⟩; rw [H2.out]; have hb5 := below_step hb0 hb3))
      go_ret
      exact ⟨rfl, hb5⟩
    · cases d3
      all_goals
        go_enter Try.func26, Try.ntmps26
        go_wp2_with (first
          | (go_at_call 14; refine (eqClassS_any cT dT (hT.here C0.out.hb) (hT'.here C0.out.hb) nT).mono ?_; rintro e w2 ⟨rfl, hb2⟩; rw [H1.out]; have K2 := C0.out.next hb2; have ⟨⟨kz0, k0⟩, ⟨kz1, k1⟩, ⟨kz2, k2⟩, ⟨kz3, k3⟩, _⟩ := K2.cells; have hb0 := K2.hb; have KK : Hid (Kept w _ [] w2) := K2; clear K2)
          | (go_at_call 50; have g1 := hq5; refine (eqBucketS_any cP dP (hP.here hb5) (hP'.here hb5) nP).mono ?_; rintro e w4 ⟨rfl, hb4⟩; rw [H3.out]; have hb6 := below_step hb5 hb4)
          | (go_at_call 50; refine (eqBucketS_any cO dO (hO.here hb0) (hO'.here hb0) nO).mono ?_; rintro e w3 ⟨rfl, hb3⟩; rw [H2.out]; have hb5 := below_step hb0 hb3; have hq5 := hb5.size; have K3 := KK.out.next hb3; have ⟨⟨jz0, j0⟩, ⟨jz1, j1⟩, ⟨jz2, j2⟩, ⟨jz3, j3⟩, _⟩ := K3.cells; clear K3))
        go_ret
        exact ⟨rfl, hb6⟩
end Go.Proofs.Ytcepopboldnical
