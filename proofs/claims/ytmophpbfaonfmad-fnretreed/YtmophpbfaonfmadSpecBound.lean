/- What spec.Bound answers. -/
import Derived.Test.YtmophpbfaonfmadImplBound
import Derived.Test.YtmophpbfaonfmadGrpM
namespace Go.Proofs.Ytmophpbfaonfmad
open Go.ChangeShapes Go.WideShapes Go.ChangeAt Go.RowKit
set_option maxRecDepth 100000
set_option linter.unusedVariables false
set_option linter.unusedSimpArgs false

set_option maxHeartbeats 4000000 in
theorem specBound_no {w : World} {aT aO aP : Option Addr} (cT cO cP : Nat) {T O P : List Q4} (i ns : Int) (hT : Quad w.heap.size w aT T) (hO : Quad w.heap.size w aO O) (hP : Quad w.heap.size w aP P) (hn : boundOk T O P i ns = false) :
    Calls Try.prog 21 #[lendV aT T.length cT aO O.length cO aP P.length cP, .int .i64 i, .int .i64 ns] w fun e w' => e = .returned (.int .i64 (-1)) ∧ Below w.heap.size w w' := by
  have nb : Below w.heap.size w (w.alloc (.cells #[.slice aT T.length cT, .slice aO O.length cO, .slice aP P.length cP] 27)) := new_below _ _
  have c0 : (w.alloc (.cells #[.slice aT T.length cT, .slice aO O.length cO, .slice aP P.length cP] 27)).cell? ⟨w.heap.size, 0, none⟩ = some (.slice aT T.length cT) := by go_simp
  have zb : w.heap.size < (w.alloc (.cells #[.slice aT T.length cT, .slice aO O.length cO, .slice aP P.length cP] 27)).heap.size := by simp
  cases hl : lendB T O P
  · go_enter Try.func21, Try.ntmps21
    go_wp2_with (first | (go_at_call 65; refine (specLendOk_is cT cO cP hl (hT.here nb) (hO.here nb) (hP.here nb)).mono ?_; rintro e w2 ⟨rfl, hb2⟩))
    go_ret
    exact ⟨rfl, below_step nb hb2⟩
  have h30 : (T.length : Int) ≤ 30 := by have := (lend_of hl).tree.l1; omega
  unfold boundOk at hn
  rw [hl, Bool.true_and] at hn
  cases hr : (decide (0 ≤ i) && decide (i ≤ (T.length : Int) - 1))
  · clear hn
    go_enter Try.func21, Try.ntmps21
    go_wp2_with (first | (go_at_call 65; refine (specLendOk_is cT cO cP hl (hT.here nb) (hO.here nb) (hP.here nb)).mono ?_; rintro e w2 ⟨rfl, hb2⟩; have k0 := (below_cells hb2 _ _ zb).trans c0) | (go_at_call 73; refine (sIn_is hr _).mono ?_; rintro e w3 ⟨rfl, h3⟩; have h3 := h3.symm; subst h3))
    go_ret
    exact ⟨rfl, below_step nb hb2⟩
  · have ht : timeB ns = false := by rw [hr, Bool.true_and] at hn; exact hn
    clear hn
    go_enter Try.func21, Try.ntmps21
    go_wp2_with (first | (go_at_call 65; refine (specLendOk_is cT cO cP hl (hT.here nb) (hO.here nb) (hP.here nb)).mono ?_; rintro e w2 ⟨rfl, hb2⟩; have k0 := (below_cells hb2 _ _ zb).trans c0) | (go_at_call 73; refine (sIn_is hr _).mono ?_; rintro e w3 ⟨rfl, h3⟩; have h3 := h3.symm; subst h3) | (go_at_call 59; refine (sTime_is ht _).mono ?_; rintro e w4 ⟨rfl, h4⟩; have h4 := h4.symm; subst h4))
    go_ret
    exact ⟨rfl, below_step nb hb2⟩
set_option maxHeartbeats 4000000 in
theorem specBound_yes {w : World} {aT aO aP : Option Addr} (cT cO cP : Nat) {T O P : List Q4} (i ns : Int) (hT : Quad w.heap.size w aT T) (hO : Quad w.heap.size w aO O) (hP : Quad w.heap.size w aP P) (hn : boundOk T O P i ns = true) :
    Calls Try.prog 21 #[lendV aT T.length cT aO O.length cO aP P.length cP, .int .i64 i, .int .i64 ns] w fun e w' => e = .returned (.int .i64 (boundAns T O P i ns)) ∧ Below w.heap.size w w' := by
  have hn0 := hn
  unfold boundOk at hn0
  simp only [Bool.and_eq_true] at hn0
  have hl : lendB T O P = true := hn0.1.1
  have hr : (decide (0 ≤ i) && decide (i ≤ (T.length : Int) - 1)) = true := by rw [Bool.and_eq_true]; exact hn0.1.2
  have ht : timeB ns = true := hn0.2
  have i0 : 0 ≤ i := of_decide_eq_true hn0.1.2.1
  have i1 : i ≤ (T.length : Int) - 1 := of_decide_eq_true hn0.1.2.2
  have htr := (lend_of hl).tree
  obtain ⟨k, rfl⟩ := Int.eq_ofNat_of_zero_le i0
  have hk : k < T.length := by omega
  have hki : (k : Int) < (T.length : Int) := by omega
  have h30 : (T.length : Int) ≤ 30 := by have := htr.l1; omega
  have hcl := cls_good' htr k hk
  obtain ⟨bt, ot, rfl, hbt, -⟩ := hT k hk
  obtain ⟨⟨p, r, c, u⟩, he⟩ : ∃ b, T[k] = b := ⟨_, rfl⟩
  rw [he] at hcl
  have hcr : 0 ≤ c ∧ c ≤ 1000000000000 := by
    have h := hcl.2.1
    unfold rateB at h
    simp only [Bool.and_eq_true, decide_eq_true_eq] at h
    exact h
  have htn : 0 ≤ ns ∧ ns ≤ 1000000000000000 := tim_num ht
  have HB : Hid (boundAns T O P (k : Int) ns = wrap64 (u + upOf c ns)) := bound_yes hn hk he
  rw [HB.out]
  have hmd := fun W : World => specMulDiv_any c ns 1000000000 W (by omega) (by omega) (by omega)
  rw [bytes_md hcr.1 hcr.2 htn.1 htn.2] at hmd
  have HE : Hid (∀ W, Below w.heap.size w W → W.cell? ⟨bt, ot + k * 4, none⟩ = some (.int .i64 p) ∧ W.cell? ⟨bt, ot + k * 4 + 1, none⟩ = some (.int .i64 r) ∧ W.cell? ⟨bt, ot + k * 4 + 2, none⟩ = some (.int .i64 c) ∧ W.cell? ⟨bt, ot + k * 4 + 3, none⟩ = some (.int .i64 u)) := fun W h => (by have e := hT.cells h k hk; rw [he] at e; exact e)
  have nb : Below w.heap.size w (w.alloc (.cells #[.slice (some ⟨bt, ot, none⟩) T.length cT, .slice aO O.length cO, .slice aP P.length cP] 27)) := new_below _ _
  have c0 : (w.alloc (.cells #[.slice (some ⟨bt, ot, none⟩) T.length cT, .slice aO O.length cO, .slice aP P.length cP] 27)).cell? ⟨w.heap.size, 0, none⟩ = some (.slice (some ⟨bt, ot, none⟩) T.length cT) := by go_simp
  have zb : w.heap.size < (w.alloc (.cells #[.slice (some ⟨bt, ot, none⟩) T.length cT, .slice aO O.length cO, .slice aP P.length cP] 27)).heap.size := by simp
  clear hn hn0 htr he hcl i1
  unfold upOf
  cases hB : restB c ns
  · have hb : ((wrap64 (c % 1000000000 * (ns % 1000000000))).tmod 1000000000 != 0) = false := hB
    clear hB
    go_enter Try.func21, Try.ntmps21
    go_wp2_with (first | (go_at_call 65; refine (specLendOk_is cT cO cP hl (hT.here nb) (hO.here nb) (hP.here nb)).mono ?_; rintro e w2 ⟨rfl, hb2⟩; have k0 := (below_cells hb2 _ _ zb).trans c0; have hb2w := below_step nb hb2; have ⟨e0, e1, e2, e3⟩ := HE.out _ hb2w; have zw2 := hb2w.size; have nbt : w2.heap.size ≠ bt := (by omega)) | (go_at_call 73; refine (sIn_is hr _).mono ?_; rintro e w3 ⟨rfl, h3⟩; have h3 := h3.symm; subst h3) | (go_at_call 59; refine (sTime_is ht _).mono ?_; rintro e w4 ⟨rfl, h4⟩; have h4 := h4.symm; subst h4) | (go_at_call 74; refine (hmd _).mono ?_; rintro e w6 ⟨rfl, rfl⟩))
    all_goals go_ret
    all_goals first | exact ⟨rfl, below_two hb2w (new_below _ _)⟩ | (exfalso; simp_all; done)
  · have hb : ((wrap64 (c % 1000000000 * (ns % 1000000000))).tmod 1000000000 != 0) = true := hB
    clear hB
    go_enter Try.func21, Try.ntmps21
    go_wp2_with (first | (go_at_call 65; refine (specLendOk_is cT cO cP hl (hT.here nb) (hO.here nb) (hP.here nb)).mono ?_; rintro e w2 ⟨rfl, hb2⟩; have k0 := (below_cells hb2 _ _ zb).trans c0; have hb2w := below_step nb hb2; have ⟨e0, e1, e2, e3⟩ := HE.out _ hb2w; have zw2 := hb2w.size; have nbt : w2.heap.size ≠ bt := (by omega)) | (go_at_call 73; refine (sIn_is hr _).mono ?_; rintro e w3 ⟨rfl, h3⟩; have h3 := h3.symm; subst h3) | (go_at_call 59; refine (sTime_is ht _).mono ?_; rintro e w4 ⟨rfl, h4⟩; have h4 := h4.symm; subst h4) | (go_at_call 74; refine (hmd _).mono ?_; rintro e w6 ⟨rfl, rfl⟩))
    all_goals go_ret
    all_goals first | exact ⟨rfl, below_two hb2w (new_below _ _)⟩ | (exfalso; simp_all; done)
theorem specBound_any {w : World} {aT aO aP : Option Addr} (cT cO cP : Nat) {T O P : List Q4} (i ns : Int) (hT : Quad w.heap.size w aT T) (hO : Quad w.heap.size w aO O) (hP : Quad w.heap.size w aP P) :
    Calls Try.prog 21 #[lendV aT T.length cT aO O.length cO aP P.length cP, .int .i64 i, .int .i64 ns] w fun e w' => e = .returned (.int .i64 (boundAns T O P i ns)) ∧ Below w.heap.size w w' := by
  cases hn : boundOk T O P i ns
  · rw [bound_no hn]
    exact specBound_no cT cO cP i ns hT hO hP hn
  · exact specBound_yes cT cO cP i ns hT hO hP hn
end Go.Proofs.Ytmophpbfaonfmad
