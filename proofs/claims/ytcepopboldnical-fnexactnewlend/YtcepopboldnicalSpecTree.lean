/- What spec.TreeOk answers. -/
import Derived.Test.YtcepopboldnicalTreeMath
import Derived.Test.YtcepopboldnicalLate
import Derived.Test.YtcepopboldnicalWok
import Derived.BigQuiet
import Derived.Deep.QuietTactic
namespace Go.Proofs.Ytcepopboldnical
open Go.ChangeShapes Go.WideShapes Go.ChangeAt Go.RowKit
set_option maxRecDepth 100000
set_option linter.unusedVariables false
set_option linter.unusedSimpArgs false

theorem ret_i {f g : Int} (h : f = g) : Ending.returned (.int .i64 f) = .returned (.int .i64 g) := by rw [h]
theorem sRate_is {x : Int} {f : Bool} (h : rateB x = f) (w : World) : Calls Try.prog 62 #[.int .i64 x] w fun e w' => e = .returned (.bool f) ∧ w' = w := by subst h; exact rate_any x w
theorem sIn_is {lo x hi : Int} {f : Bool} (h : (decide (lo ≤ x) && decide (x ≤ hi)) = f) (w : World) : Calls Try.prog 59 #[.int .i64 x, .int .i64 lo, .int .i64 hi] w fun e w' => e = .returned (.bool f) ∧ w' = w := by subst h; exact in_any lo x hi w
theorem cls_parts {hi r c u : Int} {p : Int} : clsB hi (p, r, c, u) = ((((rateB r && rateB c) && decide (r ≤ c)) && decide (c ≤ hi)) && burB u) := rfl
theorem par_zero {p : Int} : parB 0 p = decide (p = -1) := rfl
theorem par_more {k : Nat} {p : Int} (h : k ≠ 0) : parB k p = (decide (0 ≤ p) && decide (p ≤ (k : Int) - 1)) := if_neg h
theorem up_zero {ts : List Q4} {p : Int} : ceilUp ts 0 p = 1000000000000 := rfl
theorem up_more {ts : List Q4} {k q : Nat} {p : Int} (h : k ≠ 0) (hp : p = q) : ceilUp ts k p = ceilOf ts q := by subst hp; exact if_neg h
theorem len_num {ts : List Q4} (h : lenB ts = true) : 1 ≤ ts.length ∧ ts.length ≤ 30 := by
  unfold lenB at h
  rw [Bool.and_eq_true] at h
  exact ⟨of_decide_eq_true h.1, of_decide_eq_true h.2⟩
theorem len_bad {ts : List Q4} (h : lenB ts = false) : ts.length = 0 ∨ 30 < ts.length := by
  unfold lenB at h
  rw [Bool.and_eq_false_iff] at h
  rcases h with h | h
  · have := of_decide_eq_false h; omega
  · have := of_decide_eq_false h; omega
set_option maxHeartbeats 1000000 in
theorem specTree_len {w : World} {a : Option Addr} (cap : Nat) {ts : List Q4} (hl : lenB ts = false) :
    Calls Try.prog 39 #[.slice a ts.length cap] w fun e w' => e = .returned (.int .i64 (treeCode ts)) ∧ Below w.heap.size w w' := by
  rw [code_len hl]
  rcases len_bad hl with h | h
  · have h' : (ts.length : Int) < 1 := by omega
    clear hl h
    go_enter Try.func39, Try.ntmps39
    go_wp2
    go_ret
    exact ⟨rfl, by go_grown⟩
  · have h' : (30 : Int) < (ts.length : Int) := by omega
    have h2 : decide ((ts.length : Int) < 1) = false := decide_eq_false (by omega)
    clear hl h
    go_enter Try.func39, Try.ntmps39
    go_wp2
    go_ret
    exact ⟨rfl, by go_grown⟩
set_option maxHeartbeats 8000000 in
theorem specTree_any {w : World} {a : Option Addr} (cap : Nat) {ts : List Q4} (h : Quad w.heap.size w a ts) :
    Calls Try.prog 39 #[.slice a ts.length cap] w fun e w' => e = .returned (.int .i64 (treeCode ts)) ∧ Below w.heap.size w w' := by
  cases hl : lenB ts
  · exact specTree_len cap hl
  have hn := len_num hl
  have n0 : decide ((ts.length : Int) < 1) = false := decide_eq_false (by omega)
  have n1 : decide ((30 : Int) < (ts.length : Int)) = false := decide_eq_false (by omega)
  have HL : Hid (lenB ts = true) := hl
  clear hl
  go_enter Try.func39, Try.ntmps39
  go_wp2
  go_loopw [4] (fun i wr => ∃ k : Nat, i = .int .i64 k ∧ k ≤ ts.length ∧ Hid (firstC ts k = 0) ∧ Below w.heap.size w wr) (fun i _ => ts.length - (intOf i).toNat)
  case atStart => exact ⟨0, rfl, by omega, rfl, by go_grown⟩
  case round =>
    obtain ⟨k, rfl, hk, HF, hbw⟩ := hrel
    by_cases hlt : k < ts.length
    · obtain ⟨b, off, rfl, hb, c0, c1, c2, c3⟩ := h.at hbw k hlt
      have hlt' : (k : Int) < (ts.length : Int) := by omega
      have zb := hbw.size
      have hbz : b < wr.heap.size := Nat.lt_of_lt_of_le hb hbw.size
      obtain ⟨x, hx⟩ : ∃ x, ts[k] = x := ⟨_, rfl⟩
      rw [hx] at c0 c1 c2 c3
      obtain ⟨p, r, c, u⟩ := x
      have HX : Hid (ts[k] = (p, r, c, u)) := hx
      clear hx
      simp only at c0 c1 c2 c3
      have bad2 : parB k p = false → treeCode ts = 2 := fun hp => by
        have e : codeT ts k ts[k] = 2 := by rw [HX.out]; exact code_par hp
        rw [code_bad HL.out hlt HF.out (by rw [e]; decide), e]
      by_cases hk0 : k = 0
      · subst hk0
        simp only [Nat.zero_mul, Nat.add_zero] at c0 c1 c2 c3
        by_cases hp : p = -1
        · subst hp
          clear bad2
          have bad3 : clsB 1000000000000 (-1, r, c, u) = false → treeCode ts = 3 := fun hp => by
            have e : codeT ts 0 ts[0] = 3 := by rw [HX.out]; exact code_cls rfl hp
            rw [code_bad HL.out hlt HF.out (by rw [e]; decide), e]
          have good0 : clsB 1000000000000 (-1, r, c, u) = true → firstC ts 1 = 0 := fun hp => by
            rw [first_next HF.out, codeAt_at hlt, HX.out]
            exact code_ok rfl hp
          cases h1 : rateB r
          · skip
            have HCC : clsB 1000000000000 (-1, r, c, u) = false := by rw [cls_parts]; simp [h1]
            have HC : Hid (treeCode ts = 3) := bad3 HCC
            clear HCC good0 bad3
            go_wp2
            go_quiet (first | (go_at_call 62; exact Calls.quiet_of_same (sRate_is h1 _)))
            go_wp2
            go_ret
            exact ⟨ret_i HC.out.symm, below_drews (by go_grown) _⟩
          · cases h2 : rateB c
            · skip
              have HCC : clsB 1000000000000 (-1, r, c, u) = false := by rw [cls_parts]; simp [h1, h2]
              have HC : Hid (treeCode ts = 3) := bad3 HCC
              clear HCC good0 bad3
              go_wp2
              go_quiet (first | (go_at_call 62; exact Calls.quiet_of_same (sRate_is h1 _)) | (go_at_call 62; exact Calls.quiet_of_same (sRate_is h2 _)))
              go_wp2
              go_ret
              exact ⟨ret_i HC.out.symm, below_drews (by go_grown) _⟩
            · by_cases h3 : r ≤ c
              · have h3' : decide (c < r) = false := decide_eq_false (by omega)
                cases h4 : (decide (1500 ≤ u) && decide (u ≤ 1000000000))
                · have h4' : burB u = false := h4
                  have HCC : clsB 1000000000000 (-1, r, c, u) = false := by rw [cls_parts]; simp [h1, h2, h3, h4']
                  have HC : Hid (treeCode ts = 3) := bad3 HCC
                  clear HCC good0 bad3
                  go_wp2
                  go_quiet (first | (go_at_call 62; exact Calls.quiet_of_same (sRate_is h1 _)) | (go_at_call 62; exact Calls.quiet_of_same (sRate_is h2 _)) | (go_at_call 59; exact Calls.quiet_of_same (sIn_is h4 _)))
                  go_wp2
                  go_ret
                  exact ⟨ret_i HC.out.symm, below_drews (by go_grown) _⟩
                · have h4' : burB u = true := h4
                  have h5 : c ≤ 1000000000000 := (rate_numT h2).2
                  have HCC : clsB 1000000000000 (-1, r, c, u) = true := by rw [cls_parts]; simp [h1, h2, h3, h4', h5]
                  have HN : Hid (firstC ts 1 = 0) := good0 HCC
                  clear HCC good0 bad3
                  go_wp2
                  go_quiet (first | (go_at_call 62; exact Calls.quiet_of_same (sRate_is h1 _)) | (go_at_call 62; exact Calls.quiet_of_same (sRate_is h2 _)) | (go_at_call 59; exact Calls.quiet_of_same (sIn_is h4 _)))
                  go_wp2
                  go_roundw
                  case rel => exact ⟨1, by go_num, by omega, HN, below_drews (by go_grown) _⟩
                  case measure => first | (simp [intOf]; done) | (simp [intOf]; omega)
              · have h3' : c < r := by omega
                have HCC : clsB 1000000000000 (-1, r, c, u) = false := by rw [cls_parts]; simp [h1, h2, h3]
                have HC : Hid (treeCode ts = 3) := bad3 HCC
                clear HCC good0 bad3
                go_wp2
                go_quiet (first | (go_at_call 62; exact Calls.quiet_of_same (sRate_is h1 _)) | (go_at_call 62; exact Calls.quiet_of_same (sRate_is h2 _)))
                go_wp2
                go_ret
                exact ⟨ret_i HC.out.symm, below_drews (by go_grown) _⟩
        · have hp' : (p == -1) = false := by simp [hp]
          have HC : Hid (treeCode ts = 2) := bad2 (by rw [par_zero]; exact decide_eq_false hp)
          clear bad2
          go_wp2
          go_ret
          exact ⟨ret_i HC.out.symm, by go_grown⟩
      · have k1 : (0 : Int) < (k : Int) := by omega
        have k2 : ((k : Int) == 0) = false := by simp [hk0]
        cases hpar : (decide (0 ≤ p) && decide (p ≤ (k : Int) - 1))
        · have HC : Hid (treeCode ts = 2) := bad2 (by rw [par_more hk0]; exact hpar)
          clear bad2
          go_wp2_with (first | (go_at_call 59; refine (sIn_is hpar _).mono ?_; rintro e w2 ⟨rfl, rfl⟩))
          go_ret
          exact ⟨ret_i HC.out.symm, by go_grown⟩
        · have hpn := par_num (k := k) (p := p) (by rw [par_more hk0]; exact hpar)
          have hp0 : 0 ≤ p := by rw [Bool.and_eq_true] at hpar; exact of_decide_eq_true hpar.1
          obtain ⟨q, rfl⟩ : ∃ q : Nat, p = q := ⟨p.toNat, by omega⟩
          have hq : q < ts.length := by omega
          have hq' : (q : Int) < (ts.length : Int) := by omega
          have hd2 := (h.cells hbw q hq).2.2.1
          obtain ⟨d, hd⟩ : ∃ d, ts[q].2.2.1 = d := ⟨_, rfl⟩
          rw [hd] at hd2
          have HD : Hid (ceilUp ts k q = d) := by
            show ceilUp ts k q = d
            rw [up_more hk0 rfl, ceilOf_at hq, hd]
          clear hd hpn bad2
          have bad3 : clsB d ((q : Int), r, c, u) = false → treeCode ts = 3 := fun hp => by
            have e : codeT ts k ts[k] = 3 := by rw [HX.out]; exact code_cls (by rw [par_more hk0]; exact hpar) (by rw [HD.out]; exact hp)
            rw [code_bad HL.out hlt HF.out (by rw [e]; decide), e]
          have good0 : clsB d ((q : Int), r, c, u) = true → firstC ts (k + 1) = 0 := fun hp => by
            rw [first_next HF.out, codeAt_at hlt, HX.out]
            exact code_ok (by rw [par_more hk0]; exact hpar) (by rw [HD.out]; exact hp)
          cases h1 : rateB r
          · skip
            have HCC : clsB d ((q : Int), r, c, u) = false := by rw [cls_parts]; simp [h1]
            have HC : Hid (treeCode ts = 3) := bad3 HCC
            clear HCC good0 bad3
            go_wp2_with (first | (go_at_call 59; refine (sIn_is hpar _).mono ?_; rintro e w2 ⟨rfl, rfl⟩))
            go_quiet (first | (go_at_call 62; exact Calls.quiet_of_same (sRate_is h1 _)))
            go_wp2
            go_ret
            exact ⟨ret_i HC.out.symm, below_drews (by go_grown) _⟩
          · cases h2 : rateB c
            · skip
              have HCC : clsB d ((q : Int), r, c, u) = false := by rw [cls_parts]; simp [h1, h2]
              have HC : Hid (treeCode ts = 3) := bad3 HCC
              clear HCC good0 bad3
              go_wp2_with (first | (go_at_call 59; refine (sIn_is hpar _).mono ?_; rintro e w2 ⟨rfl, rfl⟩))
              go_quiet (first | (go_at_call 62; exact Calls.quiet_of_same (sRate_is h1 _)) | (go_at_call 62; exact Calls.quiet_of_same (sRate_is h2 _)))
              go_wp2
              go_ret
              exact ⟨ret_i HC.out.symm, below_drews (by go_grown) _⟩
            · by_cases h3 : r ≤ c
              · have h3' : decide (c < r) = false := decide_eq_false (by omega)
                cases h4 : (decide (1500 ≤ u) && decide (u ≤ 1000000000))
                · have h4' : burB u = false := h4
                  have HCC : clsB d ((q : Int), r, c, u) = false := by rw [cls_parts]; simp [h1, h2, h3, h4']
                  have HC : Hid (treeCode ts = 3) := bad3 HCC
                  clear HCC good0 bad3
                  go_wp2_with (first | (go_at_call 59; refine (sIn_is hpar _).mono ?_; rintro e w2 ⟨rfl, rfl⟩))
                  go_quiet (first | (go_at_call 62; exact Calls.quiet_of_same (sRate_is h1 _)) | (go_at_call 62; exact Calls.quiet_of_same (sRate_is h2 _)) | (go_at_call 59; exact Calls.quiet_of_same (sIn_is h4 _)))
                  go_wp2
                  go_ret
                  exact ⟨ret_i HC.out.symm, below_drews (by go_grown) _⟩
                · have h4' : burB u = true := h4
                  by_cases h5 : c ≤ d
                  · have h5' : decide (d < c) = false := decide_eq_false (by omega)
                    have HCC : clsB d ((q : Int), r, c, u) = true := by rw [cls_parts]; simp [h1, h2, h3, h4', h5]
                    have HN : Hid (firstC ts (k + 1) = 0) := good0 HCC
                    clear HCC good0 bad3
                    go_wp2_with (first | (go_at_call 59; refine (sIn_is hpar _).mono ?_; rintro e w2 ⟨rfl, rfl⟩))
                    go_quiet (first | (go_at_call 62; exact Calls.quiet_of_same (sRate_is h1 _)) | (go_at_call 62; exact Calls.quiet_of_same (sRate_is h2 _)) | (go_at_call 59; exact Calls.quiet_of_same (sIn_is h4 _)))
                    go_wp2
                    go_roundw
                    case rel => exact ⟨k + 1, by go_num, by omega, HN, below_drews (by go_grown) _⟩
                    case measure => first | (simp [intOf]; done) | (simp [intOf]; omega)
                  · have h5' : d < c := by omega
                    have HCC : clsB d ((q : Int), r, c, u) = false := by rw [cls_parts]; simp [h1, h2, h3, h4', h5]
                    have HC : Hid (treeCode ts = 3) := bad3 HCC
                    clear HCC good0 bad3
                    go_wp2_with (first | (go_at_call 59; refine (sIn_is hpar _).mono ?_; rintro e w2 ⟨rfl, rfl⟩))
                    go_quiet (first | (go_at_call 62; exact Calls.quiet_of_same (sRate_is h1 _)) | (go_at_call 62; exact Calls.quiet_of_same (sRate_is h2 _)) | (go_at_call 59; exact Calls.quiet_of_same (sIn_is h4 _)))
                    go_wp2
                    go_ret
                    exact ⟨ret_i HC.out.symm, below_drews (by go_grown) _⟩
              · have h3' : c < r := by omega
                have HCC : clsB d ((q : Int), r, c, u) = false := by rw [cls_parts]; simp [h1, h2, h3]
                have HC : Hid (treeCode ts = 3) := bad3 HCC
                clear HCC good0 bad3
                go_wp2_with (first | (go_at_call 59; refine (sIn_is hpar _).mono ?_; rintro e w2 ⟨rfl, rfl⟩))
                go_quiet (first | (go_at_call 62; exact Calls.quiet_of_same (sRate_is h1 _)) | (go_at_call 62; exact Calls.quiet_of_same (sRate_is h2 _)))
                go_wp2
                go_ret
                exact ⟨ret_i HC.out.symm, below_drews (by go_grown) _⟩
    · have e : k = ts.length := by omega
      subst e
      have HS : Hid (Sound ts) := sound_of HF.out
      have hq : Quad w.heap.size wr a ts := h.mono hbw
      go_wp2
      go_loop [6] (fun i => ∃ k : Nat, i = .int .i64 k ∧ k ≤ ts.length ∧ Hid (overTo ts k = false)) (fun i => ts.length - (intOf i).toNat)
      case atStart => exact ⟨0, rfl, by omega, rfl⟩
      case round =>
        obtain ⟨k, rfl, hk, HO⟩ := hrel
        by_cases hlt : k < ts.length
        · obtain ⟨b, off, rfl, hb, c0, c1, c2, c3⟩ := hq.at (Below.refl _ _) k hlt
          have hlt' : (k : Int) < (ts.length : Int) := by omega
          have hln : (ts.length : Int) ≤ 30 := by omega
          go_wp2
          go_loop [7, 8] (fun s i => ∃ (m : Nat) (v : Int), i = .int .i64 m ∧ k + 1 ≤ m ∧ m ≤ ts.length ∧ s = .int .i64 v ∧ Hid (v = kidTo ts (k : Int) m)) (fun _ i => ts.length - (intOf i).toNat)
          case atStart => exact ⟨k + 1, 0, by go_num, by omega, by omega, rfl, (HS.out.none k (k + 1) (by omega)).symm⟩
          case round =>
            obtain ⟨m, v, rfl, hm0, hm, rfl, HV⟩ := hrel
            have hv := HS.out.kids (k : Int) m
            rw [← HV.out] at hv
            have hv0 := hv.1
            have hv1 : v ≤ 30000000000000 := by omega
            clear hv
            by_cases hlm : m < ts.length
            · obtain ⟨e0, e1, e2, e3⟩ := hq.cells (Below.refl _ _) m hlm
              have hlm' : (m : Int) < (ts.length : Int) := by omega
              have hr := HS.out.rate m hlm
              obtain ⟨x, hx⟩ : ∃ x, ts[m] = x := ⟨_, rfl⟩
              rw [hx] at e0 e1 e2 e3 hr
              obtain ⟨p, r, c, u⟩ := x
              have HX : Hid (ts[m] = (p, r, c, u)) := hx
              clear hx
              simp only at e0 e1 e2 e3 hr
              have hr0 := hr.1
              have hr1 := hr.2
              clear hr
              by_cases hp : p = (k : Int)
              · have HN : Hid (v + r = kidTo ts (k : Int) (m + 1)) := by
                  show v + r = kidTo ts (k : Int) m + kidAt ts (k : Int) m
                  rw [kidAt_yes hlm (by rw [HX.out]; exact hp), HX.out, ← HV.out]
                subst hp
                go_wp2
                go_round
                case rel => exact ⟨m + 1, v + r, by go_num, by omega, by omega, rfl, HN⟩
                case measure => first | (simp [intOf]; done) | (simp [intOf]; omega)
              · have HN : Hid (v = kidTo ts (k : Int) (m + 1)) := by
                  show v = kidTo ts (k : Int) m + kidAt ts (k : Int) m
                  rw [kidAt_no hlm (by rw [HX.out]; exact hp), ← HV.out, Int.add_zero]
                have hp' : (p == (k : Int)) = false := by simp [hp]
                go_wp2
                go_round
                case rel => exact ⟨m + 1, v, by go_num, by omega, by omega, rfl, HN⟩
                case measure => first | (simp [intOf]; done) | (simp [intOf]; omega)
            · have e : m = ts.length := by omega
              subst e
              have hrk := rateOf_at hlt
              obtain ⟨r, hr⟩ : ∃ r, ts[k].2.1 = r := ⟨_, rfl⟩
              rw [hr] at c1 hrk
              clear hr
              by_cases ho : r < v
              · have HC : Hid (treeCode ts = 4) := code_sum HL.out HF.out (over_at hlt (by rw [hrk, ← HV.out]; exact ho))
                clear hrk
                go_wp2
                go_ret
                exact ⟨ret_i HC.out.symm, hbw⟩
              · have HN : Hid (overTo ts (k + 1) = false) := over_next HO.out (by rw [hrk, ← HV.out]; exact ho)
                have ho' : decide (r < v) = false := decide_eq_false ho
                clear hrk
                go_wp2
                go_round
                case rel => exact ⟨k + 1, by go_num, by omega, HN⟩
                case measure => first | (simp [intOf]; done) | (simp [intOf]; omega)
        · have e : k = ts.length := by omega
          subst e
          have HC : Hid (treeCode ts = 0) := code_zero HL.out HF.out HO.out
          go_wp2
          go_ret
          exact ⟨ret_i HC.out.symm, hbw⟩
end Go.Proofs.Ytcepopboldnical
