/- What spec.LendOk answers. -/
import Derived.Test.YtcepopboldnicalLendMath
import Derived.Test.YtcepopboldnicalLendV
import Derived.Test.YtcepopboldnicalSpecTree
namespace Go.Proofs.Ytcepopboldnical
open Go.ChangeShapes Go.WideShapes Go.ChangeAt Go.RowKit
set_option maxRecDepth 100000
set_option linter.unusedVariables false
set_option linter.unusedSimpArgs false

theorem sBok_is {r u l t : Int} {f : Bool} (h : bokB r u l t = f) (w : World) : Calls Try.prog 55 #[.agg #[.int .i64 r, .int .i64 u, .int .i64 l, .int .i64 t]] w fun e w' => e = .returned (.bool f) ∧ Below w.heap.size w w' := by subst h; exact specBucketOk_any r u l t w
theorem specTree_is {w : World} {a : Option Addr} (cap : Nat) {ts : List Q4} {c : Int} (hc : treeCode ts = c) (h : Quad w.heap.size w a ts) :
    Calls Try.prog 39 #[.slice a ts.length cap] w fun e w' => e = .returned (.int .i64 c) ∧ Below w.heap.size w w' := by subst hc; exact specTree_any cap h
theorem lend_no1 {T O P : List Q4} (h : ¬ treeCode T = 0) : lendB T O P = false := by unfold lendB; rw [decide_eq_false h]; rfl
theorem lend_no2 {T O P : List Q4} (h : ¬ O.length = T.length) : lendB T O P = false := by unfold lendB; rw [decide_eq_false h, Bool.and_false]; rfl
theorem lend_no3 {T O P : List Q4} (h : ¬ P.length = T.length) : lendB T O P = false := by unfold lendB; rw [decide_eq_false h, Bool.and_false]; rfl
theorem lend_no4 {T O P : List Q4} {k : Nat} (h : pairAt T O P k = false) (hk : k < T.length) : lendB T O P = false := by unfold lendB; rw [pair_bad h hk, Bool.and_false]
theorem lend_yes {T O P : List Q4} (h1 : treeCode T = 0) (h2 : O.length = T.length) (h3 : P.length = T.length) (h4 : pairTo T O P T.length = true) : lendB T O P = true := by
  unfold lendB
  rw [decide_eq_true h1, decide_eq_true h2, decide_eq_true h3, h4]
  rfl
theorem pairB_parts {A ar au al at' br bu bl bt tp tr tc tu : Int} : pairB A (ar, au, al, at') (br, bu, bl, bt) (tp, tr, tc, tu) = (((((((bokB ar au al at' && bokB br bu bl bt) && decide (at' = A)) && decide (bt = A)) && decide (ar = tr)) && decide (br = tc)) && decide (au = tu)) && decide (bu = tu)) := rfl
set_option maxHeartbeats 16000000 in
theorem specLendOk_any {w : World} {aT aO aP : Option Addr} (cT cO cP : Nat) {T O P : List Q4} (hT : Quad w.heap.size w aT T) (hO : Quad w.heap.size w aO O) (hP : Quad w.heap.size w aP P) :
    Calls Try.prog 30 #[lendV aT T.length cT aO O.length cO aP P.length cP] w fun e w' => e = .returned (.bool (lendB T O P)) ∧ Below w.heap.size w w' := by
  by_cases hc : treeCode T = 0
  rotate_left
  · have HC : Hid (lendB T O P = false) := lend_no1 hc
    have nb : Below w.heap.size w (w.alloc (.cells #[.slice aT T.length cT, .slice aO O.length cO, .slice aP P.length cP] 38)) := new_below _ _
    have hc' : (treeCode T == 0) = false := by simp [hc]
    go_enter Try.func30, Try.ntmps30
    go_wp2_with (first | (go_at_call 39; refine (specTree_any cT (hT.here nb)).mono ?_; rintro e w2 ⟨rfl, hb2⟩))
    go_ret
    exact ⟨retQ HC.out.symm, below_step nb hb2⟩
  by_cases hlo : O.length = T.length
  rotate_left
  · have HC : Hid (lendB T O P = false) := lend_no2 hlo
    have nb : Below w.heap.size w (w.alloc (.cells #[.slice aT T.length cT, .slice aO O.length cO, .slice aP P.length cP] 38)) := new_below _ _
    have hl' : ((O.length : Int) == (T.length : Int)) = false := by rw [beq_eq_false_iff_ne]; omega
    have c1 : (w.alloc (.cells #[.slice aT T.length cT, .slice aO O.length cO, .slice aP P.length cP] 38)).cell? ⟨w.heap.size, 1, none⟩ = some (.slice aO O.length cO) := by go_simp
    have zb : w.heap.size < (w.alloc (.cells #[.slice aT T.length cT, .slice aO O.length cO, .slice aP P.length cP] 38)).heap.size := by simp
    go_enter Try.func30, Try.ntmps30
    go_wp2_with (first | (go_at_call 39; refine (specTree_is cT hc (hT.here nb)).mono ?_; rintro e w2 ⟨rfl, hb2⟩; have k1 := (below_cells hb2 _ _ zb).trans c1))
    go_ret
    exact ⟨retQ HC.out.symm, below_step nb hb2⟩
  by_cases hlp : P.length = T.length
  rotate_left
  · have HC : Hid (lendB T O P = false) := lend_no3 hlp
    have HLO : Hid (O.length = T.length) := hlo
    rw [hlo]
    have nb : Below w.heap.size w (w.alloc (.cells #[.slice aT T.length cT, .slice aO T.length cO, .slice aP P.length cP] 38)) := new_below _ _
    have hl' : ((P.length : Int) == (T.length : Int)) = false := by rw [beq_eq_false_iff_ne]; omega
    have c1 : (w.alloc (.cells #[.slice aT T.length cT, .slice aO T.length cO, .slice aP P.length cP] 38)).cell? ⟨w.heap.size, 1, none⟩ = some (.slice aO T.length cO) := by go_simp
    have c2 : (w.alloc (.cells #[.slice aT T.length cT, .slice aO T.length cO, .slice aP P.length cP] 38)).cell? ⟨w.heap.size, 2, none⟩ = some (.slice aP P.length cP) := by go_simp
    have zb : w.heap.size < (w.alloc (.cells #[.slice aT T.length cT, .slice aO T.length cO, .slice aP P.length cP] 38)).heap.size := by simp
    clear hlo
    go_enter Try.func30, Try.ntmps30
    go_wp2_with (first | (go_at_call 39; refine (specTree_is cT hc (hT.here nb)).mono ?_; rintro e w2 ⟨rfl, hb2⟩; have k1 := (below_cells hb2 _ _ zb).trans c1; have k2 := (below_cells hb2 _ _ zb).trans c2))
    go_ret
    exact ⟨retQ HC.out.symm, below_step nb hb2⟩
  have ht := tree_of hc
  have hl1 := ht.l0
  have hl30 := ht.l1
  clear ht
  have HLO : Hid (O.length = T.length) := hlo
  have HLP : Hid (P.length = T.length) := hlp
  rw [hlo, hlp]
  clear hlo hlp
  have h0O : 0 < O.length := by have := HLO.out; omega
  have hln : (T.length : Int) ≤ 30 := by omega
  have hl0 : (0 : Int) < (T.length : Int) := by omega
  obtain ⟨A, hA⟩ : ∃ A, O[0].2.2.2 = A := ⟨_, rfl⟩
  have HA : Hid (atOf O = A) := by
    show atOf O = A
    unfold atOf
    rw [List.getElem?_eq_getElem h0O, ← hA]
  obtain ⟨bo, oo, hao, hbo, _, _, _, qA⟩ := hO.at (Below.refl _ _) 0 h0O
  rw [hA, Nat.zero_mul, Nat.add_zero] at qA
  subst hao
  clear hA
  have nb : Below w.heap.size w (w.alloc (.cells #[.slice aT T.length cT, .slice (some ⟨bo, oo, none⟩) T.length cO, .slice aP T.length cP] 38)) := new_below _ _
  have c0 : (w.alloc (.cells #[.slice aT T.length cT, .slice (some ⟨bo, oo, none⟩) T.length cO, .slice aP T.length cP] 38)).cell? ⟨w.heap.size, 0, none⟩ = some (.slice aT T.length cT) := by go_simp
  have c1 : (w.alloc (.cells #[.slice aT T.length cT, .slice (some ⟨bo, oo, none⟩) T.length cO, .slice aP T.length cP] 38)).cell? ⟨w.heap.size, 1, none⟩ = some (.slice (some ⟨bo, oo, none⟩) T.length cO) := by go_simp
  have c2 : (w.alloc (.cells #[.slice aT T.length cT, .slice (some ⟨bo, oo, none⟩) T.length cO, .slice aP T.length cP] 38)).cell? ⟨w.heap.size, 2, none⟩ = some (.slice aP T.length cP) := by go_simp
  have zb : w.heap.size < (w.alloc (.cells #[.slice aT T.length cT, .slice (some ⟨bo, oo, none⟩) T.length cO, .slice aP T.length cP] 38)).heap.size := by simp
  go_enter Try.func30, Try.ntmps30
  go_upto_region 5 with (go_at_call 39; refine (specTree_is cT hc (hT.here nb)).mono ?_; rintro e w2 ⟨rfl, hb2⟩; have k0 := (below_cells hb2 _ _ zb).trans c0; have k1 := (below_cells hb2 _ _ zb).trans c1; have k2 := (below_cells hb2 _ _ zb).trans c2; have kA := ((below_step nb hb2).cell (p := ⟨bo, oo + 3, none⟩) hbo).trans qA)
  go_wp2
  clear kA
  have hb0 : Below w.heap.size w w2 := below_step nb hb2
  have zb2 : w.heap.size < w2.heap.size := Nat.lt_of_lt_of_le zb hb2.size
  clear c0 c1 c2 zb nb hb2
  go_loopw [5] (fun i wr => ∃ k : Nat, i = .int .i64 k ∧ k ≤ T.length ∧ Hid (pairTo T O P k = true) ∧ Below w2.heap.size w2 wr) (fun i _ => T.length - (intOf i).toNat)
  case atStart => exact ⟨0, rfl, by omega, rfl, Below.refl _ _⟩
  case round =>
    obtain ⟨k, rfl, hk, HF, hbr⟩ := hrel
    have q0 := (below_cells hbr _ _ zb2).trans k0
    have q1 := (below_cells hbr _ _ zb2).trans k1
    have q2 := (below_cells hbr _ _ zb2).trans k2
    clear k0 k1 k2
    have hbw : Below w.heap.size w wr := below_step hb0 hbr
    have zr := hbr.size
    have zr' : w.heap.size < wr.heap.size := by omega
    by_cases hlt : k < T.length
    · have hlt' : (k : Int) < (T.length : Int) := by omega
      have hko : k < O.length := by have := HLO.out; omega
      have hkp : k < P.length := by have := HLP.out; omega
      obtain ⟨_, _, e1, hb1, x0, x1, x2, x3⟩ := hO.at hbw k hko
      cases e1
      obtain ⟨bp, op, rfl, hb4, y0, y1, y2, y3⟩ := hP.at hbw k hkp
      obtain ⟨bt', ot, rfl, hb5, t0, t1, t2, t3⟩ := hT.at hbw k hlt
      have HPA := pairAt_at hlt hko hkp
      obtain ⟨xa, hxa⟩ : ∃ x, O[k] = x := ⟨_, rfl⟩
      obtain ⟨xb, hxb⟩ : ∃ x, P[k] = x := ⟨_, rfl⟩
      obtain ⟨xt, hxt⟩ : ∃ x, T[k] = x := ⟨_, rfl⟩
      rw [hxa, hxb, hxt, HA.out] at HPA
      rw [hxa] at x0 x1 x2 x3
      rw [hxb] at y0 y1 y2 y3
      rw [hxt] at t0 t1 t2 t3
      obtain ⟨ar, au, al, at'⟩ := xa
      obtain ⟨br, bu, bl, bt⟩ := xb
      obtain ⟨tp, tr, tc, tu⟩ := xt
      simp only at x0 x1 x2 x3 y0 y1 y2 y3 t0 t1 t2 t3
      clear hxa hxb hxt
      have HPA : Hid (pairAt T O P k = pairB A (ar, au, al, at') (br, bu, bl, bt) (tp, tr, tc, tu)) := HPA
      have hbq : Below w2.heap.size w2 (((wr.alloc (.cells #[.int .i64 ar, .int .i64 au, .int .i64 al, .int .i64 at'] 63)).alloc (.cells #[.int .i64 br, .int .i64 bu, .int .i64 bl, .int .i64 bt] 63)).alloc (.cells #[.int .i64 tp, .int .i64 tr, .int .i64 tc, .int .i64 tu] 52)) := by go_grown
      have hbq2 : Below w.heap.size w (((wr.alloc (.cells #[.int .i64 ar, .int .i64 au, .int .i64 al, .int .i64 at'] 63)).alloc (.cells #[.int .i64 br, .int .i64 bu, .int .i64 bl, .int .i64 bt] 63)).alloc (.cells #[.int .i64 tp, .int .i64 tr, .int .i64 tc, .int .i64 tu] 52)) := by go_grown
      have KC : Hid (Cells (((wr.alloc (.cells #[.int .i64 ar, .int .i64 au, .int .i64 al, .int .i64 at'] 63)).alloc (.cells #[.int .i64 br, .int .i64 bu, .int .i64 bl, .int .i64 bt] 63)).alloc (.cells #[.int .i64 tp, .int .i64 tr, .int .i64 tc, .int .i64 tu] 52)) [(wr.heap.size, 0, .int .i64 ar), (wr.heap.size, 1, .int .i64 au), (wr.heap.size, 2, .int .i64 al), (wr.heap.size, 3, .int .i64 at'), (wr.heap.size + 1, 0, .int .i64 br), (wr.heap.size + 1, 1, .int .i64 bu), (wr.heap.size + 1, 2, .int .i64 bl), (wr.heap.size + 1, 3, .int .i64 bt), (wr.heap.size + 2, 0, .int .i64 tp), (wr.heap.size + 2, 1, .int .i64 tr), (wr.heap.size + 2, 2, .int .i64 tc), (wr.heap.size + 2, 3, .int .i64 tu)]) := ⟨⟨by simp <;> omega, by go_simp⟩, ⟨by simp <;> omega, by go_simp⟩, ⟨by simp <;> omega, by go_simp⟩, ⟨by simp <;> omega, by go_simp⟩, ⟨by simp <;> omega, by go_simp⟩, ⟨by simp <;> omega, by go_simp⟩, ⟨by simp <;> omega, by go_simp⟩, ⟨by simp <;> omega, by go_simp⟩, ⟨by simp <;> omega, by go_simp⟩, ⟨by simp <;> omega, by go_simp⟩, ⟨by simp <;> omega, by go_simp⟩, ⟨by simp <;> omega, by go_simp⟩, trivial⟩
      have s1 : bo < wr.heap.size := by omega
      have s2 : bp < wr.heap.size := by omega
      have s3 : bt' < wr.heap.size := by omega
      have s4 : bt' < wr.heap.size + 1 := by omega
      have s5 : w.heap.size < wr.heap.size + 1 := by omega
      cases h1 : bokB ar au al at'
      · skip
        have HC : Hid (lendB T O P = false) := lend_no4 (k := k) (by rw [HPA.out, pairB_parts]; simp [h1]) hlt
        clear HPA
        go_upto_region 11 with (fail)
        go_wp2_with (first | (go_at_call 55; refine (sBok_is h1 _).mono ?_; rintro e w5 ⟨rfl, hb2⟩; have C2 : Hid (Cells w5 [(wr.heap.size, 0, .int .i64 ar), (wr.heap.size, 1, .int .i64 au), (wr.heap.size, 2, .int .i64 al), (wr.heap.size, 3, .int .i64 at'), (wr.heap.size + 1, 0, .int .i64 br), (wr.heap.size + 1, 1, .int .i64 bu), (wr.heap.size + 1, 2, .int .i64 bl), (wr.heap.size + 1, 3, .int .i64 bt), (wr.heap.size + 2, 0, .int .i64 tp), (wr.heap.size + 2, 1, .int .i64 tr), (wr.heap.size + 2, 2, .int .i64 tc), (wr.heap.size + 2, 3, .int .i64 tu)]) := KC.out.next hb2; have ⟨⟨_, k0⟩, ⟨_, k1⟩, ⟨_, k2⟩, ⟨_, k3⟩, ⟨_, k4⟩, ⟨_, k5⟩, ⟨_, k6⟩, ⟨_, k7⟩, ⟨_, k8⟩, ⟨_, k9⟩, ⟨_, k10⟩, ⟨_, k11⟩, _⟩ := C2.out; have hby := below_step hbq hb2; have hby2 := below_step hbq2 hb2; have m1 := h1))
        go_ret
        exact ⟨retQ HC.out.symm, hby2⟩
      · skip
        cases h2 : bokB br bu bl bt
        · skip
          have HC : Hid (lendB T O P = false) := lend_no4 (k := k) (by rw [HPA.out, pairB_parts]; simp [h1, h2]) hlt
          clear HPA
          go_upto_region 11 with (fail)
          go_wp2_with (first | (go_at_call 55; have g1 := m1; refine (sBok_is h2 _).mono ?_; rintro e w6 ⟨rfl, hb3⟩; have C3 := C2.out.next hb3; have ⟨⟨_, j0⟩, ⟨_, j1⟩, ⟨_, j2⟩, ⟨_, j3⟩, ⟨_, j4⟩, ⟨_, j5⟩, ⟨_, j6⟩, ⟨_, j7⟩, ⟨_, j8⟩, ⟨_, j9⟩, ⟨_, j10⟩, ⟨_, j11⟩, _⟩ := C3; clear C3; have hbz := below_step hby hb3; have hbz2 := below_step hby2 hb3) | (go_at_call 55; refine (sBok_is h1 _).mono ?_; rintro e w5 ⟨rfl, hb2⟩; have C2 : Hid (Cells w5 [(wr.heap.size, 0, .int .i64 ar), (wr.heap.size, 1, .int .i64 au), (wr.heap.size, 2, .int .i64 al), (wr.heap.size, 3, .int .i64 at'), (wr.heap.size + 1, 0, .int .i64 br), (wr.heap.size + 1, 1, .int .i64 bu), (wr.heap.size + 1, 2, .int .i64 bl), (wr.heap.size + 1, 3, .int .i64 bt), (wr.heap.size + 2, 0, .int .i64 tp), (wr.heap.size + 2, 1, .int .i64 tr), (wr.heap.size + 2, 2, .int .i64 tc), (wr.heap.size + 2, 3, .int .i64 tu)]) := KC.out.next hb2; have ⟨⟨_, k0⟩, ⟨_, k1⟩, ⟨_, k2⟩, ⟨_, k3⟩, ⟨_, k4⟩, ⟨_, k5⟩, ⟨_, k6⟩, ⟨_, k7⟩, ⟨_, k8⟩, ⟨_, k9⟩, ⟨_, k10⟩, ⟨_, k11⟩, _⟩ := C2.out; have hby := below_step hbq hb2; have hby2 := below_step hbq2 hb2; have m1 := h1))
          go_ret
          exact ⟨retQ HC.out.symm, hbz2⟩
        · skip
          by_cases h3 : at' = A
          rotate_left
          · skip
            have HC : Hid (lendB T O P = false) := lend_no4 (k := k) (by rw [HPA.out, pairB_parts]; simp [h1, h2, h3]) hlt
            have h3' : (at' == A) = false := by simp [h3]
            clear HPA
            go_upto_region 11 with (fail)
            go_wp2_with (first | (go_at_call 55; have g1 := m1; refine (sBok_is h2 _).mono ?_; rintro e w6 ⟨rfl, hb3⟩; have C3 := C2.out.next hb3; have ⟨⟨_, j0⟩, ⟨_, j1⟩, ⟨_, j2⟩, ⟨_, j3⟩, ⟨_, j4⟩, ⟨_, j5⟩, ⟨_, j6⟩, ⟨_, j7⟩, ⟨_, j8⟩, ⟨_, j9⟩, ⟨_, j10⟩, ⟨_, j11⟩, _⟩ := C3; clear C3; have hbz := below_step hby hb3; have hbz2 := below_step hby2 hb3) | (go_at_call 55; refine (sBok_is h1 _).mono ?_; rintro e w5 ⟨rfl, hb2⟩; have C2 : Hid (Cells w5 [(wr.heap.size, 0, .int .i64 ar), (wr.heap.size, 1, .int .i64 au), (wr.heap.size, 2, .int .i64 al), (wr.heap.size, 3, .int .i64 at'), (wr.heap.size + 1, 0, .int .i64 br), (wr.heap.size + 1, 1, .int .i64 bu), (wr.heap.size + 1, 2, .int .i64 bl), (wr.heap.size + 1, 3, .int .i64 bt), (wr.heap.size + 2, 0, .int .i64 tp), (wr.heap.size + 2, 1, .int .i64 tr), (wr.heap.size + 2, 2, .int .i64 tc), (wr.heap.size + 2, 3, .int .i64 tu)]) := KC.out.next hb2; have ⟨⟨_, k0⟩, ⟨_, k1⟩, ⟨_, k2⟩, ⟨_, k3⟩, ⟨_, k4⟩, ⟨_, k5⟩, ⟨_, k6⟩, ⟨_, k7⟩, ⟨_, k8⟩, ⟨_, k9⟩, ⟨_, k10⟩, ⟨_, k11⟩, _⟩ := C2.out; have hby := below_step hbq hb2; have hby2 := below_step hbq2 hb2; have m1 := h1))
            go_ret
            exact ⟨retQ HC.out.symm, hbz2⟩
          · subst at'
            by_cases h4 : bt = A
            rotate_left
            · skip
              have HC : Hid (lendB T O P = false) := lend_no4 (k := k) (by rw [HPA.out, pairB_parts]; simp [h1, h2, h4]) hlt
              have h4' : (bt == A) = false := by simp [h4]
              clear HPA
              go_upto_region 11 with (fail)
              go_wp2_with (first | (go_at_call 55; have g1 := m1; refine (sBok_is h2 _).mono ?_; rintro e w6 ⟨rfl, hb3⟩; have C3 := C2.out.next hb3; have ⟨⟨_, j0⟩, ⟨_, j1⟩, ⟨_, j2⟩, ⟨_, j3⟩, ⟨_, j4⟩, ⟨_, j5⟩, ⟨_, j6⟩, ⟨_, j7⟩, ⟨_, j8⟩, ⟨_, j9⟩, ⟨_, j10⟩, ⟨_, j11⟩, _⟩ := C3; clear C3; have hbz := below_step hby hb3; have hbz2 := below_step hby2 hb3) | (go_at_call 55; refine (sBok_is h1 _).mono ?_; rintro e w5 ⟨rfl, hb2⟩; have C2 : Hid (Cells w5 [(wr.heap.size, 0, .int .i64 ar), (wr.heap.size, 1, .int .i64 au), (wr.heap.size, 2, .int .i64 al), (wr.heap.size, 3, .int .i64 A), (wr.heap.size + 1, 0, .int .i64 br), (wr.heap.size + 1, 1, .int .i64 bu), (wr.heap.size + 1, 2, .int .i64 bl), (wr.heap.size + 1, 3, .int .i64 bt), (wr.heap.size + 2, 0, .int .i64 tp), (wr.heap.size + 2, 1, .int .i64 tr), (wr.heap.size + 2, 2, .int .i64 tc), (wr.heap.size + 2, 3, .int .i64 tu)]) := KC.out.next hb2; have ⟨⟨_, k0⟩, ⟨_, k1⟩, ⟨_, k2⟩, ⟨_, k3⟩, ⟨_, k4⟩, ⟨_, k5⟩, ⟨_, k6⟩, ⟨_, k7⟩, ⟨_, k8⟩, ⟨_, k9⟩, ⟨_, k10⟩, ⟨_, k11⟩, _⟩ := C2.out; have hby := below_step hbq hb2; have hby2 := below_step hbq2 hb2; have m1 := h1))
              go_ret
              exact ⟨retQ HC.out.symm, hbz2⟩
            · subst bt
              by_cases h5 : ar = tr
              rotate_left
              · skip
                have HC : Hid (lendB T O P = false) := lend_no4 (k := k) (by rw [HPA.out, pairB_parts]; simp [h1, h2, h5]) hlt
                have h5' : (ar == tr) = false := by simp [h5]
                clear HPA
                go_upto_region 11 with (fail)
                go_wp2_with (first | (go_at_call 55; have g1 := m1; refine (sBok_is h2 _).mono ?_; rintro e w6 ⟨rfl, hb3⟩; have C3 := C2.out.next hb3; have ⟨⟨_, j0⟩, ⟨_, j1⟩, ⟨_, j2⟩, ⟨_, j3⟩, ⟨_, j4⟩, ⟨_, j5⟩, ⟨_, j6⟩, ⟨_, j7⟩, ⟨_, j8⟩, ⟨_, j9⟩, ⟨_, j10⟩, ⟨_, j11⟩, _⟩ := C3; clear C3; have hbz := below_step hby hb3; have hbz2 := below_step hby2 hb3) | (go_at_call 55; refine (sBok_is h1 _).mono ?_; rintro e w5 ⟨rfl, hb2⟩; have C2 : Hid (Cells w5 [(wr.heap.size, 0, .int .i64 ar), (wr.heap.size, 1, .int .i64 au), (wr.heap.size, 2, .int .i64 al), (wr.heap.size, 3, .int .i64 A), (wr.heap.size + 1, 0, .int .i64 br), (wr.heap.size + 1, 1, .int .i64 bu), (wr.heap.size + 1, 2, .int .i64 bl), (wr.heap.size + 1, 3, .int .i64 A), (wr.heap.size + 2, 0, .int .i64 tp), (wr.heap.size + 2, 1, .int .i64 tr), (wr.heap.size + 2, 2, .int .i64 tc), (wr.heap.size + 2, 3, .int .i64 tu)]) := KC.out.next hb2; have ⟨⟨_, k0⟩, ⟨_, k1⟩, ⟨_, k2⟩, ⟨_, k3⟩, ⟨_, k4⟩, ⟨_, k5⟩, ⟨_, k6⟩, ⟨_, k7⟩, ⟨_, k8⟩, ⟨_, k9⟩, ⟨_, k10⟩, ⟨_, k11⟩, _⟩ := C2.out; have hby := below_step hbq hb2; have hby2 := below_step hbq2 hb2; have m1 := h1))
                go_ret
                exact ⟨retQ HC.out.symm, hbz2⟩
              · subst ar
                by_cases h6 : br = tc
                rotate_left
                · skip
                  have HC : Hid (lendB T O P = false) := lend_no4 (k := k) (by rw [HPA.out, pairB_parts]; simp [h1, h2, h6]) hlt
                  have h6' : (br == tc) = false := by simp [h6]
                  clear HPA
                  go_upto_region 11 with (fail)
                  go_wp2_with (first | (go_at_call 55; have g1 := m1; refine (sBok_is h2 _).mono ?_; rintro e w6 ⟨rfl, hb3⟩; have C3 := C2.out.next hb3; have ⟨⟨_, j0⟩, ⟨_, j1⟩, ⟨_, j2⟩, ⟨_, j3⟩, ⟨_, j4⟩, ⟨_, j5⟩, ⟨_, j6⟩, ⟨_, j7⟩, ⟨_, j8⟩, ⟨_, j9⟩, ⟨_, j10⟩, ⟨_, j11⟩, _⟩ := C3; clear C3; have hbz := below_step hby hb3; have hbz2 := below_step hby2 hb3) | (go_at_call 55; refine (sBok_is h1 _).mono ?_; rintro e w5 ⟨rfl, hb2⟩; have C2 : Hid (Cells w5 [(wr.heap.size, 0, .int .i64 tr), (wr.heap.size, 1, .int .i64 au), (wr.heap.size, 2, .int .i64 al), (wr.heap.size, 3, .int .i64 A), (wr.heap.size + 1, 0, .int .i64 br), (wr.heap.size + 1, 1, .int .i64 bu), (wr.heap.size + 1, 2, .int .i64 bl), (wr.heap.size + 1, 3, .int .i64 A), (wr.heap.size + 2, 0, .int .i64 tp), (wr.heap.size + 2, 1, .int .i64 tr), (wr.heap.size + 2, 2, .int .i64 tc), (wr.heap.size + 2, 3, .int .i64 tu)]) := KC.out.next hb2; have ⟨⟨_, k0⟩, ⟨_, k1⟩, ⟨_, k2⟩, ⟨_, k3⟩, ⟨_, k4⟩, ⟨_, k5⟩, ⟨_, k6⟩, ⟨_, k7⟩, ⟨_, k8⟩, ⟨_, k9⟩, ⟨_, k10⟩, ⟨_, k11⟩, _⟩ := C2.out; have hby := below_step hbq hb2; have hby2 := below_step hbq2 hb2; have m1 := h1))
                  go_ret
                  exact ⟨retQ HC.out.symm, hbz2⟩
                · subst br
                  by_cases h7 : au = tu
                  rotate_left
                  · skip
                    have HC : Hid (lendB T O P = false) := lend_no4 (k := k) (by rw [HPA.out, pairB_parts]; simp [h1, h2, h7]) hlt
                    have h7' : (au == tu) = false := by simp [h7]
                    clear HPA
                    go_upto_region 11 with (fail)
                    go_wp2_with (first | (go_at_call 55; have g1 := m1; refine (sBok_is h2 _).mono ?_; rintro e w6 ⟨rfl, hb3⟩; have C3 := C2.out.next hb3; have ⟨⟨_, j0⟩, ⟨_, j1⟩, ⟨_, j2⟩, ⟨_, j3⟩, ⟨_, j4⟩, ⟨_, j5⟩, ⟨_, j6⟩, ⟨_, j7⟩, ⟨_, j8⟩, ⟨_, j9⟩, ⟨_, j10⟩, ⟨_, j11⟩, _⟩ := C3; clear C3; have hbz := below_step hby hb3; have hbz2 := below_step hby2 hb3) | (go_at_call 55; refine (sBok_is h1 _).mono ?_; rintro e w5 ⟨rfl, hb2⟩; have C2 : Hid (Cells w5 [(wr.heap.size, 0, .int .i64 tr), (wr.heap.size, 1, .int .i64 au), (wr.heap.size, 2, .int .i64 al), (wr.heap.size, 3, .int .i64 A), (wr.heap.size + 1, 0, .int .i64 tc), (wr.heap.size + 1, 1, .int .i64 bu), (wr.heap.size + 1, 2, .int .i64 bl), (wr.heap.size + 1, 3, .int .i64 A), (wr.heap.size + 2, 0, .int .i64 tp), (wr.heap.size + 2, 1, .int .i64 tr), (wr.heap.size + 2, 2, .int .i64 tc), (wr.heap.size + 2, 3, .int .i64 tu)]) := KC.out.next hb2; have ⟨⟨_, k0⟩, ⟨_, k1⟩, ⟨_, k2⟩, ⟨_, k3⟩, ⟨_, k4⟩, ⟨_, k5⟩, ⟨_, k6⟩, ⟨_, k7⟩, ⟨_, k8⟩, ⟨_, k9⟩, ⟨_, k10⟩, ⟨_, k11⟩, _⟩ := C2.out; have hby := below_step hbq hb2; have hby2 := below_step hbq2 hb2; have m1 := h1))
                    go_ret
                    exact ⟨retQ HC.out.symm, hbz2⟩
                  · subst au
                    by_cases h8 : bu = tu
                    rotate_left
                    · skip
                      have HC : Hid (lendB T O P = false) := lend_no4 (k := k) (by rw [HPA.out, pairB_parts]; simp [h1, h2, h8]) hlt
                      have h8' : (bu == tu) = false := by simp [h8]
                      clear HPA
                      go_upto_region 11 with (fail)
                      go_wp2_with (first | (go_at_call 55; have g1 := m1; refine (sBok_is h2 _).mono ?_; rintro e w6 ⟨rfl, hb3⟩; have C3 := C2.out.next hb3; have ⟨⟨_, j0⟩, ⟨_, j1⟩, ⟨_, j2⟩, ⟨_, j3⟩, ⟨_, j4⟩, ⟨_, j5⟩, ⟨_, j6⟩, ⟨_, j7⟩, ⟨_, j8⟩, ⟨_, j9⟩, ⟨_, j10⟩, ⟨_, j11⟩, _⟩ := C3; clear C3; have hbz := below_step hby hb3; have hbz2 := below_step hby2 hb3) | (go_at_call 55; refine (sBok_is h1 _).mono ?_; rintro e w5 ⟨rfl, hb2⟩; have C2 : Hid (Cells w5 [(wr.heap.size, 0, .int .i64 tr), (wr.heap.size, 1, .int .i64 tu), (wr.heap.size, 2, .int .i64 al), (wr.heap.size, 3, .int .i64 A), (wr.heap.size + 1, 0, .int .i64 tc), (wr.heap.size + 1, 1, .int .i64 bu), (wr.heap.size + 1, 2, .int .i64 bl), (wr.heap.size + 1, 3, .int .i64 A), (wr.heap.size + 2, 0, .int .i64 tp), (wr.heap.size + 2, 1, .int .i64 tr), (wr.heap.size + 2, 2, .int .i64 tc), (wr.heap.size + 2, 3, .int .i64 tu)]) := KC.out.next hb2; have ⟨⟨_, k0⟩, ⟨_, k1⟩, ⟨_, k2⟩, ⟨_, k3⟩, ⟨_, k4⟩, ⟨_, k5⟩, ⟨_, k6⟩, ⟨_, k7⟩, ⟨_, k8⟩, ⟨_, k9⟩, ⟨_, k10⟩, ⟨_, k11⟩, _⟩ := C2.out; have hby := below_step hbq hb2; have hby2 := below_step hbq2 hb2; have m1 := h1))
                      go_ret
                      exact ⟨retQ HC.out.symm, hbz2⟩
                    · subst bu
                      have HPB : Hid (pairTo T O P (k + 1) = true) := by
                        show (pairTo T O P k && pairAt T O P k) = true
                        rw [HF.out, HPA.out, pairB_parts]
                        simp [h1, h2]
                      clear HPA
                      go_upto_region 11 with (fail)
                      go_wp2_with (first | (go_at_call 55; have g1 := m1; refine (sBok_is h2 _).mono ?_; rintro e w6 ⟨rfl, hb3⟩; have C3 := C2.out.next hb3; have ⟨⟨_, j0⟩, ⟨_, j1⟩, ⟨_, j2⟩, ⟨_, j3⟩, ⟨_, j4⟩, ⟨_, j5⟩, ⟨_, j6⟩, ⟨_, j7⟩, ⟨_, j8⟩, ⟨_, j9⟩, ⟨_, j10⟩, ⟨_, j11⟩, _⟩ := C3; clear C3; have hbz := below_step hby hb3; have hbz2 := below_step hby2 hb3) | (go_at_call 55; refine (sBok_is h1 _).mono ?_; rintro e w5 ⟨rfl, hb2⟩; have C2 : Hid (Cells w5 [(wr.heap.size, 0, .int .i64 tr), (wr.heap.size, 1, .int .i64 tu), (wr.heap.size, 2, .int .i64 al), (wr.heap.size, 3, .int .i64 A), (wr.heap.size + 1, 0, .int .i64 tc), (wr.heap.size + 1, 1, .int .i64 tu), (wr.heap.size + 1, 2, .int .i64 bl), (wr.heap.size + 1, 3, .int .i64 A), (wr.heap.size + 2, 0, .int .i64 tp), (wr.heap.size + 2, 1, .int .i64 tr), (wr.heap.size + 2, 2, .int .i64 tc), (wr.heap.size + 2, 3, .int .i64 tu)]) := KC.out.next hb2; have ⟨⟨_, k0⟩, ⟨_, k1⟩, ⟨_, k2⟩, ⟨_, k3⟩, ⟨_, k4⟩, ⟨_, k5⟩, ⟨_, k6⟩, ⟨_, k7⟩, ⟨_, k8⟩, ⟨_, k9⟩, ⟨_, k10⟩, ⟨_, k11⟩, _⟩ := C2.out; have hby := below_step hbq hb2; have hby2 := below_step hbq2 hb2; have m1 := h1))
                      go_roundw
                      case rel => exact ⟨k + 1, by go_num, by omega, HPB, hbz⟩
                      case measure => first | (simp [intOf]; done) | (simp [intOf]; omega)
    · have e : k = T.length := by omega
      subst e
      have HC : Hid (lendB T O P = true) := lend_yes hc HLO.out HLP.out HF.out
      go_wp2
      go_ret
      exact ⟨retQ HC.out.symm, hbw⟩
theorem specLendOk_is {w : World} {aT aO aP : Option Addr} (cT cO cP : Nat) {T O P : List Q4} {f : Bool} (hf : lendB T O P = f) (hT : Quad w.heap.size w aT T) (hO : Quad w.heap.size w aO O) (hP : Quad w.heap.size w aP P) :
    Calls Try.prog 30 #[lendV aT T.length cT aO O.length cO aP P.length cP] w fun e w' => e = .returned (.bool f) ∧ Below w.heap.size w w' := by subst hf; exact specLendOk_any cT cO cP hT hO hP
end Go.Proofs.Ytcepopboldnical
